/- A finite float's value as an exact number: the walk of exact's Of; the numbers that round meets there. The walk of exact's Round at the value of a float, in every way. The walk of exact's Round at the value of a float, in every way. The state of a sum as it is made; finite floats. The walks of cmp.Compare of ints, of exact's below and take of one digit. The walks of exact's Mul where the product is too long, and of Cmp of numbers with two signs. The walk of exact's product. The walk of exact's orderOfSizes. exact's order, Cmp, product and Mul of any two numbers. The walks of exact's Sub. exact's Cmp, product and Mul of any two numbers. -/
import Derived.Test.YtpkeadfndgddlaaDoorZl30
import Derived.Test.YtpkeadfndgddlaaDoorZl31
import Derived.Test.YtpkeadfndgddlaaDoorZl27
import Derived.Test.YtpkeadfndgddlaaDoorZl12
import Derived.BigRegion
import Derived.Test.YtpkeadfndgddlaaDoorZl13
namespace Go.Proofs.YtpkeadfndgddlaaDoor
open Go.ChangeShapes Go.WideShapes Go.ChangeAt Go.RowKit
set_option linter.unusedVariables false
set_option linter.unusedSimpArgs false
set_option maxHeartbeats 16000000
set_option maxRecDepth 100000
theorem fin_of (b n : Int) (hn : n = 64 ∨ n = 32) (hc : cls b n < 3) : fin b n = true := by simp [fin, hn, hc]
theorem fl_64 (b : Int) (hc : cls b 64 < 3) : 0 ≤ pmag b 64 ∧ pmag b 64 < 9007199254740992 ∧ -1074 ≤ pexp b 64 ∧ pexp b 64 ≤ 971 ∧ (pmag b 64 < 4503599627370496 → pexp b 64 = -1074) := by
 have hf := fin_of b 64 (.inl rfl) hc
 have hs : b % 9223372036854775808 < 9218868437227405312 := by
  unfold cls clsOf at hc
  simp only [if_true] at hc
  (repeat' split at hc) <;> omega
 unfold pmag pexp
 rw [if_pos hf, if_pos rfl, if_pos hf, if_pos rfl]
 (repeat' split) <;> omega
theorem fl_32 (b : Int) (hc : cls b 32 < 3) : 0 ≤ pmag b 32 ∧ pmag b 32 < 16777216 ∧ -149 ≤ pexp b 32 ∧ pexp b 32 ≤ 104 ∧ (pmag b 32 < 8388608 → pexp b 32 = -149) := by
 have hf := fin_of b 32 (.inr rfl) hc
 have hs : b % 2147483648 < 2139095040 := by
  unfold cls clsOf at hc
  rw [if_neg (by decide), if_pos rfl] at hc
  (repeat' split at hc) <;> omega
 unfold pmag pexp
 simp only [hf, if_true, show ¬ ((32 : Int) = 64) by decide, if_false]
 (repeat' split) <;> omega
theorem and_nat (a b : Nat) (ha : a < 9223372036854775808) (hb : b < 9223372036854775808) : bits .and .i64 (a : Int) (b : Int) = ((a &&& b : Nat) : Int) := by
 rw [bits_and, BitVec.toNat_and]
 have h1 := ofInt_toNat (a : Int)
 have h2 := ofInt_toNat (b : Int)
 have e1 : (BitVec.ofInt 64 (a : Int)).toNat = a := by omega
 have e2 : (BitVec.ofInt 64 (b : Int)).toNat = b := by omega
 have h3 : a &&& b ≤ a := Nat.and_le_left
 rw [e1, e2, wrap_i64]
 omega
theorem and_mask (a m : Nat) (ha : a < 9223372036854775808) (hm : m < 62) : bits .and .i64 (a : Int) (((2 ^ m - 1 : Nat)) : Int) = ((a % 2 ^ m : Nat) : Int) := by
 have hp : (2 : Nat) ^ m ≤ 2 ^ 62 := Nat.pow_le_pow_right (by decide) (by omega)
 have h62 : (2 : Nat) ^ 62 = 4611686018427387904 := by decide
 rw [and_nat _ _ ha (by omega), Nat.and_two_pow_sub_one_eq_mod]
theorem leading_nil (ng : Bool) (ao : Option Addr) (c : Nat) (x : Int) (w : World) : Calls Tryd.prog 44 #[.agg #[.bool ng, .slice ao 0 c, .int .i64 x]] w fun e w' => e = .returned (.agg #[.bool false, .int .i64 0, .int .i64 0, .bool false]) ∧ Kept w w' := by
 go_enter Tryd.func44, Tryd.ntmps44
 go_wp2
 exact bodyPost_ret (v := .agg #[.bool false, .int .i64 0, .int .i64 0, .bool false]) (by simp [results, Tryd.results44, go_sem]) rfl ⟨rfl, ((Kept.refl w).alloc _ _).alloc _ _⟩
abbrev flg (p m z : Bool) : List Value := [.bool false, .slice none 0 0, .int .i64 0, .bool p, .bool m, .bool z]
/- what was added so far, in i steps -/
def PhiA (S : Int) (p m z : Bool) (i : Nat) (fl : List Value) (C : List Int) (lo hi : Int) : Prop := fl = flg p m z ∧ Inv C lo hi ∧ cv C = S ∧ ∀ k, -((i : Int) * 12884901888) ≤ C.getD k 0 ∧ C.getD k 0 ≤ (i : Int) * 12884901888
theorem C0_nought (k : Nat) : C0.getD k 0 = 0 := by
 unfold C0
 rw [List.getD_eq_getElem?_getD, List.getElem?_replicate]
 split <;> rfl
theorem phi_start : PhiA 0 false false false 0 acc0 C0 141 0 :=
 ⟨rfl, ⟨by omega, by omega, fun k _ => C0_nought k⟩, cv_nought C0 C0_nought, fun k => by rw [C0_nought]; simp⟩
theorem finP_of (x n : Int) (h1 : -9223372036854775808 ≤ x) (h2 : x ≤ 9223372036854775807) (hn : n = 64 ∨ n = 32) (hc : cls x n < 3) : FinP n x := by
 refine ⟨h1, h2, fin_of x n hn hc, ?_, ?_⟩
 ·rcases hn with rfl | rfl
  ·exact ⟨(fl_64 x hc).1, (fl_64 x hc).2.1⟩
  ·have := (fl_32 x hc).2.1
   exact ⟨(fl_32 x hc).1, by omega⟩
 ·rcases hn with rfl | rfl
  ·exact ⟨(fl_64 x hc).2.2.1, (fl_64 x hc).2.2.2.1⟩
  ·have h := fl_32 x hc
   exact ⟨by have := h.2.2.1; omega, by have := h.2.2.2.1; omega⟩
theorem phi_fin (n x y : Int) (hx : FinP n x) (hy : FinP n y) (cx : cls x n < 3) (cy : cls y n < 3) (S : Int) (p m z : Bool) (i : Nat) (hi : i < 65536) (b : Nat) (u : World) (fl : List Value) (C : List Int) (lo hi' : Int) (hM : MkAt u b fl n C lo hi') (hΦ : PhiA S p m z i fl C lo hi') :
  Calls Tryd.prog 22 #[.pointer (some ⟨b, 0, none⟩), .int .i64 x, .int .i64 y] u fun e w' => e = .returned (.tuple #[]) ∧ (∃ fl' C' lo' hi', MkAt w' b fl' n C' lo' hi' ∧ PhiA (S + pval n x y) p m z (i + 1) fl' C' lo' hi') ∧ Grw b u w' := by
 obtain ⟨rfl, hI, hS, hb⟩ := hΦ
 refine add_fin u b _ n x y C lo hi' hM (cls x n) (cls y n) cx cy _ (fun v => class_any x n v) (fun v => class_any y n v) (fun v k => ?_)
 refine (lay_fin v b _ n x y C (fun k => by have := hb k; omega) lo hi' (hM.kept k) hI hx hy).mono ?_
 rintro e w' ⟨rfl, C', lo', hi2, hM', hI', hv, hnear, hg⟩
 refine ⟨rfl, ⟨_, C', lo', hi2, hM', rfl, hI', by rw [hv, hS], fun k => ?_⟩, (k.toGrw b).trans hg⟩
 have h1 := hnear k
 have h2 := hb k
 rw [Int.natCast_add, Int.add_mul]
 omega
/- how long such sums may be -/
theorem phi_told (n S : Int) (p m z : Bool) (i : Nat) (hi : i ≤ 65536) (b : Nat) (u : World) (hT : Tab u) (fl : List Value) (C : List Int) (lo hi' : Int) (hM : MkAt u b fl n C lo hi') (hΦ : PhiA S p m z i fl C lo hi') (r : Nm) (hr : cfm S (-2148) = some r) :
  Calls Tryd.prog 23 #[.pointer (some ⟨b, 0, none⟩)] u fun e w' => ∃ vn va vl vc vx, e = .returned (accV vn (.slice va vl vc) vx p m z) ∧ New u w' (.agg #[.bool vn, .slice va vl vc, .int .i64 vx]) r ∧ Grw b u w' := by
 obtain ⟨rfl, hI, rfl, hb⟩ := hΦ
 exact told_any u hT b false (.slice none 0 0) 0 p m z n C lo hi' hM hI (fun j => by have := hb j; omega) r hr
set_option linter.unnecessarySimpa false
def ng (a : Nm) : Nm := ⟨!a.neg, a.mag, a.exp⟩
end Go.Proofs.YtpkeadfndgddlaaDoor
