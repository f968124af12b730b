/- The state of a sum as it is made; finite floats. The walks of cmp.Compare of ints, of exact's below and take of one digit. The walks of exact's Mul where the product is too long, and of Cmp of numbers with two signs. -/
import Derived.Test.YtoflafgbbjinpaaGreatDoorZm21
import Derived.Test.YtoflafgbbjinpaaGreatDoorZm24
import Derived.Test.YtoflafgbbjinpaaGreatDoorZm10
import Derived.BigRegion
namespace Go.Proofs.YtoflafgbbjinpaaGreatDoor
open Go.ChangeShapes Go.WideShapes Go.ChangeAt Go.RowKit
set_option linter.unusedVariables false
set_option linter.unusedSimpArgs false
set_option maxHeartbeats 16000000
set_option maxRecDepth 100000
abbrev flg (p m z : Bool) : List Value := [.bool false, .slice none 0 0, .int .i64 0, .bool p, .bool m, .bool z]
/- what was added so far, in i steps -/
def PhiA (S : Int) (p m z : Bool) (i : Nat) (fl : List Value) (C : List Int) (lo hi : Int) : Prop := fl = flg p m z ∧ Inv C lo hi ∧ cv C = S ∧ ∀ k, -((i : Int) * 12884901888) ≤ C.getD k 0 ∧ C.getD k 0 ≤ (i : Int) * 12884901888
theorem C0_nought (k : Nat) : C0.getD k 0 = 0 := by
 unfold C0
 rw [List.getD_eq_getElem?_getD, List.getElem?_replicate]
 split <;> rfl
theorem phi_start : PhiA 0 false false false 0 acc0 C0 141 0 :=
 ⟨rfl, ⟨by omega, by omega, fun k _ => C0_nought k⟩, cv_nought C0 C0_nought, fun k => by rw [C0_nought]; simp⟩
theorem finP_of (x n : Int) (h1 : -9223372036854775808 ≤ x) (h2 : x ≤ 9223372036854775807) (hn : n = 64 ∨ n = 32) (hc : cls x n < 3) : FinP n x := by
 refine ⟨h1, h2, fin_of x n hn hc, ?_, ?_⟩
 ·rcases hn with rfl | rfl
  ·exact ⟨(fl_64 x hc).1, (fl_64 x hc).2.1⟩
  ·have := (fl_32 x hc).2.1
   exact ⟨(fl_32 x hc).1, by omega⟩
 ·rcases hn with rfl | rfl
  ·exact ⟨(fl_64 x hc).2.2.1, (fl_64 x hc).2.2.2.1⟩
  ·have h := fl_32 x hc
   exact ⟨by have := h.2.2.1; omega, by have := h.2.2.2.1; omega⟩
theorem phi_fin (n x y : Int) (hx : FinP n x) (hy : FinP n y) (cx : cls x n < 3) (cy : cls y n < 3) (S : Int) (p m z : Bool) (i : Nat) (hi : i < 65536) (b : Nat) (u : World) (fl : List Value) (C : List Int) (lo hi' : Int) (hM : MkAt u b fl n C lo hi') (hΦ : PhiA S p m z i fl C lo hi') :
  Calls Tryz.prog 69 #[.pointer (some ⟨b, 0, none⟩), .int .i64 x, .int .i64 y] u fun e w' => e = .returned (.tuple #[]) ∧ (∃ fl' C' lo' hi', MkAt w' b fl' n C' lo' hi' ∧ PhiA (S + pval n x y) p m z (i + 1) fl' C' lo' hi') ∧ Grw b u w' := by
 obtain ⟨rfl, hI, hS, hb⟩ := hΦ
 refine add_fin u b _ n x y C lo hi' hM (cls x n) (cls y n) cx cy _ (fun v => class_any x n v) (fun v => class_any y n v) (fun v k => ?_)
 refine (lay_fin v b _ n x y C (fun k => by have := hb k; omega) lo hi' (hM.kept k) hI hx hy).mono ?_
 rintro e w' ⟨rfl, C', lo', hi2, hM', hI', hv, hnear, hg⟩
 refine ⟨rfl, ⟨_, C', lo', hi2, hM', rfl, hI', by rw [hv, hS], fun k => ?_⟩, (k.toGrw b).trans hg⟩
 have h1 := hnear k
 have h2 := hb k
 rw [Int.natCast_add, Int.add_mul]
 omega
/- how long such sums may be -/
def expK : Nat := 4300
theorem expK_is : expK = 4300 := rfl
theorem cfm_some (S : Int) (h : S.natAbs < 2 ^ expK) : ∃ r, cfm S (-2148) = some r := by
 unfold cfm frm
 by_cases h0 : S.natAbs = 0
 ·exact ⟨_, if_pos h0⟩
 ·rw [if_neg h0]
  have h1 := bl_le _ _ h
  rw [expK_is] at h1
  have h2 := tzn_le_bl _ h0
  have h3 : wrap64 (-2148 + (tzn S.natAbs : Int)) = -2148 + (tzn S.natAbs : Int) := by unfold wrap64; omega
  rw [h3]
  exact ⟨_, if_pos ⟨by omega, by omega, by omega⟩⟩
theorem phi_told (n S : Int) (p m z : Bool) (i : Nat) (hi : i ≤ 65536) (b : Nat) (u : World) (hT : Tab u) (fl : List Value) (C : List Int) (lo hi' : Int) (hM : MkAt u b fl n C lo hi') (hΦ : PhiA S p m z i fl C lo hi') (r : Nm) (hr : cfm S (-2148) = some r) :
  Calls Tryz.prog 70 #[.pointer (some ⟨b, 0, none⟩)] u fun e w' => ∃ vn va vl vc vx, e = .returned (accV vn (.slice va vl vc) vx p m z) ∧ New u w' (.agg #[.bool vn, .slice va vl vc, .int .i64 vx]) r ∧ Grw b u w' := by
 obtain ⟨rfl, hI, rfl, hb⟩ := hΦ
 exact told_any u hT b false (.slice none 0 0) 0 p m z n C lo hi' hM hI (fun j => by have := hb j; omega) r hr
set_option linter.unnecessarySimpa false
theorem product_far (n1 n2 : Bool) (a1 a2 : Option Addr) (l1 c1 l2 c2 : Nat) (x1 x2 : Int) (b1 b2 : Nat) (hx1 : -1048576 ≤ x1 ∧ x1 ≤ 1048576) (hx2 : -1048576 ≤ x2 ∧ x2 ≤ 1048576) (hb1 : b1 ≤ 60000) (hb2 : b2 ≤ 60000) (hno : 60000 < (b1 : Int) + b2 - 1 ∨ x1 + x2 < -1048576 ∨ 1048576 < x1 + x2) (w : World)
  (K1 : Hid (∀ u, Kept w u → Calls Tryz.prog 106 #[.slice a1 l1 c1] u fun e w' => e = .returned (.int .i64 (b1 : Int)) ∧ u = w')) (K2 : Hid (∀ u, Kept w u → Calls Tryz.prog 106 #[.slice a2 l2 c2] u fun e w' => e = .returned (.int .i64 (b2 : Int)) ∧ u = w')) :
  Calls Tryz.prog 64 #[.agg #[.bool n1, .slice a1 l1 c1, .int .i64 x1], .agg #[.bool n2, .slice a2 l2 c2, .int .i64 x2]] w fun e w' => e = .panicked gaveUp ∧ Kept w w' := by
 have hK : Kept w (((w.alloc (.cells #[.bool n1, .slice a1 l1 c1, .int .i64 x1] 24)).alloc (.cells #[.bool n2, .slice a2 l2 c2, .int .i64 x2] 24)).alloc nilNum) := (((Kept.refl w).alloc _ _).alloc _ _).alloc _ _
 have z1 : IntKind.i64.wrap ((b1 : Int) + (b2 : Int)) = (b1 : Int) + (b2 : Int) := by rw [wrap_i64]; omega
 have z2 : IntKind.i64.wrap ((b1 : Int) + (b2 : Int) - 1) = (b1 : Int) + (b2 : Int) - 1 := by rw [wrap_i64]; omega
 have z3 : IntKind.i64.wrap (x1 + x2) = x1 + x2 := by rw [wrap_i64]; omega
 have hS : ∀ u, Kept (((w.alloc (.cells #[.bool n1, .slice a1 l1 c1, .int .i64 x1] 24)).alloc (.cells #[.bool n2, .slice a2 l2 c2, .int .i64 x2] 24)).alloc nilNum) u → (u.cell? ⟨w.heap.size, 1, none⟩ = some (.slice a1 l1 c1) ∧ u.cell? ⟨w.heap.size, 2, none⟩ = some (.int .i64 x1)) ∧ u.cell? ⟨w.heap.size + 1, 1, none⟩ = some (.slice a2 l2 c2) ∧ u.cell? ⟨w.heap.size + 1, 2, none⟩ = some (.int .i64 x2) := fun u k => ⟨⟨(k.below.cell (p := ⟨w.heap.size, 1, none⟩) (by simp <;> omega)).trans (by simp [go_sem]), (k.below.cell (p := ⟨w.heap.size, 2, none⟩) (by simp <;> omega)).trans (by simp [go_sem])⟩, (k.below.cell (p := ⟨w.heap.size + 1, 1, none⟩) (by simp <;> omega)).trans (by simp [go_sem]), (k.below.cell (p := ⟨w.heap.size + 1, 2, none⟩) (by simp <;> omega)).trans (by simp [go_sem])⟩
 have HS := hS _ (Kept.refl _).drew
 have HSS : Hid (∀ u, Kept (((w.alloc (.cells #[.bool n1, .slice a1 l1 c1, .int .i64 x1] 24)).alloc (.cells #[.bool n2, .slice a2 l2 c2, .int .i64 x2] 24)).alloc nilNum) u → (u.cell? ⟨w.heap.size, 1, none⟩ = some (.slice a1 l1 c1) ∧ u.cell? ⟨w.heap.size, 2, none⟩ = some (.int .i64 x1)) ∧ u.cell? ⟨w.heap.size + 1, 1, none⟩ = some (.slice a2 l2 c2) ∧ u.cell? ⟨w.heap.size + 1, 2, none⟩ = some (.int .i64 x2)) := hS
 clear hS
 go_enter Tryz.func64, Tryz.ntmps64
 go_wp2_with fail
 refine wp_region_held_drew (S := fun u => (u.cell? ⟨w.heap.size, 1, none⟩ = some (.slice a1 l1 c1) ∧ u.cell? ⟨w.heap.size, 2, none⟩ = some (.int .i64 x1)) ∧ u.cell? ⟨w.heap.size + 1, 1, none⟩ = some (.slice a2 l2 c2) ∧ u.cell? ⟨w.heap.size + 1, 2, none⟩ = some (.int .i64 x2)) (by kernel_rfl) HS (fun hHeld => ?_)
 refine tk (i := 0) (v := ?_) rfl ?_
 simp only [Act.put, zA, zB, zC, zD, zE, zF]
 refine tk (i := 1) (v := ?_) rfl ?_
 simp only [Act.put, zA, zB, zC, zD, zE, zF]
 refine tk (i := 3) (v := ?_) rfl ?_
 simp only [Act.put, zA, zB, zC, zD, zE, zF]
 refine tk (i := 4) (v := ?_) rfl ?_
 simp only [Act.put, zA, zB, zC, zD, zE, zF]
 refine tk (i := 8) (v := ?_) rfl ?_
 simp only [Act.put, zA, zB, zC, zD, zE, zF]
 refine tk (i := 9) (v := ?_) rfl ?_
 simp only [Act.put, zA, zB, zC, zD, zE, zF]
 refine tk (i := 10) (v := ?_) rfl ?_
 simp only [Act.put, zA, zB, zC, zD, zE, zF]
 refine tk (i := 11) (v := ?_) rfl ?_
 simp only [Act.put, zA, zB, zC, zD, zE, zF]
 refine tk (i := 12) (v := ?_) rfl ?_
 simp only [Act.put, zA, zB, zC, zD, zE, zF]
 refine wpAnyH_ready (rs := [2]) (by kernel_rfl) (by simp) ?_
 refine AllReadyH.cons rfl (fun K hK9 => ?_) AllReadyH.nil
 go_simp
 go_wp2_with fail
 refine (K1.out _ hK.drew).mono ?_
 rintro e u1 ⟨rfl, rfl⟩
 refine hK9.out _ _ HS (fun hHeld2 => ?_)
 clear hK9 K
 refine wpAnyH_ready (rs := [5]) (by kernel_rfl) (by simp) ?_
 refine AllReadyH.cons rfl (fun K hK9 => ?_) AllReadyH.nil
 go_simp
 go_wp2_with fail
 refine (K2.out _ hK.drew).mono ?_
 rintro e u1 ⟨rfl, rfl⟩
 refine hK9.out _ _ HS (fun hHeld3 => ?_)
 clear hK9 K
 refine tk (i := 6) (v := ?_) rfl ?_
 simp only [Act.put, zA, zB, zC, zD, zE, zF]
 refine tk (i := 7) (v := ?_) rfl ?_
 simp only [Act.put, zA, zB, zC, zD, zE, zF]
 refine wpAnyH_ready (rs := [13]) (by kernel_rfl) (by simp) ?_
 refine AllReadyH.cons rfl (fun K hK9 => ?_) AllReadyH.nil
 go_simp
 go_wp2_with fail
 refine (fit_no _ _ hno _).mono ?_
 rintro e u1 ⟨rfl, rfl⟩
 exact ⟨rfl, rfl, hK.drew⟩
end Go.Proofs.YtoflafgbbjinpaaGreatDoor
