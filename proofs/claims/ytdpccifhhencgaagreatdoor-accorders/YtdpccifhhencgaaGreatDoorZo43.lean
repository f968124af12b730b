/- A sum as it is made, of any patterns: what is finite, and the flags. The values of floats, of their products, and what the document's sums come to. acc's Total, Products, Sum, Dot, Merge, AddProduct where they refuse. acc's Merge, AddProduct, Add, Of by values: sums of which the finite part is a whole number of 2^-2148. -/
import Derived.Test.YtdpccifhhencgaaGreatDoorZo42
import Derived.Test.YtdpccifhhencgaaGreatDoorZo38
import Derived.Test.YtdpccifhhencgaaGreatDoorZo37
import Derived.Test.YtdpccifhhencgaaGreatDoorZo23
namespace Go.Proofs.YtdpccifhhencgaaGreatDoor
open Go.ChangeShapes Go.WideShapes Go.ChangeAt Go.RowKit
set_option linter.unusedVariables false
set_option linter.unusedSimpArgs false
set_option maxHeartbeats 16000000
set_option maxRecDepth 100000
/- what a product brings: its value, if it is finite; +Inf, -Inf, or no number, if not -/
def bth (n x y : Int) : Bool := decide (cls x n < 3) && decide (cls y n < 3)
def pvl (n x y : Int) : Int := if bth n x y = true then pval n x y else 0
def fP (n x y : Int) : Bool := !bth n x y && !(decide (cls x n = 4 ∨ cls y n = 4 ∨ cls x n = 0 ∨ cls y n = 0)) && !(sgn x n ^^ sgn y n)
def fM (n x y : Int) : Bool := !bth n x y && !(decide (cls x n = 4 ∨ cls y n = 4 ∨ cls x n = 0 ∨ cls y n = 0)) && (sgn x n ^^ sgn y n)
def fN (n x y : Int) : Bool := !bth n x y && decide (cls x n = 4 ∨ cls y n = 4 ∨ cls x n = 0 ∨ cls y n = 0)
theorem flags_are (n x y : Int) (hn : n = 64 ∨ n = 32) (h : bth n x y = false) : lss 0 (mlS n x y) n = fP n x y ∧ lss (mlS n x y) 0 n = fM n x y ∧ decide (cls (mlS n x y) n = 4) = fN n x y ∧ -9223372036854775808 ≤ mlS n x y ∧ mlS n x y ≤ 9223372036854775807 := by
 unfold fP fM fN mlS
 rw [h]
 by_cases hc : cls x n = 4 ∨ cls y n = 4 ∨ cls x n = 0 ∨ cls y n = 0
 ·rw [if_pos hc, decide_eq_true hc]
  generalize (sgn x n ^^ sgn y n) = s
  rcases hn with rfl | rfl <;> cases s <;> decide +kernel
 ·rw [if_neg hc, decide_eq_false hc]
  generalize (sgn x n ^^ sgn y n) = s
  rcases hn with rfl | rfl <;> cases s <;> decide +kernel
theorem phi_any (n x y : Int) (hn : n = 64 ∨ n = 32) (x1 : -9223372036854775808 ≤ x) (x2 : x ≤ 9223372036854775807) (y1 : -9223372036854775808 ≤ y) (y2 : y ≤ 9223372036854775807) (vx : val x n = true) (vy : val y n = true) (S : Int) (p m z : Bool) (i : Nat) (hi : i < 65536) (b : Nat) (u : World) (fl : List Value) (C : List Int) (lo hi' : Int) (hM : MkAt u b fl n C lo hi') (hΦ : PhiA S p m z i fl C lo hi') :
  Calls Tryz.prog 63 #[.pointer (some ⟨b, 0, none⟩), .int .i64 x, .int .i64 y] u fun e w' => e = .returned (.tuple #[]) ∧ (∃ fl' C' lo' hi', MkAt w' b fl' n C' lo' hi' ∧ PhiA (S + pvl n x y) (p || fP n x y) (m || fM n x y) (z || fN n x y) (i + 1) fl' C' lo' hi') ∧ Grw b u w' := by
 by_cases h : bth n x y = true
 ·have h' := h
  unfold bth at h'
  rw [Bool.and_eq_true, decide_eq_true_eq, decide_eq_true_eq] at h'
  have := phi_fin n x y (finP_of x n x1 x2 hn h'.1) (finP_of y n y1 y2 hn h'.2) h'.1 h'.2 S p m z i hi b u fl C lo hi' hM hΦ
  unfold pvl fP fM fN
  rw [if_pos h, h]
  simp only [Bool.not_true, Bool.false_and, Bool.or_false]
  exact this
 ·have hf : bth n x y = false := by simpa using h
  have hs : 3 ≤ cls x n ∨ 3 ≤ cls y n := by
   unfold bth at hf
   rw [Bool.and_eq_false_iff, decide_eq_false_iff_not, decide_eq_false_iff_not] at hf
   omega
  obtain ⟨f1, f2, f3, r1, r2⟩ := flags_are n x y hn hf
  obtain ⟨rfl, hI, hS, hb⟩ := hΦ
  refine (add_spec u b n x y p m z C lo hi' hM (cls x n) (cls y n) hs (mlS n x y) (fP n x y) (fM n x y) (fN n x y) (fun v => class_any x n v) (fun v => class_any y n v) (fun v => mul_special n hn x y x1 x2 y1 y2 vx vy hs v) (fun v => ?_)).mono ?_
  ·have := flag_any (mlS n x y) n r1 r2 v
   rw [f1, f2, f3] at this
   exact this
  ·rintro e w' ⟨rfl, hM', hg⟩
   refine ⟨rfl, ⟨_, C, lo, hi', hM', rfl, hI, ?_, fun k => ?_⟩, hg⟩
   ·unfold pvl
    rw [if_neg h, Int.add_zero]
    exact hS
   ·have := hb k
    rw [Int.natCast_add, Int.add_mul]
    omega
/- a finite float in units of 2^-1074 -/
def zv (n b : Int) : Int := sg (pneg b n) (pmag b n * 2 ^ (pexp b n + 1074).toNat)
theorem sgl_two (s t : Bool) (a b : Int) : sg (s != t) (a * b) = sg s a * sg t b := by cases s <;> cases t <;> simp [sg, Int.neg_mul, Int.mul_neg]
theorem sgl_abs (s : Bool) (a : Int) : (sg s a).natAbs = a.natAbs := by cases s <;> simp [sg]
theorem pval_zv (n x y : Int) (hx : FinP n x) (hy : FinP n y) : pval n x y = zv n x * zv n y := by
 have h1 := hx.e
 have h2 := hy.e
 unfold pval zv
 rw [← sgl_two]
 congr 1
 rw [show (pexp x n + pexp y n + 2148).toNat = (pexp x n + 1074).toNat + (pexp y n + 1074).toNat by omega, Int.pow_add]
 simp only [Int.mul_assoc, Int.mul_comm, Int.mul_left_comm]
/- a product, as the document has it -/
/- a number that is S in units of 2^-2148 -/
structure DN (S : Int) (r : Nm) : Prop where
 bd : S.natAbs < 2 ^ expK
 is : cfm S (-2148) = some r
theorem dn_some (S : Int) (h : S.natAbs < 2 ^ expK) : ∃ r, DN S r := by
 obtain ⟨r, hr⟩ := cfm_some S h
 exact ⟨r, h, hr⟩
theorem DN.one {S : Int} {r t : Nm} (h : DN S r) (h' : DN S t) : r = t := by
 have := h.is.symm.trans h'.is
 cases this
 rfl
theorem DN.lies {S : Int} {r : Nm} (h : DN S r) : Lies (-2148) expK r ∧ vz (-2148) r = S := by
 obtain ⟨r', h1, h2, h3⟩ := cfm_lies (-2148) expK (by rw [expK_is]; decide) (by decide) (by decide) S h.bd
 rw [h.is] at h1
 cases h1
 exact ⟨h2, h3⟩
theorem DN.vld {S : Int} {r : Nm} (h : DN S r) : vld r = true := h.lies.1.ok
theorem DN.rg {S : Int} {r : Nm} (h : DN S r) : Rg r.mag ∧ r.mag.length ≤ 2000 := by
 obtain ⟨hl, hd⟩ := vld_dg r.neg r.mag r.exp h.vld
 exact ⟨hd.rg, hl⟩
theorem dn_zero : DN 0 ⟨false, [], 0⟩ := ⟨by simp; exact Nat.two_pow_pos _, cfm_zero _⟩
theorem dn_add {S T : Int} {r t : Nm} (h : DN S r) (h' : DN T t) (hb : (S + T).natAbs < 2 ^ expK) : ∃ q, DN (S + T) q ∧ addZ r t = some q := by
 obtain ⟨q, hq⟩ := dn_some (S + T) hb
 refine ⟨q, hq, ?_⟩
 rw [add_cfm (-2148) expK (by rw [expK_is]; decide) r t h.lies.1 h'.lies.1, h.lies.2, h'.lies.2]
 exact hq.is
def expJ : Nat := 4200
theorem expJ_is : expJ = 4200 := rfl
theorem pval_lt (n x y : Int) (hx : FinP n x) (hy : FinP n y) : (pval n x y).natAbs < 2 ^ expJ := by
 have g1 := hx.m
 have g2 := hy.m
 have g3 := hx.e
 have g4 := hy.e
 rw [pval_zv n x y hx hy, Int.natAbs_mul]
 unfold zv
 obtain ⟨e, he⟩ : ∃ e, e = (pexp x n + 1074).toNat := ⟨_, rfl⟩
 obtain ⟨f, hf⟩ : ∃ e, e = (pexp y n + 1074).toNat := ⟨_, rfl⟩
 rw [sgl_abs, sgl_abs, Int.natAbs_mul, Int.natAbs_mul, Int.natAbs_pow, Int.natAbs_pow, ← he, ← hf]
 have h4 : (2 : Int).natAbs = 2 := rfl
 rw [h4]
 have h3 : (pmag x n).natAbs < 2 ^ 53 := by
  have : (2 : Nat) ^ 53 = 9007199254740992 := by decide
  omega
 have h5 : (pmag y n).natAbs < 2 ^ 53 := by
  have : (2 : Nat) ^ 53 = 9007199254740992 := by decide
  omega
 have a1 : (pmag x n).natAbs * 2 ^ e < 2 ^ (53 + e) := by
  rw [Nat.pow_add]
  exact Nat.mul_lt_mul_of_pos_right h3 (Nat.two_pow_pos e)
 have a2 : (pmag y n).natAbs * 2 ^ f < 2 ^ (53 + f) := by
  rw [Nat.pow_add]
  exact Nat.mul_lt_mul_of_pos_right h5 (Nat.two_pow_pos f)
 have a3 : (2 : Nat) ^ (53 + e) * 2 ^ (53 + f) ≤ 2 ^ expJ := by
  rw [← Nat.pow_add]
  exact Nat.pow_le_pow_right (by decide) (by rw [expJ_is]; omega)
 exact Nat.lt_of_lt_of_le (Nat.mul_lt_mul'' a1 a2) a3
theorem pvl_lt (n x y : Int) (hn : n = 64 ∨ n = 32) (x1 : -9223372036854775808 ≤ x) (x2 : x ≤ 9223372036854775807) (y1 : -9223372036854775808 ≤ y) (y2 : y ≤ 9223372036854775807) : (pvl n x y).natAbs < 2 ^ expJ := by
 unfold pvl
 by_cases h : bth n x y = true
 ·rw [if_pos h]
  unfold bth at h
  rw [Bool.and_eq_true, decide_eq_true_eq, decide_eq_true_eq] at h
  exact pval_lt n x y (finP_of x n x1 x2 hn h.1) (finP_of y n y1 y2 hn h.2)
 ·rw [if_neg h]
  exact Nat.two_pow_pos _
theorem big_lt {a : Nat} (h : a < 2 ^ expJ) : a < 2 ^ expK := by
 exact Nat.lt_of_lt_of_le h (Nat.pow_le_pow_right (by decide) (by rw [expK_is, expJ_is]; omega))
theorem merge_dn {S T : Int} {r t q : Nm} (hr : DN S r) (ht : DN T t) (hq : DN (S + T) q) (p1 m1 z1 p2 m2 z2 : Bool) (ao bo : Option Addr) (c d : Nat) (w : World) (hT : Tab w) (h : Sl w (.slice ao r.mag.length c) r.mag) (h' : Sl w (.slice bo t.mag.length d) t.mag) :
  Calls Tryz.prog 17 #[accV r.neg (.slice ao r.mag.length c) r.exp p1 m1 z1, accV t.neg (.slice bo t.mag.length d) t.exp p2 m2 z2] w fun e w' => ∃ vn va vl vc vx, e = .returned (.tuple #[accV vn (.slice va vl vc) vx (p1 || p2) (m1 || m2) (z1 || z2), .int .i64 0]) ∧ New w w' (.agg #[.bool vn, .slice va vl vc, .int .i64 vx]) q ∧ Kept w w' := by
 obtain ⟨q', hq', ha⟩ := dn_add hr ht hq.bd
 obtain rfl := hq'.one hq
 exact merge_ok r.neg ao r.mag.length c r.exp p1 m1 z1 t.neg bo t.mag.length d t.exp p2 m2 z2 w q' (fun u k => addz_ok u (hT.kept k) r.neg r.mag r.exp hr.vld ao c t.neg t.mag t.exp ht.vld bo d (h.kept k) (h'.kept k) q' ha)
theorem product_dn (n x y : Int) (hn : n = 64 ∨ n = 32) (x1 : -9223372036854775808 ≤ x) (x2 : x ≤ 9223372036854775807) (y1 : -9223372036854775808 ≤ y) (y2 : y ≤ 9223372036854775807) (vx : val x n = true) (vy : val y n = true) {S : Int} {r q : Nm} (hr : DN S r) (hq : DN (S + pvl n x y) q) (p m z : Bool) (ao : Option Addr) (c : Nat) (w : World) (hT : Tab w) (h : Sl w (.slice ao r.mag.length c) r.mag) :
  Calls Tryz.prog 26 #[accV r.neg (.slice ao r.mag.length c) r.exp p m z, .int .i64 x, .int .i64 y, .int .i64 n] w fun e w' => ∃ un ua ul uc ux, e = .returned (.tuple #[accV un (.slice ua ul uc) ux (p || fP n x y) (m || fM n x y) (z || fN n x y), .int .i64 0]) ∧ New w w' (.agg #[.bool un, .slice ua ul uc, .int .i64 ux]) q ∧ Kept w w' := by
 obtain ⟨t, ht⟩ := dn_some (pvl n x y) (big_lt (pvl_lt n x y hn x1 x2 y1 y2))
 have hL : [x, y].all (val · n) = true := by simp [vx, vy]
 refine addProduct_ok n x y r.neg ao r.mag.length c r.exp p m z w (PhiA (pvl n x y) (fP n x y) (fM n x y) (fN n x y) 1) t q (fP n x y) (fM n x y) (fN n x y) (p || fP n x y) (m || fM n x y) (z || fN n x y) 0 (fun b v k2 hb h0 h1 => ?_) (fun b v hM => ?_) (fun b v fl C lo hi k2 hM hΦ => phi_told n _ _ _ _ 1 (by decide) b v (hT.kept k2) fl C lo hi hM hΦ _ ht.is) (fun v vn va vl vc vx k2 e1 e2 e3 e4 hs => ?_)
 ·have := look_any n r.neg r.mag r.exp hr.rg.1 (by have := hr.rg.2; omega) ao c p m z [x, y] (by simp) v (h.kept k2) _ (sl_two hb h0 h1)
  rw [show lkE n (vld ⟨r.neg, r.mag, r.exp⟩) [x, y] = 0 by unfold lkE; rw [show vld ⟨r.neg, r.mag, r.exp⟩ = true from hr.vld, if_neg (by simp [val, hn] <;> omega), if_neg (by simp), if_pos hL]] at this
  exact this
 ·have := phi_any n x y hn x1 x2 y1 y2 vx vy 0 false false false 0 (by decide) b v acc0 C0 141 0 hM phi_start
  simp only [Int.zero_add, Bool.false_or, Nat.zero_add] at this
  exact this
 ·subst e1 e2 e3
  exact merge_dn hr ht hq p m z _ _ _ ao va c vc v (hT.kept k2) (h.kept k2) hs
def oneN (n : Int) : Int := if n = 64 then 4607182418800017408 else 1065353216
theorem oneN_ok (n : Int) (hn : n = 64 ∨ n = 32) : -9223372036854775808 ≤ oneN n ∧ oneN n ≤ 9223372036854775807 ∧ val (oneN n) n = true := by
 rcases hn with rfl | rfl <;> decide +kernel
theorem fromOne (n : Int) (hn : n = 64 ∨ n = 32) (u : World) : Calls Tryz.prog 57 #[.int .i64 1, .int .i64 n] u fun e w' => e = .returned (.int .i64 (oneN n)) ∧ Kept u w' := by
 rcases hn with rfl | rfl
 ·exact (fromOne_64 u).mono (by rintro e w' ⟨rfl, rfl⟩; exact ⟨rfl, Kept.refl _⟩)
 ·exact (fromOne_32 u).mono (by rintro e w' ⟨rfl, rfl⟩; exact ⟨rfl, Kept.refl _⟩)
theorem one_dn (n x : Int) (hn : n = 64 ∨ n = 32) (x1 : -9223372036854775808 ≤ x) (x2 : x ≤ 9223372036854775807) (vx : val x n = true) {S : Int} {r q : Nm} (hr : DN S r) (hq : DN (S + pvl n x (oneN n)) q) (p m z : Bool) (ao : Option Addr) (c : Nat) (w : World) (hT : Tab w) (h : Sl w (.slice ao r.mag.length c) r.mag) :
  Calls Tryz.prog 22 #[accV r.neg (.slice ao r.mag.length c) r.exp p m z, .int .i64 x, .int .i64 n] w fun e w' => ∃ un ua ul uc ux, e = .returned (.tuple #[accV un (.slice ua ul uc) ux (p || fP n x (oneN n)) (m || fM n x (oneN n)) (z || fN n x (oneN n)), .int .i64 0]) ∧ New w w' (.agg #[.bool un, .slice ua ul uc, .int .i64 ux]) q ∧ Kept w w' := by
 obtain ⟨o1, o2, o3⟩ := oneN_ok n hn
 exact addOne_ok n x (oneN n) r.neg ao r.mag.length c r.exp p m z w q _ _ _ 0 (fun u => fromOne n hn u) (fun u k => product_dn n x (oneN n) hn x1 x2 o1 o2 vx o3 hr hq p m z ao c u (hT.kept k) (h.kept k))
end Go.Proofs.YtdpccifhhencgaaGreatDoor
