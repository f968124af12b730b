/- A sum as it is made, of any patterns: what is finite, and the flags. The values of floats, of their products, and what the document's sums come to. acc's Total, Products, Sum, Dot, Merge, AddProduct where they refuse. acc's Merge, AddProduct, Add, Of by values: sums of which the finite part is a whole number of 2^-2148. The laws' pattern; acc's Of and Neg by values; slices.Equal and Same where both are one. -/
import Derived.Test.YtoflafgbbjinpaaGreatDoorZm39
import Derived.Test.YtoflafgbbjinpaaGreatDoorZm37
import Derived.Test.YtoflafgbbjinpaaGreatDoorZm36
import Derived.Test.YtoflafgbbjinpaaGreatDoorZm21
namespace Go.Proofs.YtoflafgbbjinpaaGreatDoor
open Go.ChangeShapes Go.WideShapes Go.ChangeAt Go.RowKit
set_option linter.unusedVariables false
set_option linter.unusedSimpArgs false
set_option maxHeartbeats 16000000
set_option maxRecDepth 100000
/- what a product brings: its value, if it is finite; +Inf, -Inf, or no number, if not -/
def bth (n x y : Int) : Bool := decide (cls x n < 3) && decide (cls y n < 3)
def pvl (n x y : Int) : Int := if bth n x y = true then pval n x y else 0
def fP (n x y : Int) : Bool := !bth n x y && !(decide (cls x n = 4 ∨ cls y n = 4 ∨ cls x n = 0 ∨ cls y n = 0)) && !(sgn x n ^^ sgn y n)
def fM (n x y : Int) : Bool := !bth n x y && !(decide (cls x n = 4 ∨ cls y n = 4 ∨ cls x n = 0 ∨ cls y n = 0)) && (sgn x n ^^ sgn y n)
def fN (n x y : Int) : Bool := !bth n x y && decide (cls x n = 4 ∨ cls y n = 4 ∨ cls x n = 0 ∨ cls y n = 0)
theorem flags_are (n x y : Int) (hn : n = 64 ∨ n = 32) (h : bth n x y = false) : lss 0 (mlS n x y) n = fP n x y ∧ lss (mlS n x y) 0 n = fM n x y ∧ decide (cls (mlS n x y) n = 4) = fN n x y ∧ -9223372036854775808 ≤ mlS n x y ∧ mlS n x y ≤ 9223372036854775807 := by
 unfold fP fM fN mlS
 rw [h]
 by_cases hc : cls x n = 4 ∨ cls y n = 4 ∨ cls x n = 0 ∨ cls y n = 0
 ·rw [if_pos hc, decide_eq_true hc]
  generalize (sgn x n ^^ sgn y n) = s
  rcases hn with rfl | rfl <;> cases s <;> decide +kernel
 ·rw [if_neg hc, decide_eq_false hc]
  generalize (sgn x n ^^ sgn y n) = s
  rcases hn with rfl | rfl <;> cases s <;> decide +kernel
theorem phi_any (n x y : Int) (hn : n = 64 ∨ n = 32) (x1 : -9223372036854775808 ≤ x) (x2 : x ≤ 9223372036854775807) (y1 : -9223372036854775808 ≤ y) (y2 : y ≤ 9223372036854775807) (vx : val x n = true) (vy : val y n = true) (S : Int) (p m z : Bool) (i : Nat) (hi : i < 65536) (b : Nat) (u : World) (fl : List Value) (C : List Int) (lo hi' : Int) (hM : MkAt u b fl n C lo hi') (hΦ : PhiA S p m z i fl C lo hi') :
  Calls Tryz.prog 69 #[.pointer (some ⟨b, 0, none⟩), .int .i64 x, .int .i64 y] u fun e w' => e = .returned (.tuple #[]) ∧ (∃ fl' C' lo' hi', MkAt w' b fl' n C' lo' hi' ∧ PhiA (S + pvl n x y) (p || fP n x y) (m || fM n x y) (z || fN n x y) (i + 1) fl' C' lo' hi') ∧ Grw b u w' := by
 by_cases h : bth n x y = true
 ·have h' := h
  unfold bth at h'
  rw [Bool.and_eq_true, decide_eq_true_eq, decide_eq_true_eq] at h'
  have := phi_fin n x y (finP_of x n x1 x2 hn h'.1) (finP_of y n y1 y2 hn h'.2) h'.1 h'.2 S p m z i hi b u fl C lo hi' hM hΦ
  unfold pvl fP fM fN
  rw [if_pos h, h]
  simp only [Bool.not_true, Bool.false_and, Bool.or_false]
  exact this
 ·have hf : bth n x y = false := by simpa using h
  have hs : 3 ≤ cls x n ∨ 3 ≤ cls y n := by
   unfold bth at hf
   rw [Bool.and_eq_false_iff, decide_eq_false_iff_not, decide_eq_false_iff_not] at hf
   omega
  obtain ⟨f1, f2, f3, r1, r2⟩ := flags_are n x y hn hf
  obtain ⟨rfl, hI, hS, hb⟩ := hΦ
  refine (add_spec u b n x y p m z C lo hi' hM (cls x n) (cls y n) hs (mlS n x y) (fP n x y) (fM n x y) (fN n x y) (fun v => class_any x n v) (fun v => class_any y n v) (fun v => mul_special n hn x y x1 x2 y1 y2 vx vy hs v) (fun v => ?_)).mono ?_
  ·have := flag_any (mlS n x y) n r1 r2 v
   rw [f1, f2, f3] at this
   exact this
  ·rintro e w' ⟨rfl, hM', hg⟩
   refine ⟨rfl, ⟨_, C, lo, hi', hM', rfl, hI, ?_, fun k => ?_⟩, hg⟩
   ·unfold pvl
    rw [if_neg h, Int.add_zero]
    exact hS
   ·have := hb k
    rw [Int.natCast_add, Int.add_mul]
    omega
def k74 : Nat := 1074
theorem k74_is : k74 = 1074 := rfl
/- a finite float in units of 2^-1074 -/
def zv (n b : Int) : Int := sg (pneg b n) (pmag b n * 2 ^ (pexp b n + 1074).toNat)
theorem sgl_mul (s : Bool) (a b : Int) : sg s (a * b) = sg s a * b := by cases s <;> simp [sg, Int.neg_mul]
theorem sgl_two (s t : Bool) (a b : Int) : sg (s != t) (a * b) = sg s a * sg t b := by cases s <;> cases t <;> simp [sg, Int.neg_mul, Int.mul_neg]
theorem sgl_abs (s : Bool) (a : Int) : (sg s a).natAbs = a.natAbs := by cases s <;> simp [sg]
theorem zv_lt (n b : Int) (h : FinP n b) : (zv n b).natAbs < 2 ^ 2200 := by
 unfold zv
 rw [sgl_abs, Int.natAbs_mul, Int.natAbs_pow]
 have h1 := h.m
 have h2 := h.e
 obtain ⟨e, he⟩ : ∃ e, e = (pexp b n + 1074).toNat := ⟨_, rfl⟩
 rw [← he]
 have h3 : (pmag b n).natAbs < 2 ^ 53 := by
  have : (2 : Nat) ^ 53 = 9007199254740992 := by decide
  omega
 have h4 : (2 : Int).natAbs = 2 := rfl
 rw [h4]
 have hp : 0 < 2 ^ e := Nat.two_pow_pos e
 have h5 : (pmag b n).natAbs * 2 ^ e < 2 ^ (53 + e) := by
  rw [Nat.pow_add]
  exact Nat.mul_lt_mul_of_pos_right h3 hp
 obtain ⟨K, hK⟩ : ∃ K : Nat, K = 2200 := ⟨_, rfl⟩
 rw [← hK]
 have h6 : (2 : Nat) ^ (53 + e) ≤ 2 ^ K := Nat.pow_le_pow_right (by decide) (by omega)
 omega
theorem of_zv (n b : Int) (hn : n = 64 ∨ n = 32) (hc : cls b n < 3) (hF : FinP n b) : cfm (zv n b) (-1074) = some (ofN b n) := by
 have h2 := hF.e
 have h := of_frm b n hn hc
 rw [frm_cfm] at h
 unfold zv
 rw [sgl_mul, cfm_shift, show (-1074 : Int) + ((pexp b n + 1074).toNat : Int) = pexp b n by omega]
 have h1 := hF.m
 rw [show ((pmag b n).toNat : Int) = pmag b n by omega] at h
 exact h
theorem of_lies (n b : Int) (hn : n = 64 ∨ n = 32) (hc : cls b n < 3) (hF : FinP n b) : Lies (-1074) 2200 (ofN b n) ∧ vz (-1074) (ofN b n) = zv n b := by
 obtain ⟨r, h1, h2, h3⟩ := cfm_lies (-1074) 2200 (by decide) (by decide) (by decide) (zv n b) (zv_lt n b hF)
 rw [of_zv n b hn hc hF] at h1
 cases h1
 exact ⟨h2, h3⟩
theorem pval_zv (n x y : Int) (hx : FinP n x) (hy : FinP n y) : pval n x y = zv n x * zv n y := by
 have h1 := hx.e
 have h2 := hy.e
 unfold pval zv
 rw [← sgl_two]
 congr 1
 rw [show (pexp x n + pexp y n + 2148).toNat = (pexp x n + 1074).toNat + (pexp y n + 1074).toNat by omega, Int.pow_add]
 simp only [Int.mul_assoc, Int.mul_comm, Int.mul_left_comm]
/- a product, as the document has it -/
/- a number that is S in units of 2^-2148 -/
structure DN (S : Int) (r : Nm) : Prop where
 bd : S.natAbs < 2 ^ expK
 is : cfm S (-2148) = some r
theorem dn_some (S : Int) (h : S.natAbs < 2 ^ expK) : ∃ r, DN S r := by
 obtain ⟨r, hr⟩ := cfm_some S h
 exact ⟨r, h, hr⟩
theorem DN.one {S : Int} {r t : Nm} (h : DN S r) (h' : DN S t) : r = t := by
 have := h.is.symm.trans h'.is
 cases this
 rfl
theorem DN.lies {S : Int} {r : Nm} (h : DN S r) : Lies (-2148) expK r ∧ vz (-2148) r = S := by
 obtain ⟨r', h1, h2, h3⟩ := cfm_lies (-2148) expK (by rw [expK_is]; decide) (by decide) (by decide) S h.bd
 rw [h.is] at h1
 cases h1
 exact ⟨h2, h3⟩
theorem DN.vld {S : Int} {r : Nm} (h : DN S r) : vld r = true := h.lies.1.ok
theorem DN.rg {S : Int} {r : Nm} (h : DN S r) : Rg r.mag ∧ r.mag.length ≤ 2000 := by
 obtain ⟨hl, hd⟩ := vld_dg r.neg r.mag r.exp h.vld
 exact ⟨hd.rg, hl⟩
theorem dn_zero : DN 0 ⟨false, [], 0⟩ := ⟨by simp; exact Nat.two_pow_pos _, cfm_zero _⟩
theorem dn_add {S T : Int} {r t : Nm} (h : DN S r) (h' : DN T t) (hb : (S + T).natAbs < 2 ^ expK) : ∃ q, DN (S + T) q ∧ addZ r t = some q := by
 obtain ⟨q, hq⟩ := dn_some (S + T) hb
 refine ⟨q, hq, ?_⟩
 rw [add_cfm (-2148) expK (by rw [expK_is]; decide) r t h.lies.1 h'.lies.1, h.lies.2, h'.lies.2]
 exact hq.is
def expJ : Nat := 4200
theorem expJ_is : expJ = 4200 := rfl
theorem pval_lt (n x y : Int) (hx : FinP n x) (hy : FinP n y) : (pval n x y).natAbs < 2 ^ expJ := by
 have g1 := hx.m
 have g2 := hy.m
 have g3 := hx.e
 have g4 := hy.e
 rw [pval_zv n x y hx hy, Int.natAbs_mul]
 unfold zv
 obtain ⟨e, he⟩ : ∃ e, e = (pexp x n + 1074).toNat := ⟨_, rfl⟩
 obtain ⟨f, hf⟩ : ∃ e, e = (pexp y n + 1074).toNat := ⟨_, rfl⟩
 rw [sgl_abs, sgl_abs, Int.natAbs_mul, Int.natAbs_mul, Int.natAbs_pow, Int.natAbs_pow, ← he, ← hf]
 have h4 : (2 : Int).natAbs = 2 := rfl
 rw [h4]
 have h3 : (pmag x n).natAbs < 2 ^ 53 := by
  have : (2 : Nat) ^ 53 = 9007199254740992 := by decide
  omega
 have h5 : (pmag y n).natAbs < 2 ^ 53 := by
  have : (2 : Nat) ^ 53 = 9007199254740992 := by decide
  omega
 have a1 : (pmag x n).natAbs * 2 ^ e < 2 ^ (53 + e) := by
  rw [Nat.pow_add]
  exact Nat.mul_lt_mul_of_pos_right h3 (Nat.two_pow_pos e)
 have a2 : (pmag y n).natAbs * 2 ^ f < 2 ^ (53 + f) := by
  rw [Nat.pow_add]
  exact Nat.mul_lt_mul_of_pos_right h5 (Nat.two_pow_pos f)
 have a3 : (2 : Nat) ^ (53 + e) * 2 ^ (53 + f) ≤ 2 ^ expJ := by
  rw [← Nat.pow_add]
  exact Nat.pow_le_pow_right (by decide) (by rw [expJ_is]; omega)
 exact Nat.lt_of_lt_of_le (Nat.mul_lt_mul'' a1 a2) a3
theorem pvl_lt (n x y : Int) (hn : n = 64 ∨ n = 32) (x1 : -9223372036854775808 ≤ x) (x2 : x ≤ 9223372036854775807) (y1 : -9223372036854775808 ≤ y) (y2 : y ≤ 9223372036854775807) : (pvl n x y).natAbs < 2 ^ expJ := by
 unfold pvl
 by_cases h : bth n x y = true
 ·rw [if_pos h]
  unfold bth at h
  rw [Bool.and_eq_true, decide_eq_true_eq, decide_eq_true_eq] at h
  exact pval_lt n x y (finP_of x n x1 x2 hn h.1) (finP_of y n y1 y2 hn h.2)
 ·rw [if_neg h]
  exact Nat.two_pow_pos _
theorem big_lt {a : Nat} (h : a < 2 ^ expJ) : a < 2 ^ expK := by
 exact Nat.lt_of_lt_of_le h (Nat.pow_le_pow_right (by decide) (by rw [expK_is, expJ_is]; omega))
theorem merge_dn {S T : Int} {r t q : Nm} (hr : DN S r) (ht : DN T t) (hq : DN (S + T) q) (p1 m1 z1 p2 m2 z2 : Bool) (ao bo : Option Addr) (c d : Nat) (w : World) (hT : Tab w) (h : Sl w (.slice ao r.mag.length c) r.mag) (h' : Sl w (.slice bo t.mag.length d) t.mag) :
  Calls Tryz.prog 29 #[accV r.neg (.slice ao r.mag.length c) r.exp p1 m1 z1, accV t.neg (.slice bo t.mag.length d) t.exp p2 m2 z2] w fun e w' => ∃ vn va vl vc vx, e = .returned (.tuple #[accV vn (.slice va vl vc) vx (p1 || p2) (m1 || m2) (z1 || z2), .int .i64 0]) ∧ New w w' (.agg #[.bool vn, .slice va vl vc, .int .i64 vx]) q ∧ Kept w w' := by
 obtain ⟨q', hq', ha⟩ := dn_add hr ht hq.bd
 obtain rfl := hq'.one hq
 exact merge_ok r.neg ao r.mag.length c r.exp p1 m1 z1 t.neg bo t.mag.length d t.exp p2 m2 z2 w q' (fun u k => addz_ok u (hT.kept k) r.neg r.mag r.exp hr.vld ao c t.neg t.mag t.exp ht.vld bo d (h.kept k) (h'.kept k) q' ha)
theorem product_dn (n x y : Int) (hn : n = 64 ∨ n = 32) (x1 : -9223372036854775808 ≤ x) (x2 : x ≤ 9223372036854775807) (y1 : -9223372036854775808 ≤ y) (y2 : y ≤ 9223372036854775807) (vx : val x n = true) (vy : val y n = true) {S : Int} {r q : Nm} (hr : DN S r) (hq : DN (S + pvl n x y) q) (p m z : Bool) (ao : Option Addr) (c : Nat) (w : World) (hT : Tab w) (h : Sl w (.slice ao r.mag.length c) r.mag) :
  Calls Tryz.prog 19 #[accV r.neg (.slice ao r.mag.length c) r.exp p m z, .int .i64 x, .int .i64 y, .int .i64 n] w fun e w' => ∃ un ua ul uc ux, e = .returned (.tuple #[accV un (.slice ua ul uc) ux (p || fP n x y) (m || fM n x y) (z || fN n x y), .int .i64 0]) ∧ New w w' (.agg #[.bool un, .slice ua ul uc, .int .i64 ux]) q ∧ Kept w w' := by
 obtain ⟨t, ht⟩ := dn_some (pvl n x y) (big_lt (pvl_lt n x y hn x1 x2 y1 y2))
 have hL : [x, y].all (val · n) = true := by simp [vx, vy]
 refine addProduct_ok n x y r.neg ao r.mag.length c r.exp p m z w (PhiA (pvl n x y) (fP n x y) (fM n x y) (fN n x y) 1) t q (fP n x y) (fM n x y) (fN n x y) (p || fP n x y) (m || fM n x y) (z || fN n x y) 0 (fun b v k2 hb h0 h1 => ?_) (fun b v hM => ?_) (fun b v fl C lo hi k2 hM hΦ => phi_told n _ _ _ _ 1 (by decide) b v (hT.kept k2) fl C lo hi hM hΦ _ ht.is) (fun v vn va vl vc vx k2 e1 e2 e3 e4 hs => ?_)
 ·have := look_any n r.neg r.mag r.exp hr.rg.1 (by have := hr.rg.2; omega) ao c p m z [x, y] (by simp) v (h.kept k2) _ (sl_two hb h0 h1)
  rw [show lkE n (vld ⟨r.neg, r.mag, r.exp⟩) [x, y] = 0 by unfold lkE; rw [show vld ⟨r.neg, r.mag, r.exp⟩ = true from hr.vld, if_neg (by simp [val, hn] <;> omega), if_neg (by simp), if_pos hL]] at this
  exact this
 ·have := phi_any n x y hn x1 x2 y1 y2 vx vy 0 false false false 0 (by decide) b v acc0 C0 141 0 hM phi_start
  simp only [Int.zero_add, Bool.false_or, Nat.zero_add] at this
  exact this
 ·subst e1 e2 e3
  exact merge_dn hr ht hq p m z _ _ _ ao va c vc v (hT.kept k2) (h.kept k2) hs
def oneN (n : Int) : Int := if n = 64 then 4607182418800017408 else 1065353216
theorem oneN_ok (n : Int) (hn : n = 64 ∨ n = 32) : -9223372036854775808 ≤ oneN n ∧ oneN n ≤ 9223372036854775807 ∧ val (oneN n) n = true := by
 rcases hn with rfl | rfl <;> decide +kernel
theorem fromOne (n : Int) (hn : n = 64 ∨ n = 32) (u : World) : Calls Tryz.prog 32 #[.int .i64 1, .int .i64 n] u fun e w' => e = .returned (.int .i64 (oneN n)) ∧ Kept u w' := by
 rcases hn with rfl | rfl
 ·exact (fromOne_64 u).mono (by rintro e w' ⟨rfl, rfl⟩; exact ⟨rfl, Kept.refl _⟩)
 ·exact (fromOne_32 u).mono (by rintro e w' ⟨rfl, rfl⟩; exact ⟨rfl, Kept.refl _⟩)
theorem one_dn (n x : Int) (hn : n = 64 ∨ n = 32) (x1 : -9223372036854775808 ≤ x) (x2 : x ≤ 9223372036854775807) (vx : val x n = true) {S : Int} {r q : Nm} (hr : DN S r) (hq : DN (S + pvl n x (oneN n)) q) (p m z : Bool) (ao : Option Addr) (c : Nat) (w : World) (hT : Tab w) (h : Sl w (.slice ao r.mag.length c) r.mag) :
  Calls Tryz.prog 28 #[accV r.neg (.slice ao r.mag.length c) r.exp p m z, .int .i64 x, .int .i64 n] w fun e w' => ∃ un ua ul uc ux, e = .returned (.tuple #[accV un (.slice ua ul uc) ux (p || fP n x (oneN n)) (m || fM n x (oneN n)) (z || fN n x (oneN n)), .int .i64 0]) ∧ New w w' (.agg #[.bool un, .slice ua ul uc, .int .i64 ux]) q ∧ Kept w w' := by
 obtain ⟨o1, o2, o3⟩ := oneN_ok n hn
 exact addOne_ok n x (oneN n) r.neg ao r.mag.length c r.exp p m z w q _ _ _ 0 (fun u => fromOne n hn u) (fun u k => product_dn n x (oneN n) hn x1 x2 o1 o2 vx o3 hr hq p m z ao c u (hT.kept k) (h.kept k))
theorem mask32 (s : Int) : bits .and .i64 s 4294967295 = s % 4294967296 := by
 rw [bits_and, BitVec.toNat_and, show (BitVec.ofInt 64 4294967295).toNat = 2 ^ 32 - 1 from rfl, Nat.and_two_pow_sub_one_eq_mod, BitVec.toNat_ofInt, wrap_i64]
 omega
theorem mask2 (s : Int) : bits .and .i64 s 3 = s % 4 := by
 rw [bits_and, BitVec.toNat_and, show (BitVec.ofInt 64 3).toNat = 2 ^ 2 - 1 from rfl, Nat.and_two_pow_sub_one_eq_mod, BitVec.toNat_ofInt, wrap_i64]
 omega
/- an item's width, its patterns -/
def wdI (w : Int) : Int := if w % 2 = 0 then 32 else 64
def ptI (b w : Int) : Int := if w % 2 = 0 then b % 4294967296 else b
theorem wdI_ok (w : Int) : wdI w = 64 ∨ wdI w = 32 := by unfold wdI; split <;> simp
theorem ptI_ok (b w : Int) (h1 : -9223372036854775808 ≤ b) (h2 : b ≤ 9223372036854775807) : -9223372036854775808 ≤ ptI b w ∧ ptI b w ≤ 9223372036854775807 ∧ val (ptI b w) (wdI w) = true := by
 unfold ptI wdI val
 by_cases h : w % 2 = 0
 ·rw [if_pos h, if_pos h]
  refine ⟨by omega, by omega, ?_⟩
  simp
  omega
 ·rw [if_neg h, if_neg h]
  exact ⟨h1, h2, by simp⟩
theorem pattern3 (b w : Int) (u : World) : Calls Tryz.prog 15 #[.int .i64 b, .int .i64 w] u fun e w' => e = .returned (.int .i64 (ptI b w)) ∧ Kept u w' := by
 have m1 := and_one w
 have m2 := mask32 b
 obtain ⟨R, hR⟩ : ∃ R, R = ptI b w := ⟨_, rfl⟩
 rw [← hR]
 unfold ptI at hR
 by_cases h : w % 2 = 0
 ·rw [if_pos h] at hR
  have e1 : (bits .and .i64 w 1 == 0) = true := by rw [m1, h]; rfl
  have e2 : bits .and .i64 b 4294967295 = R := by rw [m2, hR]
  clear m1 m2 h hR
  go_enter Tryz.func15, Tryz.ntmps15
  go_wp2_with fail
  go_ret
  exact ⟨rfl, Kept.refl _⟩
 ·rw [if_neg h] at hR
  subst hR
  have e1 : (bits .and .i64 w 1 == 0) = false := by rw [m1, beq_eq_false_iff_ne]; exact h
  clear m1 m2 h
  go_enter Tryz.func15, Tryz.ntmps15
  go_wp2_with fail
  go_ret
  exact ⟨rfl, Kept.refl _⟩
theorem accOf_ok (n x : Int) (w : World) (r : Nm) (P M Z : Bool) (f : Int)
  (KP : Hid (∀ u, Kept w u → Calls Tryz.prog 28 #[accZ, .int .i64 x, .int .i64 n] u fun e w' => ∃ un ua ul uc ux, e = .returned (.tuple #[accV un (.slice ua ul uc) ux P M Z, .int .i64 f]) ∧ New u w' (.agg #[.bool un, .slice ua ul uc, .int .i64 ux]) r ∧ Kept u w')) :
  Calls Tryz.prog 38 #[.int .i64 x, .int .i64 n] w fun e w' => ∃ un ua ul uc ux, e = .returned (.tuple #[accV un (.slice ua ul uc) ux P M Z, .int .i64 f]) ∧ New w w' (.agg #[.bool un, .slice ua ul uc, .int .i64 ux]) r ∧ Kept w w' := by
 obtain ⟨X, hX⟩ : ∃ X, X = w.alloc (.cells #[.bool false, .slice none 0 0, .int .i64 0, .bool false, .bool false, .bool false] 26) := ⟨_, rfl⟩
 have k0 : Kept w X := by rw [hX]; exact (Kept.refl w).alloc _ _
 have hXs : Hid (X.heap.size = w.heap.size + 1) := by rw [hX]; simp [Hid]
 have HR : Hid (∀ u, Kept X u → _) := acc_res hX
 go_enter Tryz.func38, Tryz.ntmps38
 go_upto_region 1 with fail
 rw [← hX]
 clear hX
 go_wp2_with fail
 refine (KP.out _ k0).mono ?_
 rintro e w5 ⟨un, ua, ul, uc, ux, rfl, hN5, k5⟩
 obtain ⟨r0, r1, r2', r3, r4, r5, r6⟩ := HR.out _ k5
 go_wp2_with fail
 refine bodyPost_ret (v := .tuple #[accV un (.slice ua ul uc) ux P M Z, .int .i64 f]) (by simp [results, Tryz.results38, go_sem, r0, r1, r2', r3, r4, r5]) rfl ⟨un, ua, ul, uc, ux, rfl, ?_, ?_⟩
 ·exact new_six hN5 (by rw [hXs.out]; omega) _ _ _ _ _ _
 ·exact kept_six (k0.trans k5) _ _ _ _ _ _
theorem accNeg_ok (ng : Bool) (ao : Option Addr) (l c : Nat) (x : Int) (p m z : Bool) (w : World) (r : Nm)
  (KN : Hid (∀ u, Kept w u → Calls Tryz.prog 85 #[.agg #[.bool ng, .slice ao l c, .int .i64 x]] u fun e w' => ∃ v, e = .returned (.tuple #[v, .int .i64 0]) ∧ New u w' v r ∧ Kept u w')) :
  Calls Tryz.prog 33 #[accV ng (.slice ao l c) x p m z] w fun e w' => ∃ un ua ul uc ux, e = .returned (.tuple #[accV un (.slice ua ul uc) ux m p z, .int .i64 0]) ∧ New w w' (.agg #[.bool un, .slice ua ul uc, .int .i64 ux]) r ∧ Kept w w' := by
 obtain ⟨X0, hX0⟩ : ∃ X, X = w.alloc (.cells #[.bool ng, .slice ao l c, .int .i64 x, .bool p, .bool m, .bool z] 26) := ⟨_, rfl⟩
 obtain ⟨X, hX⟩ : ∃ X, X = (w.alloc (.cells #[.bool ng, .slice ao l c, .int .i64 x, .bool p, .bool m, .bool z] 26)).alloc (.cells #[.bool false, .slice none 0 0, .int .i64 0, .bool false, .bool false, .bool false] 26) := ⟨_, rfl⟩
 have k0 : Kept w X := by rw [hX]; exact ((Kept.refl w).alloc _ _).alloc _ _
 have k00 : Kept X0 X := by rw [hX, hX0]; exact (Kept.refl _).alloc _ _
 obtain ⟨R, hR⟩ : ∃ R, R = w.heap.size + 1 := ⟨_, rfl⟩
 have HXs : Hid (X.heap.size = w.heap.size + 2 ∧ R = w.heap.size + 1) := ⟨by rw [hX]; simp, hR⟩
 have HA : Hid (∀ u, Kept X0 u → _) := acc_cells1 ng (.slice ao l c) x p m z 26 w.heap.size rfl (X := X0) (by rw [hX0]; exact Kept.refl _)
 have HR : Hid (∀ u, Kept X u → _) := acc_res1 (w := w.alloc (.cells #[.bool ng, .slice ao l c, .int .i64 x, .bool p, .bool m, .bool z] 26)) 26 R (by rw [hR]; simp) (by rw [hX]; exact Kept.refl _)
 go_enter Tryz.func33, Tryz.ntmps33
 go_upto_region 1 with fail
 rw [← hX, ← hR]
 clear hX hX0 hR
 obtain ⟨c0, c1, c2, c3, c4, c5⟩ := HA.out _ k00
 go_wp2_with fail
 refine (KN.out _ k0).mono ?_
 rintro e w1 ⟨v, rfl, hN, k1⟩
 obtain ⟨vn, va, vl, vc, vx, rfl⟩ := hN.shape
 have HN : Hid (New X w1 (.agg #[.bool vn, .slice va vl vc, .int .i64 vx]) r) := hN
 clear c0 c1 c2 c3 c4 c5 hN
 obtain ⟨-, -, -, f3, f4, f5⟩ := HA.out _ (k00.trans k1)
 obtain ⟨-, -, -, g3, g4, g5⟩ := HA.out _ (k00.trans (k1.alloc #[.bool vn, .slice va vl vc, .int .i64 vx] 24))
 obtain ⟨r0, r1, r2, r3, r4, r5, r6⟩ := HR.out _ k1
 obtain ⟨s0, s1, s2, s3, s4, s5, s6⟩ := HR.out _ (k1.alloc #[.bool vn, .slice va vl vc, .int .i64 vx] 24)
 have nn2 : R ≠ w1.heap.size := by have := k1.below.size; have := HXs.out; omega
 have nn0 : w.heap.size ≠ w1.heap.size := by have := k1.below.size; have := HXs.out; omega
 go_wp2_with fail
 refine bodyPost_ret (v := .tuple #[accV vn (.slice va vl vc) vx m p z, .int .i64 0]) (by simp [results, Tryz.results33, go_sem, r0, r1, r2, r3, r4, r5, s0, s1, s2, s3, s4, s5, nn2]) rfl ⟨vn, va, vl, vc, vx, rfl, ?_, ?_⟩
 ·have hN2 : New X (w1.alloc (.cells #[.bool vn, .slice va vl vc, .int .i64 vx] 24)) (.agg #[.bool vn, .slice va vl vc, .int .i64 vx]) r := HN.out.kept ((Kept.refl w1).alloc _ _)
  exact new_six1 R (by have := HXs.out; omega) hN2 (by have := HXs.out; omega) _ _ _ _ _ _
 ·exact kept_six1 R (by have := HXs.out; omega) ((k0.trans k1).alloc _ _) _ _ _ _ _ _
theorem equal_true (L : List Int) (hlen : L.length < 100000000) (a b : Option Addr) (c d : Nat) (w : World) (h : Sl w (.slice a L.length c) L) (h' : Sl w (.slice b L.length d) L) : Calls Tryz.prog 86 #[.slice a L.length c, .slice b L.length d] w fun e w' => e = .returned (.bool true) ∧ Kept w w' := by
 have HX : Hid (∀ u, Kept w u → ∀ i, i < L.length → ∃ b off, a = some ⟨b, off, none⟩ ∧ u.cell? ⟨b, off + i, none⟩ = some (.int .i64 (L.getD i 0))) := fun u k i hi => sl_cell h u k i hi
 have HY : Hid (∀ u, Kept w u → ∀ i, i < L.length → ∃ b' off, b = some ⟨b', off, none⟩ ∧ u.cell? ⟨b', off + i, none⟩ = some (.int .i64 (L.getD i 0))) := fun u k i hi => sl_cell h' u k i hi
 clear h h'
 obtain ⟨N, hn⟩ : ∃ N, N = L.length := ⟨_, rfl⟩
 rw [← hn] at HX HY hlen ⊢
 clear hn
 go_enter Tryz.func86, Tryz.ntmps86
 go_wp2_with fail
 go_loopw [13] (fun i wr => ∃ k : Nat, k ≤ N ∧ i = .int .i64 k ∧ Kept w wr) (fun i _ => N - (intOf i).toNat)
 case atStart => exact ⟨0, Nat.zero_le _, rfl, Kept.refl _⟩
 case round =>
  obtain ⟨k, hk, rfl, kr⟩ := hrel
  by_cases hkn : k < N
  ·obtain ⟨bx, ox, rfl, hcx⟩ := HX.out _ kr k hkn
   obtain ⟨by', oy, rfl, hcy⟩ := HY.out _ kr k hkn
   have e0 : (L.getD k 0 != L.getD k 0) = false := by simp
   clear HX HY
   generalize L.getD k 0 = xk at *
   go_wp2_with fail
   go_quiet (fail)
   go_wp2_with fail
   go_roundw
   case rel => exact ⟨k + 1, by omega, by go_num, kr.drewN _⟩
   case measure => simp [intOf]; omega
  ·go_wp2_with fail
   go_ret
   exact ⟨rfl, kr⟩
end Go.Proofs.YtoflafgbbjinpaaGreatDoor
