/- A finite float's value as an exact number: the walk of exact's Of; the numbers that round meets there. The walk of exact's Round at the value of a float, in every way. The walk of exact's Round at the value of a float, in every way. -/
import Derived.Test.YtalhnaakbekboaaDoorU35
import Derived.Test.YtalhnaakbekboaaDoorU24
namespace Go.Proofs.YtalhnaakbekboaaDoor
open Go.ChangeShapes Go.WideShapes Go.ChangeAt Go.RowKit
set_option linter.unusedVariables false
set_option linter.unusedSimpArgs false

def ofN (b n : Int) : Nm := (frm (pneg b n) (pmag b n).toNat (pexp b n)).getD ⟨false, [], 0⟩
theorem fin_of (b n : Int) (hn : n = 64 ∨ n = 32) (hc : cls b n < 3) : fin b n = true := by simp [fin, hn, hc]

theorem fl_64 (b : Int) (hc : cls b 64 < 3) : 0 ≤ pmag b 64 ∧ pmag b 64 < 9007199254740992 ∧ -1074 ≤ pexp b 64 ∧ pexp b 64 ≤ 971 ∧ (pmag b 64 < 4503599627370496 → pexp b 64 = -1074) := by
  have hf := fin_of b 64 (.inl rfl) hc
  have hs : b % 9223372036854775808 < 9218868437227405312 := by
    unfold cls clsOf at hc
    simp only [if_true] at hc
    (repeat' split at hc) <;> omega
  unfold pmag pexp
  rw [if_pos hf, if_pos rfl, if_pos hf, if_pos rfl]
  (repeat' split) <;> omega
theorem fl_32 (b : Int) (hc : cls b 32 < 3) : 0 ≤ pmag b 32 ∧ pmag b 32 < 16777216 ∧ -149 ≤ pexp b 32 ∧ pexp b 32 ≤ 104 ∧ (pmag b 32 < 8388608 → pexp b 32 = -149) := by
  have hf := fin_of b 32 (.inr rfl) hc
  have hs : b % 2147483648 < 2139095040 := by
    unfold cls clsOf at hc
    rw [if_neg (by decide), if_pos rfl] at hc
    (repeat' split at hc) <;> omega
  unfold pmag pexp
  simp only [hf, if_true, show ¬ ((32 : Int) = 64) by decide, if_false]
  (repeat' split) <;> omega
theorem fl_any (b n : Int) (hn : n = 64 ∨ n = 32) (hc : cls b n < 3) : 0 ≤ pmag b n ∧ pmag b n < 2 ^ (kprec n).toNat ∧ kleast n ≤ pexp b n ∧ pexp b n ≤ 1000 ∧ -1074 ≤ pexp b n ∧ (pmag b n < 2 ^ ((kprec n).toNat - 1) → pexp b n = kleast n) := by
  rcases hn with rfl | rfl
  · obtain ⟨h1, h2, h3, h4, h5⟩ := fl_64 b hc
    refine ⟨h1, ?_, h3, by omega, h3, fun h => h5 ?_⟩
    · exact h2
    · exact h
  · obtain ⟨h1, h2, h3, h4, h5⟩ := fl_32 b hc
    refine ⟨h1, ?_, h3, by omega, by omega, fun h => h5 ?_⟩
    · exact h2
    · exact h
theorem bl_mag (b n : Int) (hn : n = 64 ∨ n = 32) (hc : cls b n < 3) : bl (pmag b n).toNat ≤ (kprec n).toNat ∧ bl (pmag b n).toNat ≤ 53 := by
  obtain ⟨h1, h2, -⟩ := fl_any b n hn hc
  have := bl_le (pmag b n).toNat (kprec n).toNat (by
    have e : (((pmag b n).toNat : Nat) : Int) < ((2 ^ (kprec n).toNat : Nat) : Int) := by push_cast; rw [Int.toNat_of_nonneg h1]; exact h2
    exact_mod_cast e)
  refine ⟨this, ?_⟩
  rcases hn with rfl | rfl
  · exact this
  · exact Nat.le_trans this (by decide)

/-- The value and the exponent decide the number: by a power of two they may be shifted. -/
theorem frm_mul (neg : Bool) (v k : Nat) (x : Int) (hv : v ≠ 0) (h1 : -3000000 ≤ x) (h2 : x ≤ 3000000) (hk : k ≤ 3000000) (hz : tzn v ≤ 3000000) : frm neg (v * 2 ^ k) x = frm neg v (x + (k : Int)) := by
  obtain ⟨o, ho, e⟩ := tzn_spec v hv
  have hp := Nat.two_pow_pos k
  have hne : v * 2 ^ k ≠ 0 := Nat.mul_ne_zero hv (by omega)
  have ht : tzn (v * 2 ^ k) = tzn v + k := by
    have : v * 2 ^ k = o * 2 ^ (tzn v + k) := by rw [Nat.pow_add, ← Nat.mul_assoc, ← e]
    rw [this, tzn_mul o _ ho]
  have hb := bl_mul v k hv
  have hw : wrap64 (x + ((tzn v + k : Nat) : Int)) = wrap64 (x + (k : Int) + (tzn v : Int)) := by congr 1; push_cast; omega
  have hd : v * 2 ^ k / 2 ^ (tzn v + k) = v / 2 ^ tzn v := by
    rw [Nat.pow_add, Nat.mul_div_mul_right _ _ hp]
  unfold frm
  rw [if_neg hne, if_neg hv, ht, hb, hw, hd, show bl v + k - (tzn v + k) = bl v - tzn v by omega]

theorem of_zero (b n : Int) (h : pmag b n = 0) : frm (pneg b n) (pmag b n).toNat (pexp b n) = some ⟨false, [], 0⟩ ∧ ofN b n = ⟨false, [], 0⟩ := by
  have : frm (pneg b n) (pmag b n).toNat (pexp b n) = some ⟨false, [], 0⟩ := by rw [h]; simp [frm]
  exact ⟨this, by unfold ofN; rw [this]; rfl⟩
theorem tzn_le_bl (v : Nat) (hv : v ≠ 0) : tzn v < bl v := by
  have h := bl_sub v hv
  have := (bl_pos _ h.2).2.2
  omega
theorem of_some (b n : Int) (hn : n = 64 ∨ n = 32) (hc : cls b n < 3) (h0 : pmag b n ≠ 0) : frm (pneg b n) (pmag b n).toNat (pexp b n) = some (ofN b n) ∧ ofN b n = ⟨pneg b n, digs ((pmag b n).toNat / 2 ^ tzn (pmag b n).toNat), pexp b n + (tzn (pmag b n).toNat : Int)⟩ := by
  obtain ⟨h1, h2, h3, h4, h5, h6⟩ := fl_any b n hn hc
  have hb := (bl_mag b n hn hc).2
  have hv : (pmag b n).toNat ≠ 0 := by omega
  have ht := tzn_le_bl _ hv
  have hw : wrap64 (pexp b n + (tzn (pmag b n).toNat : Int)) = pexp b n + (tzn (pmag b n).toNat : Int) := by unfold wrap64; omega
  have : frm (pneg b n) (pmag b n).toNat (pexp b n) = some ⟨pneg b n, digs ((pmag b n).toNat / 2 ^ tzn (pmag b n).toNat), pexp b n + (tzn (pmag b n).toNat : Int)⟩ := by
    unfold frm
    rw [if_neg hv, hw, if_pos ⟨by omega, by omega, by omega⟩]
  exact ⟨by rw [this]; unfold ofN; rw [this]; rfl, by unfold ofN; rw [this]; rfl⟩
theorem of_frm (b n : Int) (hn : n = 64 ∨ n = 32) (hc : cls b n < 3) : frm (pneg b n) (pmag b n).toNat (pexp b n) = some (ofN b n) := by
  by_cases h : pmag b n = 0
  · obtain ⟨h1, h2⟩ := of_zero b n h
    rw [h1, h2]
  · exact (of_some b n hn hc h).1

set_option maxHeartbeats 2000000 in
set_option maxRecDepth 100000 in
theorem of_fin (b n : Int) (hb1 : -9223372036854775808 ≤ b) (hb2 : b ≤ 9223372036854775807) (hn : n = 64 ∨ n = 32) (hc : cls b n < 3) (w : World) (hT : Tab w) : Calls Tryd.prog 22 #[.int .i64 b, .int .i64 n] w fun e w' => ∃ v, e = .returned (.tuple #[v, .int .i64 0]) ∧ New w w' v (ofN b n) ∧ Kept w w' := by
  have hK : Kept w (numW w) := (Kept.refl w).alloc _ _
  obtain ⟨h1, h2, h3, h4, h5, h6⟩ := fl_any b n hn hc
  have hbl := (bl_mag b n hn hc).2
  have hlt := bl_lt (pmag b n).toNat
  have hm53 : (pmag b n).toNat < 2 ^ 53 := Nat.lt_of_lt_of_le hlt (Nat.pow_le_pow_right (by decide) hbl)
  have hm : pmag b n < 9007199254740992 := by
    have : (2 : Nat) ^ 53 = 9007199254740992 := by decide
    omega
  have KK : Hid (∀ u, Calls Tryd.prog 48 #[.int .i64 n] u fun e w' => e = .returned (.tuple #[.agg #[.int .i64 n, .int .i64 (kprec n), .int .i64 (kleast n), .int .i64 (kinf n)], .bool true]) ∧ Kept u w') := fun u => kindOf_ok n hn u
  have KP : Hid (∀ u, Calls Tryd.prog 49 #[.int .i64 b, .int .i64 n] u fun e w' => e = .returned (.tuple #[.bool (pneg b n), .int .i64 (pmag b n), .int .i64 (pexp b n), .bool true]) ∧ Kept u w') := fun u => by
    have := parts_any b n hb1 hb2 u
    rw [fin_of b n hn hc] at this
    exact this
  have hf := of_frm b n hn hc
  generalize pmag b n = s at *
  have hw1 : IntKind.u64.wrap s = s := by rw [IntKind.wrap_u64]; omega
  have KD : Hid (∀ u, Calls Tryd.prog 51 #[.int .u64 s] u fun e w' => e = .returned (.slice (some ⟨u.heap.size, 0, none⟩) 3 3) ∧ w' = u.alloc (.cells #[.int .i64 (s % 1073741824), .int .i64 (s / 1073741824 % 1073741824), .int .i64 (s / 1152921504606846976)] 3)) := fun u => digitsOf_any s h1 (by omega) u
  have hDg : Dg [s % 1073741824, s / 1073741824 % 1073741824, s / 1152921504606846976] := Dg.cons (by omega) (by omega) (Dg.cons (by omega) (by omega) (Dg.cons (by omega) (by omega) Dg.nil))
  have hnv : nv [s % 1073741824, s / 1073741824 % 1073741824, s / 1152921504606846976] = s.toNat := by
    show (s % 1073741824).toNat + 1073741824 * ((s / 1073741824 % 1073741824).toNat + 1073741824 * ((s / 1152921504606846976).toNat + 1073741824 * 0)) = s.toNat
    omega
  have KF : Hid (∀ u, Kept (numW w) u → Calls Tryd.prog 50 #[.bool (pneg b n), .slice (some ⟨u.heap.size, 0, none⟩) 3 3, .int .i64 (pexp b n)] (u.alloc (.cells #[.int .i64 (s % 1073741824), .int .i64 (s / 1073741824 % 1073741824), .int .i64 (s / 1152921504606846976)] 3)) fun e w' => (∃ v, e = .returned v ∧ New (numW w) w' v (ofN b n)) ∧ Kept (numW w) w') := fun u k => form_ok _ _ hDg (by simp) _ 3 (pexp b n) (numW w) _ (k.alloc _ _) k.below.size (own_three u _ _ _) (hT.kept (hK.trans (k.alloc _ _))) _ (by rw [hnv]; exact hf)
  generalize kprec n = pr at *
  generalize kleast n = le at *
  generalize kinf n = fi at *
  generalize pneg b n = ng at *
  generalize pexp b n = ex at *
  generalize ofN b n = r at *
  clear hDg hnv hf hT h1 h2 h3 h4 h5 h6 hbl hlt hm53 hm
  go_enter Tryd.func22, Tryd.ntmps22
  go_wp2_with fail
  refine (KK.out _).mono ?_
  rintro e w1 ⟨rfl, k1⟩
  have k1' := k1.alloc #[.int .i64 n, .int .i64 pr, .int .i64 le, .int .i64 fi] 81
  go_wp2_with fail
  refine (KP.out _).mono ?_
  rintro e w2 ⟨rfl, k2⟩
  have kk := k1'.trans k2
  go_wp2_with fail
  refine (KD.out _).mono ?_
  rintro e w3 ⟨rfl, rfl⟩
  go_wp2_with fail
  refine (KF.out _ kk).mono ?_
  rintro e w4 ⟨⟨v, rfl, hN⟩, k4⟩
  obtain ⟨vn, va, vl, vc, vx, rfl⟩ := hN.shape
  obtain ⟨f0, f1, f2, f3⟩ := num_cells k4
  go_wp2_with fail
  have := num_done hN k4 (.bool vn) (.slice va vl vc) (.int .i64 vx)
  exact bodyPost_ret (v := .tuple #[.agg #[.bool vn, .slice va vl vc, .int .i64 vx], .int .i64 0]) (by simp [results, Tryd.results22, go_sem, f0, f1, f2]) rfl ⟨_, rfl, this.1, this.2⟩

set_option maxHeartbeats 1000000 in
set_option maxRecDepth 100000 in
theorem of_width (b n : Int) (g1 : (n == 32) = false) (g2 : (n == 64) = false) (w : World) : Calls Tryd.prog 22 #[.int .i64 b, .int .i64 n] w fun e w' => e = .returned (.tuple #[zeroNum, .int .i64 3]) ∧ Kept w w' := by
  have hK : Kept w (numW w) := (Kept.refl w).alloc _ _
  go_enter Tryd.func22, Tryd.ntmps22
  go_wp2_with fail
  refine (kindOf_0 n g1 g2 _).mono ?_
  rintro e w1 ⟨rfl, k1⟩
  have k1' := k1.alloc #[.int .i64 0, .int .i64 0, .int .i64 0, .int .i64 0] 81
  obtain ⟨f0, f1, f2, f3⟩ := num_cells k1'
  go_wp2_with fail
  exact bodyPost_ret (v := .tuple #[zeroNum, .int .i64 3]) (by simp [results, Tryd.results22, go_sem, f0, f1, f2]) rfl ⟨rfl, (hK.trans k1').setCell (by simp) _ |>.setCell (by simp) _ |>.setCell (by simp) _⟩

set_option maxHeartbeats 1000000 in
set_option maxRecDepth 100000 in
theorem of_bits (b n : Int) (hb1 : -9223372036854775808 ≤ b) (hb2 : b ≤ 9223372036854775807) (hn : n = 64 ∨ n = 32) (hc : 3 ≤ cls b n) (w : World) : Calls Tryd.prog 22 #[.int .i64 b, .int .i64 n] w fun e w' => e = .returned (.tuple #[zeroNum, .int .i64 6]) ∧ Kept w w' := by
  have hK : Kept w (numW w) := (Kept.refl w).alloc _ _
  have KK : Hid (∀ u, Calls Tryd.prog 48 #[.int .i64 n] u fun e w' => e = .returned (.tuple #[.agg #[.int .i64 n, .int .i64 (kprec n), .int .i64 (kleast n), .int .i64 (kinf n)], .bool true]) ∧ Kept u w') := fun u => kindOf_ok n hn u
  have KP : Hid (∀ u, Calls Tryd.prog 49 #[.int .i64 b, .int .i64 n] u fun e w' => e = .returned (.tuple #[.bool false, .int .i64 0, .int .i64 0, .bool false]) ∧ Kept u w') := fun u => parts_no b n hn hc u
  generalize kprec n = pr at *
  generalize kleast n = le at *
  generalize kinf n = fi at *
  go_enter Tryd.func22, Tryd.ntmps22
  go_wp2_with fail
  refine (KK.out _).mono ?_
  rintro e w1 ⟨rfl, k1⟩
  have k1' := k1.alloc #[.int .i64 n, .int .i64 pr, .int .i64 le, .int .i64 fi] 81
  go_wp2_with fail
  refine (KP.out _).mono ?_
  rintro e w2 ⟨rfl, k2⟩
  have kk := k1'.trans k2
  obtain ⟨f0, f1, f2, f3⟩ := num_cells kk
  go_wp2_with fail
  exact bodyPost_ret (v := .tuple #[zeroNum, .int .i64 6]) (by simp [results, Tryd.results22, go_sem, f0, f1, f2]) rfl ⟨rfl, (hK.trans kk).setCell (by simp) _ |>.setCell (by simp) _ |>.setCell (by simp) _⟩
end Go.Proofs.YtalhnaakbekboaaDoor

namespace Go.Proofs.YtalhnaakbekboaaDoor
open Go.ChangeShapes Go.WideShapes Go.ChangeAt Go.RowKit
set_option linter.unusedVariables false
set_option linter.unusedSimpArgs false

theorem and_nat (a b : Nat) (ha : a < 9223372036854775808) (hb : b < 9223372036854775808) : bits .and .i64 (a : Int) (b : Int) = ((a &&& b : Nat) : Int) := by
  rw [bits_and, BitVec.toNat_and]
  have h1 := ofInt_toNat (a : Int)
  have h2 := ofInt_toNat (b : Int)
  have e1 : (BitVec.ofInt 64 (a : Int)).toNat = a := by omega
  have e2 : (BitVec.ofInt 64 (b : Int)).toNat = b := by omega
  have h3 : a &&& b ≤ a := Nat.and_le_left
  rw [e1, e2, wrap_i64]
  omega
theorem and_mask (a m : Nat) (ha : a < 9223372036854775808) (hm : m < 62) : bits .and .i64 (a : Int) (((2 ^ m - 1 : Nat)) : Int) = ((a % 2 ^ m : Nat) : Int) := by
  have hp : (2 : Nat) ^ m ≤ 2 ^ 62 := Nat.pow_le_pow_right (by decide) (by omega)
  have h62 : (2 : Nat) ^ 62 = 4611686018427387904 := by decide
  rw [and_nat _ _ ha (by omega), Nat.and_two_pow_sub_one_eq_mod]
theorem and_bit (y m : Nat) (ha : y * 2 ^ (m + 1) < 9223372036854775808) (hm : m < 62) : bits .and .i64 ((y * 2 ^ (m + 1) : Nat) : Int) ((2 ^ m : Nat) : Int) = 0 := by
  have hp : (2 : Nat) ^ m ≤ 2 ^ 62 := Nat.pow_le_pow_right (by decide) (by omega)
  have h62 : (2 : Nat) ^ 62 = 4611686018427387904 := by decide
  rw [and_nat _ _ ha (by omega)]
  have : y * 2 ^ (m + 1) &&& 2 ^ m = 0 := by
    apply Nat.eq_of_testBit_eq
    intro i
    rw [Nat.testBit_and, Nat.testBit_two_pow, Nat.zero_testBit]
    by_cases h : m = i
    · subst h
      rw [Nat.testBit_eq_decide_div_mod_eq, Nat.pow_succ, show y * (2 ^ m * 2) / 2 ^ m = y * 2 by rw [show y * (2 ^ m * 2) = y * 2 * 2 ^ m by ac_rfl, Nat.mul_div_cancel _ (Nat.two_pow_pos _)]]
      simp
    · simp [h]
  rw [this]
  rfl

theorem pneg_can (b n : Int) (hb1 : -9223372036854775808 ≤ b) (hb2 : b ≤ 9223372036854775807) (hn : n = 64 ∨ n = 32) (hc : cls b n < 3) : can b n = if pmag b n = 0 then 0 else b := by
  have hf := fin_of b n hn hc
  have hi : isnum b n = true := by
    unfold isnum
    rcases hn with rfl | rfl <;> simp <;> omega
  unfold can
  rw [if_pos hi]
  rcases hn with rfl | rfl
  · have hs : b % 9223372036854775808 < 9218868437227405312 := by
      unfold cls clsOf at hc
      simp only [if_true] at hc
      (repeat' split at hc) <;> omega
    unfold pmag
    rw [if_pos hf, if_pos rfl, if_pos rfl]
    (repeat' split) <;> omega
  · have hv : 0 ≤ b ∧ b < 4294967296 := by
      unfold cls at hc
      rw [if_neg (by decide), if_pos rfl] at hc
      split at hc
      · assumption
      · omega
    have hs : b % 2147483648 < 2139095040 := by
      unfold cls clsOf at hc
      rw [if_neg (by decide), if_pos rfl] at hc
      (repeat' split at hc) <;> omega
    unfold pmag
    simp only [hf, if_true, show ¬ ((32 : Int) = 64) by decide, if_false]
    (repeat' split) <;> omega

theorem join_back (b n : Int) (hb1 : -9223372036854775808 ≤ b) (hb2 : b ≤ 9223372036854775807) (hn : n = 64 ∨ n = 32) (hc : cls b n < 3) (w : World) (hT : Tab w) : Calls Tryd.prog 88 #[.bool (pneg b n), .int .i64 (pmag b n), .int .i64 (pexp b n), .int .i64 n] w fun e w' => e = .returned (.tuple #[.int .i64 b, .bool true]) ∧ Kept w w' := by
  rcases hn with rfl | rfl
  · exact back_64 b hb1 hb2 hc w hT
  · exact back_32 b hc w hT

theorem wrap_pows (m : Nat) (hm : m < 59) : wrap64 (2 ^ m) = ((2 ^ m : Nat) : Int) ∧ IntKind.i64.wrap (wrap64 (2 ^ m) - 1) = ((2 ^ m - 1 : Nat) : Int) := by
  have hp58 : (2 : Nat) ^ m ≤ 288230376151711744 := Nat.pow_le_pow_right (n := 2) (by decide) (show m ≤ 58 by omega)
  have hpm := Nat.two_pow_pos m
  have e : ((2 : Int) ^ m) = ((2 ^ m : Nat) : Int) := by rw [Int.natCast_pow]; rfl
  rw [e]
  generalize (2 : Nat) ^ m = p at *
  have h1 : wrap64 (p : Int) = (p : Int) := by unfold wrap64; omega
  rw [h1, wrap_i64]
  exact ⟨rfl, by omega⟩
theorem wrap_sm (m : Nat) (hm : m < 59) : IntKind.i64.wrap ((m : Int) + 1) = (m : Int) + 1 := by rw [wrap_i64]; omega
theorem fl_un (b n : Int) (hn : n = 64 ∨ n = 32) (hc : cls b n < 3) (v : Nat) (hv : (pmag b n).toNat = v) (hv0 : v ≠ 0) (t B : Nat) (hB : bl v = B + t) : max (IntKind.i64.wrap (IntKind.i64.wrap (pexp b n + (t : Int) + ((B : Int) - 60) + 60) - kprec n)) (kleast n) = pexp b n := by
  obtain ⟨f1, f2, f3, f4, f5, f6⟩ := fl_any b n hn hc
  obtain ⟨g1, g2⟩ := bl_mag b n hn hc
  rw [hv] at g1 g2
  have hpk : kprec n = 53 ∨ kprec n = 24 := by
    rcases hn with rfl | rfl
    · left; rfl
    · right; rfl
  have hsub : bl v ≠ (kprec n).toNat → pexp b n = kleast n := fun hfull => f6 (by
    have hlt := bl_lt v
    have hle : (2 : Nat) ^ bl v ≤ 2 ^ ((kprec n).toNat - 1) := Nat.pow_le_pow_right (by decide) (by omega)
    have e : ((v : Nat) : Int) < ((2 ^ ((kprec n).toNat - 1) : Nat) : Int) := by exact_mod_cast Nat.lt_of_lt_of_le hlt hle
    rw [Int.natCast_pow] at e
    have e3 : ((v : Nat) : Int) = pmag b n := by omega
    rw [e3] at e
    exact e)
  clear f2 f6
  have e1 : IntKind.i64.wrap (pexp b n + (t : Int) + ((B : Int) - 60) + 60) = pexp b n + (bl v : Int) := by rw [wrap_i64]; omega
  rw [e1]
  have e2 : IntKind.i64.wrap (pexp b n + (bl v : Int) - kprec n) = pexp b n + (bl v : Int) - kprec n := by rw [wrap_i64]; omega
  rw [e2]
  by_cases hfull : bl v = (kprec n).toNat
  · have : pexp b n + (bl v : Int) - kprec n = pexp b n := by omega
    rw [this]
    omega
  · have := hsub hfull
    omega

/-- What round asks at a float's value: all the numbers on the way. -/
theorem fl_round (b n : Int) (hn : n = 64 ∨ n = 32) (hc : cls b n < 3) (h0 : pmag b n ≠ 0) :
    ∃ (o t m : Nat) (h ex : Int), (ofN b n = ⟨pneg b n, digs o, pexp b n + (t : Int)⟩ ∧ o ≠ 0 ∧ nv (digs o) = o ∧ bl o ≤ 60 ∧ ((hd o : Nat) : Int) = h ∧ pexp b n + (t : Int) + ((bl o : Int) - 60) = ex) ∧ m < 62 ∧ (h == 0) = false ∧ 0 < pmag b n ∧ IntKind.u64.wrap h = h ∧ Lib.bitLen h.toNat = 60 ∧ 0 ≤ h ∧ h ≤ 9223372036854775807 ∧
      max (IntKind.i64.wrap (IntKind.i64.wrap (ex + 60) - kprec n)) (kleast n) = pexp b n ∧ IntKind.i64.wrap (pexp b n - ex) = (m : Int) + 1 ∧ h / 2 ^ (m + 1) = pmag b n ∧ bits .and .i64 h (wrap64 (2 ^ m)) = 0 ∧ bits .and .i64 h (IntKind.i64.wrap (wrap64 (2 ^ m) - 1)) = 0 := by
  obtain ⟨f1, f2, f3, f4, f5, f6⟩ := fl_any b n hn hc
  obtain ⟨g1, g2⟩ := bl_mag b n hn hc
  obtain ⟨-, hof⟩ := of_some b n hn hc h0
  obtain ⟨v, hv⟩ : ∃ v, (pmag b n).toNat = v := ⟨_, rfl⟩
  rw [hv] at g1 g2 hof
  have hv0 : v ≠ 0 := by omega
  have hs := bl_sub v hv0
  have htd := tzn_div v hv0
  obtain ⟨t, ht⟩ : ∃ t, tzn v = t := ⟨_, rfl⟩
  obtain ⟨o, ho⟩ : ∃ o, v / 2 ^ tzn v = o := ⟨_, rfl⟩
  rw [ho] at hs htd hof
  rw [ht] at hs htd hof
  have hbo := bl_pos o hs.2
  have hhd := hd_small o (by omega)
  have hhb := hd_bounds o hs.2
  have hbl60 := bitLen_top 59 (hd o) (by decide) hhb.1 hhb.2
  obtain ⟨hh1, hh2⟩ : 576460752303423488 ≤ hd o ∧ hd o < 1152921504606846976 := hhb
  obtain ⟨m, hm⟩ : ∃ m, 59 - bl v = m := ⟨_, rfl⟩
  have hm62 : m < 59 := by omega
  have hh : hd o = v * 2 ^ (m + 1) := by
    rw [hhd]
    have : 60 - bl o = t + (m + 1) := by omega
    rw [this, Nat.pow_add, ← Nat.mul_assoc]
    congr 1
    exact htd.2.symm
  clear hhd htd
  have hun := fl_un b n hn hc v hv hv0 t (bl o) hs.1
  obtain ⟨w1, w2⟩ := wrap_pows m hm62
  have hvi : ((v : Nat) : Int) = pmag b n := by omega
  have hlt : v * 2 ^ (m + 1) < 9223372036854775808 := by rw [← hh]; omega
  have hq : (((v * 2 ^ (m + 1) : Nat)) : Int) / 2 ^ (m + 1) = pmag b n := by
    have : ((v * 2 ^ (m + 1) : Nat) : Int) / 2 ^ (m + 1) = ((v * 2 ^ (m + 1) / 2 ^ (m + 1) : Nat) : Int) := by rw [Int.natCast_ediv, Int.natCast_pow]; rfl
    rw [this, Nat.mul_div_cancel _ (Nat.two_pow_pos _)]
    exact hvi
  have ha1 : bits .and .i64 ((v * 2 ^ (m + 1) : Nat) : Int) (wrap64 (2 ^ m)) = 0 := by
    rw [w1]
    exact and_bit v m hlt (by omega)
  have ha2 : bits .and .i64 ((v * 2 ^ (m + 1) : Nat) : Int) (IntKind.i64.wrap (wrap64 (2 ^ m) - 1)) = 0 := by
    rw [w2, and_mask _ m hlt (by omega), Nat.pow_succ, show v * (2 ^ m * 2) = v * 2 * 2 ^ m by ac_rfl, Nat.mul_mod_left]
    rfl
  have hwm : IntKind.i64.wrap (pexp b n - (pexp b n + (t : Int) + ((bl o : Int) - 60))) = (m : Int) + 1 := by
    have e : pexp b n - (pexp b n + (t : Int) + ((bl o : Int) - 60)) = (m : Int) + 1 := by omega
    rw [e]
    exact wrap_sm m hm62
  have hz : (((hd o : Nat) : Int) == 0) = false := by
    rw [beq_eq_false_iff_ne]
    omega
  have hu : IntKind.u64.wrap ((hd o : Nat) : Int) = ((hd o : Nat) : Int) := by
    exact u64_id _ (by omega) (by omega)
  refine ⟨o, t, m, ((hd o : Nat) : Int), pexp b n + (t : Int) + ((bl o : Int) - 60), ⟨hof, hs.2, nv_digs o, by omega, rfl, rfl⟩, by omega, hz, by omega, hu, ?_, by omega, by omega, hun, hwm, ?_, ?_, ?_⟩
  · rw [Int.toNat_natCast]; exact hbl60
  · rw [hh]; exact hq
  · rw [hh]; exact ha1
  · rw [hh]; exact ha2

set_option maxHeartbeats 400000 in
set_option maxRecDepth 100000 in
theorem leading_nil (ng : Bool) (ao : Option Addr) (c : Nat) (x : Int) (w : World) : Calls Tryd.prog 71 #[.agg #[.bool ng, .slice ao 0 c, .int .i64 x]] w fun e w' => e = .returned (.agg #[.bool false, .int .i64 0, .int .i64 0, .bool false]) ∧ Kept w w' := by
  go_enter Tryd.func71, Tryd.ntmps71
  go_wp2
  exact bodyPost_ret (v := .agg #[.bool false, .int .i64 0, .int .i64 0, .bool false]) (by simp [results, Tryd.results71, go_sem]) rfl ⟨rfl, ((Kept.refl w).alloc _ _).alloc _ _⟩
end Go.Proofs.YtalhnaakbekboaaDoor

namespace Go.Proofs.YtalhnaakbekboaaDoor
open Go.ChangeShapes Go.WideShapes Go.ChangeAt Go.RowKit
set_option linter.unusedVariables false
set_option linter.unusedSimpArgs false

theorem frm_vld (neg : Bool) (v : Nat) (x : Int) (r : Nm) (h : frm neg v x = some r) : vld r = true ∧ Rg r.mag ∧ r.mag.length ≤ 2000 := by
  unfold frm at h
  split at h
  · cases h
    exact ⟨rfl, fun d hd => (by cases hd), by simp⟩
  · rename_i hv
    split at h
    · rename_i hy
      cases h
      have hs := bl_sub v hv
      have hq := (bl_pos _ hs.2).2.2
      have hl := digs_len _ hs.2
      have hne : digs (v / 2 ^ tzn v) ≠ [] := by
        intro he
        rw [he] at hl
        simp only [List.length_nil] at hl
        omega
      have hdg := dg_digs (v / 2 ^ tzn v)
      have hodd : (digs (v / 2 ^ tzn v)).getD 0 0 % 2 = 1 := by
        have h1 := (tzn_div v hv).1
        have h2 := nv_getD _ hdg 0
        rw [nv_digs, Nat.mul_zero, Nat.pow_zero, Nat.div_one] at h2
        have h3 := hdg.getD 0
        omega
      refine ⟨?_, hdg.rg, by dsimp only; omega⟩
      unfold vld
      dsimp only
      rw [if_neg hne]
      unfold vldN
      rw [(dgb_iff _).2 hdg, and_one]
      simp only [Bool.and_eq_true, decide_eq_true_eq, bne_iff_ne, beq_iff_eq]
      exact ⟨⟨⟨⟨⟨by omega, trivial⟩, digs_last _ hs.2⟩, hodd⟩, hy.2.1⟩, hy.2.2⟩
    · cases h
theorem of_valid (b n : Int) (hn : n = 64 ∨ n = 32) (hc : cls b n < 3) : vld (ofN b n) = true ∧ Rg (ofN b n).mag ∧ (ofN b n).mag.length ≤ 2000 := frm_vld _ _ _ _ (of_frm b n hn hc)

theorem rnd_1 (b n : Int) (hb1 : -9223372036854775808 ≤ b) (hb2 : b ≤ 9223372036854775807) (hn : n = 64 ∨ n = 32) (hc : cls b n < 3) (h ex : Int) (m : Nat) (hm : m < 62) (hz : (h == 0) = false) (hkp : 0 < pmag b n) (hu : IntKind.u64.wrap h = h) (hbl : Lib.bitLen h.toNat = 60) (g0 : 0 ≤ h) (g1 : h ≤ 9223372036854775807)
    (hun : max (IntKind.i64.wrap (IntKind.i64.wrap (ex + 60) - kprec n)) (kleast n) = pexp b n) (hwm : IntKind.i64.wrap (pexp b n - ex) = (m : Int) + 1) (hk : h / 2 ^ (m + 1) = pmag b n) (ha1 : bits .and .i64 h (wrap64 (2 ^ m)) = 0) (ha2 : bits .and .i64 h (IntKind.i64.wrap (wrap64 (2 ^ m) - 1)) = 0) (w : World) (hT : Tab w) :
    Calls Tryd.prog 70 #[.agg #[.int .i64 n, .int .i64 (kprec n), .int .i64 (kleast n), .int .i64 (kinf n), .func (.func 102) #[] #[]], .agg #[.bool (pneg b n), .int .i64 h, .int .i64 ex, .bool false]] w fun e w' => e = .returned (.tuple #[.int .i64 b, .bool false]) ∧ Kept w w' := by
  have KL : Hid (∀ u, Calls Tryd.prog 81 #[.int .u64 h] u fun e w' => e = .returned (.int .i64 60) ∧ u = w') := fun u => by
    have := len h u g0 (by omega)
    rw [hbl] at this
    exact this
  have KS : Hid (∀ u, Calls Tryd.prog 87 #[.agg #[.bool (pneg b n), .int .i64 h, .int .i64 ex, .bool false], .int .i64 ((m : Int) + 1)] u fun e w' => e = .returned (.tuple #[.int .i64 (pmag b n), .agg #[.bool (pneg b n), .bool (bits .and .i64 (pmag b n) 1 == 1), .bool false, .bool false]]) ∧ Kept u w') := fun u => split_false (pneg b n) h ex (pmag b n) _ _ m hm _ false false hk rfl rfl _ 0 0 rfl ha1 ha2 rfl rfl rfl u
  have KJ : Hid (∀ u, Kept w u → Calls Tryd.prog 88 #[.bool (pneg b n), .int .i64 (pmag b n), .int .i64 (pexp b n), .int .i64 n] u fun e w' => e = .returned (.tuple #[.int .i64 b, .bool true]) ∧ Kept u w') := fun u k => join_back b n hb1 hb2 hn hc u (hT.kept k)
  cases hng : pneg b n
  · rw [hng] at KS KJ
    exact round_1false n (kprec n) (kleast n) (kinf n) h ex 60 _ _ (pexp b n) (pmag b n) b m _ hz hkp hu rfl rfl hun hwm w KL KS KJ
  · rw [hng] at KS KJ
    exact round_1true n (kprec n) (kleast n) (kinf n) h ex 60 _ _ (pexp b n) (pmag b n) b m _ hz hkp hu rfl rfl hun hwm w KL KS KJ

set_option maxHeartbeats 2000000 in
set_option maxRecDepth 100000 in
theorem xround_1 (n pr le fi : Int) (ng : Bool) (ao : Option Addr) (l c : Nat) (x res : Int) (ld : Array Value) (l0 l1 l2 l3 : Value) (w : World)
    (KR : Hid (∀ u, Kept ((w.alloc (.cells #[.bool ng, .slice ao l c, .int .i64 x] 26)).alloc (.cells #[.bool ng, .slice ao l c, .int .i64 x] 26)) u → Calls Tryd.prog 69 #[.int .i64 n, .int .i64 0, .slice (some ⟨w.heap.size + 1, 0, none⟩) 1 1] u fun e w' => e = .returned (.tuple #[.agg #[.int .i64 n, .int .i64 pr, .int .i64 le, .int .i64 fi, .func (.func 102) #[] #[]], .int .i64 0]) ∧ Kept u w'))
    (KD : Hid (∀ u, Kept w u → Calls Tryd.prog 71 #[.agg #[.bool ng, .slice ao l c, .int .i64 x]] u fun e w' => e = .returned (.agg #[l0, l1, l2, l3]) ∧ Kept u w'))
    (KO : Hid (∀ u, Kept w u → Calls Tryd.prog 70 #[.agg #[.int .i64 n, .int .i64 pr, .int .i64 le, .int .i64 fi, .func (.func 102) #[] #[]], .agg #[l0, l1, l2, l3]] u fun e w' => e = .returned (.tuple #[.int .i64 res, .bool false]) ∧ Kept u w')) :
    Calls Tryd.prog 35 #[.agg #[.bool ng, .slice ao l c, .int .i64 x], .int .i64 n, .int .i64 0] w fun e w' => e = .returned (.tuple #[.int .i64 res, .bool false, .int .i64 0]) ∧ Kept w w' := by
  have hK : Kept w ((w.alloc (.cells #[.bool ng, .slice ao l c, .int .i64 x] 26)).alloc (.cells #[.bool ng, .slice ao l c, .int .i64 x] 26)) := ((Kept.refl w).alloc _ _).alloc _ _
  go_enter Tryd.func35, Tryd.ntmps35
  go_wp2_with fail
  refine (KR.out _ (Kept.refl _)).mono ?_
  rintro e w1 ⟨rfl, k1⟩
  have k1' := k1.alloc #[.int .i64 n, .int .i64 pr, .int .i64 le, .int .i64 fi, .func (.func 102) #[] #[]] 111
  have hs1 := k1.below.size
  simp only [World.size_alloc] at hs1
  have kX : Kept (w.alloc (.cells #[.bool ng, .slice ao l c, .int .i64 x] 26)) (w1.alloc (.cells #[.int .i64 n, .int .i64 pr, .int .i64 le, .int .i64 fi, .func (.func 102) #[] #[]] 111)) := ((Kept.refl _).alloc _ _).trans k1'
  have HS : Hid (∀ u, Kept (w1.alloc (.cells #[.int .i64 n, .int .i64 pr, .int .i64 le, .int .i64 fi, .func (.func 102) #[] #[]] 111)) u → (u.cell? ⟨w1.heap.size, 0, none⟩ = some (.int .i64 n) ∧ u.cell? ⟨w1.heap.size, 1, none⟩ = some (.int .i64 pr) ∧ u.cell? ⟨w1.heap.size, 2, none⟩ = some (.int .i64 le) ∧ u.cell? ⟨w1.heap.size, 3, none⟩ = some (.int .i64 fi) ∧ u.cell? ⟨w1.heap.size, 4, none⟩ = some (.func (.func 102) #[] #[])) ∧ u.cell? ⟨w.heap.size, 0, none⟩ = some (.bool ng) ∧ u.cell? ⟨w.heap.size, 1, none⟩ = some (.slice ao l c) ∧ u.cell? ⟨w.heap.size, 2, none⟩ = some (.int .i64 x)) := fun u k => ⟨⟨(laid_cell k 0).trans (by simp [go_sem]), (laid_cell k 1).trans (by simp [go_sem]), (laid_cell k 2).trans (by simp [go_sem]), (laid_cell k 3).trans (by simp [go_sem]), (laid_cell k 4).trans (by simp [go_sem])⟩, (laid_cell (kX.trans k) 0).trans (by simp [go_sem]), (laid_cell (kX.trans k) 1).trans (by simp [go_sem]), (laid_cell (kX.trans k) 2).trans (by simp [go_sem])⟩
  have kD : Kept (w1.alloc (.cells #[.int .i64 n, .int .i64 pr, .int .i64 le, .int .i64 fi, .func (.func 102) #[] #[]] 111)) (w1.alloc (.cells #[.int .i64 n, .int .i64 pr, .int .i64 le, .int .i64 fi, .func (.func 102) #[] #[]] 111)).drew := (Kept.refl _).drew
  go_wp2_with fail
  go_region_held (fun u => (u.cell? ⟨w1.heap.size, 0, none⟩ = some (.int .i64 n) ∧ u.cell? ⟨w1.heap.size, 1, none⟩ = some (.int .i64 pr) ∧ u.cell? ⟨w1.heap.size, 2, none⟩ = some (.int .i64 le) ∧ u.cell? ⟨w1.heap.size, 3, none⟩ = some (.int .i64 fi) ∧ u.cell? ⟨w1.heap.size, 4, none⟩ = some (.func (.func 102) #[] #[])) ∧ u.cell? ⟨w.heap.size, 0, none⟩ = some (.bool ng) ∧ u.cell? ⟨w.heap.size, 1, none⟩ = some (.slice ao l c) ∧ u.cell? ⟨w.heap.size, 2, none⟩ = some (.int .i64 x)) (first | exact HS.out _ kD | assumption) (first | (go_at_call 71; refine (KD.out _ (hK.trans (k1'.trans kD))).mono ?_; rintro e w2 ⟨rfl, k2⟩; have e0 := HS.out _ (kD.trans k2)) | (go_at_call 70; refine (KO.out _ (hK.trans (k1'.trans (kD.trans k2)))).mono ?_; rintro e w3 ⟨rfl, k3⟩; have e0 := HS.out _ (kD.trans (k2.trans k3))))
  all_goals
    go_wp2_with fail
    exact bodyPost_ret (v := .tuple #[.int .i64 res, .bool false, .int .i64 0]) (by simp [results, Tryd.results35, go_sem]) rfl ⟨rfl, hK.trans (k1'.trans (kD.trans (k2.trans k3)))⟩

theorem roundF_1 (b n : Int) (hb1 : -9223372036854775808 ≤ b) (hb2 : b ≤ 9223372036854775807) (hn : n = 64 ∨ n = 32) (hc : cls b n < 3) (ao : Option Addr) (c : Nat) (w : World) (hT : Tab w) (h : Sl w (.slice ao (ofN b n).mag.length c) (ofN b n).mag) :
    Calls Tryd.prog 35 #[.agg #[.bool (ofN b n).neg, .slice ao (ofN b n).mag.length c, .int .i64 (ofN b n).exp], .int .i64 n, .int .i64 0] w fun e w' => e = .returned (.tuple #[.int .i64 (can b n), .bool false, .int .i64 0]) ∧ Kept w w' := by
  obtain ⟨hvl, hR, hlen⟩ := of_valid b n hn hc
  have KR : Hid (∀ u, Kept ((w.alloc (.cells #[.bool (ofN b n).neg, .slice ao (ofN b n).mag.length c, .int .i64 (ofN b n).exp] 26)).alloc (.cells #[.bool (ofN b n).neg, .slice ao (ofN b n).mag.length c, .int .i64 (ofN b n).exp] 26)) u → Calls Tryd.prog 69 #[.int .i64 n, .int .i64 0, .slice (some ⟨w.heap.size + 1, 0, none⟩) 1 1] u fun e w' => e = .returned (.tuple #[.agg #[.int .i64 n, .int .i64 (kprec n), .int .i64 (kleast n), .int .i64 (kinf n), .func (.func 102) #[] #[]], .int .i64 0]) ∧ Kept u w') := fun u k => by
    refine roundingOf_0 n (kprec n) (kleast n) (kinf n) (fun u => kindOf_ok n hn u) _ u ?_
    have hb : w.heap.size + 1 < ((w.alloc (.cells #[.bool (ofN b n).neg, .slice ao (ofN b n).mag.length c, .int .i64 (ofN b n).exp] 26)).alloc (.cells #[.bool (ofN b n).neg, .slice ao (ofN b n).mag.length c, .int .i64 (ofN b n).exp] 26)).heap.size := by simp
    exact allValid_at (w.heap.size + 1) (Nat.lt_of_lt_of_le hb k.below.size) (ofN b n).neg (ofN b n).mag hR (by omega) ao c (ofN b n).exp (h.kept ((((Kept.refl w).alloc _ _).alloc _ _).trans k)) ((k.below.cell (p := ⟨w.heap.size + 1, 0, none⟩) hb).trans (by simp [go_sem])) ((k.below.cell (p := ⟨w.heap.size + 1, 1, none⟩) hb).trans (by simp [go_sem])) ((k.below.cell (p := ⟨w.heap.size + 1, 2, none⟩) hb).trans (by simp [go_sem])) true hvl
  rw [pneg_can b n hb1 hb2 hn hc]
  by_cases h0 : pmag b n = 0
  · rw [if_pos h0]
    have e0 := (of_zero b n h0).2
    rw [e0] at KR h ⊢
    exact xround_1 n _ _ _ false ao 0 c 0 0 #[] _ _ _ _ w KR (fun u k => leading_nil false ao c 0 u) (fun u k => round_zero n _ _ _ _ 0 false false u)
  · rw [if_neg h0]
    obtain ⟨o, t, m, hh, ex, ⟨q1, q2, q3, q4, q5, q6⟩, hm, hz, hkp, hu, hbl, g0, g1, hun, hwm, hk, ha1, ha2⟩ := fl_round b n hn hc h0
    have hne : (ofN b n).mag ≠ [] := by
      rw [q1]
      dsimp only
      intro he
      have := q3
      rw [he] at this
      exact q2 this.symm
    refine xround_1 n _ _ _ (ofN b n).neg ao (ofN b n).mag.length c (ofN b n).exp b #[] _ _ _ _ w KR (fun u k => leading_any (ofN b n).neg (ofN b n).mag (ofN b n).exp hne hvl ao c u (h.kept k)) (fun u k => ?_)
    have hd1 : nv (ofN b n).mag = o := by rw [q1]; exact q3
    have hx : (ofN b n).exp = pexp b n + (t : Int) := by rw [q1]
    have hng : (ofN b n).neg = pneg b n := by rw [q1]
    rw [hd1, hx, hng, q5, q6, decide_eq_false (show ¬ (60 < (bl o : Int)) by omega)]
    exact rnd_1 b n hb1 hb2 hn hc hh ex m hm hz hkp hu hbl g0 g1 hun hwm hk ha1 ha2 u (hT.kept k)

theorem rnd_2 (b n : Int) (hb1 : -9223372036854775808 ≤ b) (hb2 : b ≤ 9223372036854775807) (hn : n = 64 ∨ n = 32) (hc : cls b n < 3) (h ex : Int) (m : Nat) (hm : m < 62) (hz : (h == 0) = false) (hkp : 0 < pmag b n) (hu : IntKind.u64.wrap h = h) (hbl : Lib.bitLen h.toNat = 60) (g0 : 0 ≤ h) (g1 : h ≤ 9223372036854775807)
    (hun : max (IntKind.i64.wrap (IntKind.i64.wrap (ex + 60) - kprec n)) (kleast n) = pexp b n) (hwm : IntKind.i64.wrap (pexp b n - ex) = (m : Int) + 1) (hk : h / 2 ^ (m + 1) = pmag b n) (ha1 : bits .and .i64 h (wrap64 (2 ^ m)) = 0) (ha2 : bits .and .i64 h (IntKind.i64.wrap (wrap64 (2 ^ m) - 1)) = 0) (w : World) (hT : Tab w) :
    Calls Tryd.prog 70 #[.agg #[.int .i64 n, .int .i64 (kprec n), .int .i64 (kleast n), .int .i64 (kinf n), .func (.func 103) #[] #[]], .agg #[.bool (pneg b n), .int .i64 h, .int .i64 ex, .bool false]] w fun e w' => e = .returned (.tuple #[.int .i64 b, .bool false]) ∧ Kept w w' := by
  have KL : Hid (∀ u, Calls Tryd.prog 81 #[.int .u64 h] u fun e w' => e = .returned (.int .i64 60) ∧ u = w') := fun u => by
    have := len h u g0 (by omega)
    rw [hbl] at this
    exact this
  have KS : Hid (∀ u, Calls Tryd.prog 87 #[.agg #[.bool (pneg b n), .int .i64 h, .int .i64 ex, .bool false], .int .i64 ((m : Int) + 1)] u fun e w' => e = .returned (.tuple #[.int .i64 (pmag b n), .agg #[.bool (pneg b n), .bool (bits .and .i64 (pmag b n) 1 == 1), .bool false, .bool false]]) ∧ Kept u w') := fun u => split_false (pneg b n) h ex (pmag b n) _ _ m hm _ false false hk rfl rfl _ 0 0 rfl ha1 ha2 rfl rfl rfl u
  have KJ : Hid (∀ u, Kept w u → Calls Tryd.prog 88 #[.bool (pneg b n), .int .i64 (pmag b n), .int .i64 (pexp b n), .int .i64 n] u fun e w' => e = .returned (.tuple #[.int .i64 b, .bool true]) ∧ Kept u w') := fun u k => join_back b n hb1 hb2 hn hc u (hT.kept k)
  cases hng : pneg b n
  · rw [hng] at KS KJ
    exact round_2false n (kprec n) (kleast n) (kinf n) h ex 60 _ _ (pexp b n) (pmag b n) b m _ hz hkp hu rfl rfl hun hwm w KL KS KJ
  · rw [hng] at KS KJ
    exact round_2true n (kprec n) (kleast n) (kinf n) h ex 60 _ _ (pexp b n) (pmag b n) b m _ hz hkp hu rfl rfl hun hwm w KL KS KJ

set_option maxHeartbeats 2000000 in
set_option maxRecDepth 100000 in
theorem xround_2 (n pr le fi : Int) (ng : Bool) (ao : Option Addr) (l c : Nat) (x res : Int) (ld : Array Value) (l0 l1 l2 l3 : Value) (w : World)
    (KR : Hid (∀ u, Kept ((w.alloc (.cells #[.bool ng, .slice ao l c, .int .i64 x] 26)).alloc (.cells #[.bool ng, .slice ao l c, .int .i64 x] 26)) u → Calls Tryd.prog 69 #[.int .i64 n, .int .i64 1, .slice (some ⟨w.heap.size + 1, 0, none⟩) 1 1] u fun e w' => e = .returned (.tuple #[.agg #[.int .i64 n, .int .i64 pr, .int .i64 le, .int .i64 fi, .func (.func 103) #[] #[]], .int .i64 0]) ∧ Kept u w'))
    (KD : Hid (∀ u, Kept w u → Calls Tryd.prog 71 #[.agg #[.bool ng, .slice ao l c, .int .i64 x]] u fun e w' => e = .returned (.agg #[l0, l1, l2, l3]) ∧ Kept u w'))
    (KO : Hid (∀ u, Kept w u → Calls Tryd.prog 70 #[.agg #[.int .i64 n, .int .i64 pr, .int .i64 le, .int .i64 fi, .func (.func 103) #[] #[]], .agg #[l0, l1, l2, l3]] u fun e w' => e = .returned (.tuple #[.int .i64 res, .bool false]) ∧ Kept u w')) :
    Calls Tryd.prog 35 #[.agg #[.bool ng, .slice ao l c, .int .i64 x], .int .i64 n, .int .i64 1] w fun e w' => e = .returned (.tuple #[.int .i64 res, .bool false, .int .i64 0]) ∧ Kept w w' := by
  have hK : Kept w ((w.alloc (.cells #[.bool ng, .slice ao l c, .int .i64 x] 26)).alloc (.cells #[.bool ng, .slice ao l c, .int .i64 x] 26)) := ((Kept.refl w).alloc _ _).alloc _ _
  go_enter Tryd.func35, Tryd.ntmps35
  go_wp2_with fail
  refine (KR.out _ (Kept.refl _)).mono ?_
  rintro e w1 ⟨rfl, k1⟩
  have k1' := k1.alloc #[.int .i64 n, .int .i64 pr, .int .i64 le, .int .i64 fi, .func (.func 103) #[] #[]] 111
  have hs1 := k1.below.size
  simp only [World.size_alloc] at hs1
  have kX : Kept (w.alloc (.cells #[.bool ng, .slice ao l c, .int .i64 x] 26)) (w1.alloc (.cells #[.int .i64 n, .int .i64 pr, .int .i64 le, .int .i64 fi, .func (.func 103) #[] #[]] 111)) := ((Kept.refl _).alloc _ _).trans k1'
  have HS : Hid (∀ u, Kept (w1.alloc (.cells #[.int .i64 n, .int .i64 pr, .int .i64 le, .int .i64 fi, .func (.func 103) #[] #[]] 111)) u → (u.cell? ⟨w1.heap.size, 0, none⟩ = some (.int .i64 n) ∧ u.cell? ⟨w1.heap.size, 1, none⟩ = some (.int .i64 pr) ∧ u.cell? ⟨w1.heap.size, 2, none⟩ = some (.int .i64 le) ∧ u.cell? ⟨w1.heap.size, 3, none⟩ = some (.int .i64 fi) ∧ u.cell? ⟨w1.heap.size, 4, none⟩ = some (.func (.func 103) #[] #[])) ∧ u.cell? ⟨w.heap.size, 0, none⟩ = some (.bool ng) ∧ u.cell? ⟨w.heap.size, 1, none⟩ = some (.slice ao l c) ∧ u.cell? ⟨w.heap.size, 2, none⟩ = some (.int .i64 x)) := fun u k => ⟨⟨(laid_cell k 0).trans (by simp [go_sem]), (laid_cell k 1).trans (by simp [go_sem]), (laid_cell k 2).trans (by simp [go_sem]), (laid_cell k 3).trans (by simp [go_sem]), (laid_cell k 4).trans (by simp [go_sem])⟩, (laid_cell (kX.trans k) 0).trans (by simp [go_sem]), (laid_cell (kX.trans k) 1).trans (by simp [go_sem]), (laid_cell (kX.trans k) 2).trans (by simp [go_sem])⟩
  have kD : Kept (w1.alloc (.cells #[.int .i64 n, .int .i64 pr, .int .i64 le, .int .i64 fi, .func (.func 103) #[] #[]] 111)) (w1.alloc (.cells #[.int .i64 n, .int .i64 pr, .int .i64 le, .int .i64 fi, .func (.func 103) #[] #[]] 111)).drew := (Kept.refl _).drew
  go_wp2_with fail
  go_region_held (fun u => (u.cell? ⟨w1.heap.size, 0, none⟩ = some (.int .i64 n) ∧ u.cell? ⟨w1.heap.size, 1, none⟩ = some (.int .i64 pr) ∧ u.cell? ⟨w1.heap.size, 2, none⟩ = some (.int .i64 le) ∧ u.cell? ⟨w1.heap.size, 3, none⟩ = some (.int .i64 fi) ∧ u.cell? ⟨w1.heap.size, 4, none⟩ = some (.func (.func 103) #[] #[])) ∧ u.cell? ⟨w.heap.size, 0, none⟩ = some (.bool ng) ∧ u.cell? ⟨w.heap.size, 1, none⟩ = some (.slice ao l c) ∧ u.cell? ⟨w.heap.size, 2, none⟩ = some (.int .i64 x)) (first | exact HS.out _ kD | assumption) (first | (go_at_call 71; refine (KD.out _ (hK.trans (k1'.trans kD))).mono ?_; rintro e w2 ⟨rfl, k2⟩; have e0 := HS.out _ (kD.trans k2)) | (go_at_call 70; refine (KO.out _ (hK.trans (k1'.trans (kD.trans k2)))).mono ?_; rintro e w3 ⟨rfl, k3⟩; have e0 := HS.out _ (kD.trans (k2.trans k3))))
  all_goals
    go_wp2_with fail
    exact bodyPost_ret (v := .tuple #[.int .i64 res, .bool false, .int .i64 0]) (by simp [results, Tryd.results35, go_sem]) rfl ⟨rfl, hK.trans (k1'.trans (kD.trans (k2.trans k3)))⟩

theorem roundF_2 (b n : Int) (hb1 : -9223372036854775808 ≤ b) (hb2 : b ≤ 9223372036854775807) (hn : n = 64 ∨ n = 32) (hc : cls b n < 3) (ao : Option Addr) (c : Nat) (w : World) (hT : Tab w) (h : Sl w (.slice ao (ofN b n).mag.length c) (ofN b n).mag) :
    Calls Tryd.prog 35 #[.agg #[.bool (ofN b n).neg, .slice ao (ofN b n).mag.length c, .int .i64 (ofN b n).exp], .int .i64 n, .int .i64 1] w fun e w' => e = .returned (.tuple #[.int .i64 (can b n), .bool false, .int .i64 0]) ∧ Kept w w' := by
  obtain ⟨hvl, hR, hlen⟩ := of_valid b n hn hc
  have KR : Hid (∀ u, Kept ((w.alloc (.cells #[.bool (ofN b n).neg, .slice ao (ofN b n).mag.length c, .int .i64 (ofN b n).exp] 26)).alloc (.cells #[.bool (ofN b n).neg, .slice ao (ofN b n).mag.length c, .int .i64 (ofN b n).exp] 26)) u → Calls Tryd.prog 69 #[.int .i64 n, .int .i64 1, .slice (some ⟨w.heap.size + 1, 0, none⟩) 1 1] u fun e w' => e = .returned (.tuple #[.agg #[.int .i64 n, .int .i64 (kprec n), .int .i64 (kleast n), .int .i64 (kinf n), .func (.func 103) #[] #[]], .int .i64 0]) ∧ Kept u w') := fun u k => by
    refine roundingOf_1 n (kprec n) (kleast n) (kinf n) (fun u => kindOf_ok n hn u) _ u ?_
    have hb : w.heap.size + 1 < ((w.alloc (.cells #[.bool (ofN b n).neg, .slice ao (ofN b n).mag.length c, .int .i64 (ofN b n).exp] 26)).alloc (.cells #[.bool (ofN b n).neg, .slice ao (ofN b n).mag.length c, .int .i64 (ofN b n).exp] 26)).heap.size := by simp
    exact allValid_at (w.heap.size + 1) (Nat.lt_of_lt_of_le hb k.below.size) (ofN b n).neg (ofN b n).mag hR (by omega) ao c (ofN b n).exp (h.kept ((((Kept.refl w).alloc _ _).alloc _ _).trans k)) ((k.below.cell (p := ⟨w.heap.size + 1, 0, none⟩) hb).trans (by simp [go_sem])) ((k.below.cell (p := ⟨w.heap.size + 1, 1, none⟩) hb).trans (by simp [go_sem])) ((k.below.cell (p := ⟨w.heap.size + 1, 2, none⟩) hb).trans (by simp [go_sem])) true hvl
  rw [pneg_can b n hb1 hb2 hn hc]
  by_cases h0 : pmag b n = 0
  · rw [if_pos h0]
    have e0 := (of_zero b n h0).2
    rw [e0] at KR h ⊢
    exact xround_2 n _ _ _ false ao 0 c 0 0 #[] _ _ _ _ w KR (fun u k => leading_nil false ao c 0 u) (fun u k => round_zero n _ _ _ _ 0 false false u)
  · rw [if_neg h0]
    obtain ⟨o, t, m, hh, ex, ⟨q1, q2, q3, q4, q5, q6⟩, hm, hz, hkp, hu, hbl, g0, g1, hun, hwm, hk, ha1, ha2⟩ := fl_round b n hn hc h0
    have hne : (ofN b n).mag ≠ [] := by
      rw [q1]
      dsimp only
      intro he
      have := q3
      rw [he] at this
      exact q2 this.symm
    refine xround_2 n _ _ _ (ofN b n).neg ao (ofN b n).mag.length c (ofN b n).exp b #[] _ _ _ _ w KR (fun u k => leading_any (ofN b n).neg (ofN b n).mag (ofN b n).exp hne hvl ao c u (h.kept k)) (fun u k => ?_)
    have hd1 : nv (ofN b n).mag = o := by rw [q1]; exact q3
    have hx : (ofN b n).exp = pexp b n + (t : Int) := by rw [q1]
    have hng : (ofN b n).neg = pneg b n := by rw [q1]
    rw [hd1, hx, hng, q5, q6, decide_eq_false (show ¬ (60 < (bl o : Int)) by omega)]
    exact rnd_2 b n hb1 hb2 hn hc hh ex m hm hz hkp hu hbl g0 g1 hun hwm hk ha1 ha2 u (hT.kept k)

theorem rnd_3 (b n : Int) (hb1 : -9223372036854775808 ≤ b) (hb2 : b ≤ 9223372036854775807) (hn : n = 64 ∨ n = 32) (hc : cls b n < 3) (h ex : Int) (m : Nat) (hm : m < 62) (hz : (h == 0) = false) (hkp : 0 < pmag b n) (hu : IntKind.u64.wrap h = h) (hbl : Lib.bitLen h.toNat = 60) (g0 : 0 ≤ h) (g1 : h ≤ 9223372036854775807)
    (hun : max (IntKind.i64.wrap (IntKind.i64.wrap (ex + 60) - kprec n)) (kleast n) = pexp b n) (hwm : IntKind.i64.wrap (pexp b n - ex) = (m : Int) + 1) (hk : h / 2 ^ (m + 1) = pmag b n) (ha1 : bits .and .i64 h (wrap64 (2 ^ m)) = 0) (ha2 : bits .and .i64 h (IntKind.i64.wrap (wrap64 (2 ^ m) - 1)) = 0) (w : World) (hT : Tab w) :
    Calls Tryd.prog 70 #[.agg #[.int .i64 n, .int .i64 (kprec n), .int .i64 (kleast n), .int .i64 (kinf n), .func (.func 104) #[] #[]], .agg #[.bool (pneg b n), .int .i64 h, .int .i64 ex, .bool false]] w fun e w' => e = .returned (.tuple #[.int .i64 b, .bool false]) ∧ Kept w w' := by
  have KL : Hid (∀ u, Calls Tryd.prog 81 #[.int .u64 h] u fun e w' => e = .returned (.int .i64 60) ∧ u = w') := fun u => by
    have := len h u g0 (by omega)
    rw [hbl] at this
    exact this
  have KS : Hid (∀ u, Calls Tryd.prog 87 #[.agg #[.bool (pneg b n), .int .i64 h, .int .i64 ex, .bool false], .int .i64 ((m : Int) + 1)] u fun e w' => e = .returned (.tuple #[.int .i64 (pmag b n), .agg #[.bool (pneg b n), .bool (bits .and .i64 (pmag b n) 1 == 1), .bool false, .bool false]]) ∧ Kept u w') := fun u => split_false (pneg b n) h ex (pmag b n) _ _ m hm _ false false hk rfl rfl _ 0 0 rfl ha1 ha2 rfl rfl rfl u
  have KJ : Hid (∀ u, Kept w u → Calls Tryd.prog 88 #[.bool (pneg b n), .int .i64 (pmag b n), .int .i64 (pexp b n), .int .i64 n] u fun e w' => e = .returned (.tuple #[.int .i64 b, .bool true]) ∧ Kept u w') := fun u k => join_back b n hb1 hb2 hn hc u (hT.kept k)
  cases hng : pneg b n
  · rw [hng] at KS KJ
    exact round_3false n (kprec n) (kleast n) (kinf n) h ex 60 _ _ (pexp b n) (pmag b n) b m _ hz hkp hu rfl rfl hun hwm w KL KS KJ
  · rw [hng] at KS KJ
    exact round_3true n (kprec n) (kleast n) (kinf n) h ex 60 _ _ (pexp b n) (pmag b n) b m _ hz hkp hu rfl rfl hun hwm w KL KS KJ

set_option maxHeartbeats 2000000 in
set_option maxRecDepth 100000 in
theorem xround_3 (n pr le fi : Int) (ng : Bool) (ao : Option Addr) (l c : Nat) (x res : Int) (ld : Array Value) (l0 l1 l2 l3 : Value) (w : World)
    (KR : Hid (∀ u, Kept ((w.alloc (.cells #[.bool ng, .slice ao l c, .int .i64 x] 26)).alloc (.cells #[.bool ng, .slice ao l c, .int .i64 x] 26)) u → Calls Tryd.prog 69 #[.int .i64 n, .int .i64 2, .slice (some ⟨w.heap.size + 1, 0, none⟩) 1 1] u fun e w' => e = .returned (.tuple #[.agg #[.int .i64 n, .int .i64 pr, .int .i64 le, .int .i64 fi, .func (.func 104) #[] #[]], .int .i64 0]) ∧ Kept u w'))
    (KD : Hid (∀ u, Kept w u → Calls Tryd.prog 71 #[.agg #[.bool ng, .slice ao l c, .int .i64 x]] u fun e w' => e = .returned (.agg #[l0, l1, l2, l3]) ∧ Kept u w'))
    (KO : Hid (∀ u, Kept w u → Calls Tryd.prog 70 #[.agg #[.int .i64 n, .int .i64 pr, .int .i64 le, .int .i64 fi, .func (.func 104) #[] #[]], .agg #[l0, l1, l2, l3]] u fun e w' => e = .returned (.tuple #[.int .i64 res, .bool false]) ∧ Kept u w')) :
    Calls Tryd.prog 35 #[.agg #[.bool ng, .slice ao l c, .int .i64 x], .int .i64 n, .int .i64 2] w fun e w' => e = .returned (.tuple #[.int .i64 res, .bool false, .int .i64 0]) ∧ Kept w w' := by
  have hK : Kept w ((w.alloc (.cells #[.bool ng, .slice ao l c, .int .i64 x] 26)).alloc (.cells #[.bool ng, .slice ao l c, .int .i64 x] 26)) := ((Kept.refl w).alloc _ _).alloc _ _
  go_enter Tryd.func35, Tryd.ntmps35
  go_wp2_with fail
  refine (KR.out _ (Kept.refl _)).mono ?_
  rintro e w1 ⟨rfl, k1⟩
  have k1' := k1.alloc #[.int .i64 n, .int .i64 pr, .int .i64 le, .int .i64 fi, .func (.func 104) #[] #[]] 111
  have hs1 := k1.below.size
  simp only [World.size_alloc] at hs1
  have kX : Kept (w.alloc (.cells #[.bool ng, .slice ao l c, .int .i64 x] 26)) (w1.alloc (.cells #[.int .i64 n, .int .i64 pr, .int .i64 le, .int .i64 fi, .func (.func 104) #[] #[]] 111)) := ((Kept.refl _).alloc _ _).trans k1'
  have HS : Hid (∀ u, Kept (w1.alloc (.cells #[.int .i64 n, .int .i64 pr, .int .i64 le, .int .i64 fi, .func (.func 104) #[] #[]] 111)) u → (u.cell? ⟨w1.heap.size, 0, none⟩ = some (.int .i64 n) ∧ u.cell? ⟨w1.heap.size, 1, none⟩ = some (.int .i64 pr) ∧ u.cell? ⟨w1.heap.size, 2, none⟩ = some (.int .i64 le) ∧ u.cell? ⟨w1.heap.size, 3, none⟩ = some (.int .i64 fi) ∧ u.cell? ⟨w1.heap.size, 4, none⟩ = some (.func (.func 104) #[] #[])) ∧ u.cell? ⟨w.heap.size, 0, none⟩ = some (.bool ng) ∧ u.cell? ⟨w.heap.size, 1, none⟩ = some (.slice ao l c) ∧ u.cell? ⟨w.heap.size, 2, none⟩ = some (.int .i64 x)) := fun u k => ⟨⟨(laid_cell k 0).trans (by simp [go_sem]), (laid_cell k 1).trans (by simp [go_sem]), (laid_cell k 2).trans (by simp [go_sem]), (laid_cell k 3).trans (by simp [go_sem]), (laid_cell k 4).trans (by simp [go_sem])⟩, (laid_cell (kX.trans k) 0).trans (by simp [go_sem]), (laid_cell (kX.trans k) 1).trans (by simp [go_sem]), (laid_cell (kX.trans k) 2).trans (by simp [go_sem])⟩
  have kD : Kept (w1.alloc (.cells #[.int .i64 n, .int .i64 pr, .int .i64 le, .int .i64 fi, .func (.func 104) #[] #[]] 111)) (w1.alloc (.cells #[.int .i64 n, .int .i64 pr, .int .i64 le, .int .i64 fi, .func (.func 104) #[] #[]] 111)).drew := (Kept.refl _).drew
  go_wp2_with fail
  go_region_held (fun u => (u.cell? ⟨w1.heap.size, 0, none⟩ = some (.int .i64 n) ∧ u.cell? ⟨w1.heap.size, 1, none⟩ = some (.int .i64 pr) ∧ u.cell? ⟨w1.heap.size, 2, none⟩ = some (.int .i64 le) ∧ u.cell? ⟨w1.heap.size, 3, none⟩ = some (.int .i64 fi) ∧ u.cell? ⟨w1.heap.size, 4, none⟩ = some (.func (.func 104) #[] #[])) ∧ u.cell? ⟨w.heap.size, 0, none⟩ = some (.bool ng) ∧ u.cell? ⟨w.heap.size, 1, none⟩ = some (.slice ao l c) ∧ u.cell? ⟨w.heap.size, 2, none⟩ = some (.int .i64 x)) (first | exact HS.out _ kD | assumption) (first | (go_at_call 71; refine (KD.out _ (hK.trans (k1'.trans kD))).mono ?_; rintro e w2 ⟨rfl, k2⟩; have e0 := HS.out _ (kD.trans k2)) | (go_at_call 70; refine (KO.out _ (hK.trans (k1'.trans (kD.trans k2)))).mono ?_; rintro e w3 ⟨rfl, k3⟩; have e0 := HS.out _ (kD.trans (k2.trans k3))))
  all_goals
    go_wp2_with fail
    exact bodyPost_ret (v := .tuple #[.int .i64 res, .bool false, .int .i64 0]) (by simp [results, Tryd.results35, go_sem]) rfl ⟨rfl, hK.trans (k1'.trans (kD.trans (k2.trans k3)))⟩

theorem roundF_3 (b n : Int) (hb1 : -9223372036854775808 ≤ b) (hb2 : b ≤ 9223372036854775807) (hn : n = 64 ∨ n = 32) (hc : cls b n < 3) (ao : Option Addr) (c : Nat) (w : World) (hT : Tab w) (h : Sl w (.slice ao (ofN b n).mag.length c) (ofN b n).mag) :
    Calls Tryd.prog 35 #[.agg #[.bool (ofN b n).neg, .slice ao (ofN b n).mag.length c, .int .i64 (ofN b n).exp], .int .i64 n, .int .i64 2] w fun e w' => e = .returned (.tuple #[.int .i64 (can b n), .bool false, .int .i64 0]) ∧ Kept w w' := by
  obtain ⟨hvl, hR, hlen⟩ := of_valid b n hn hc
  have KR : Hid (∀ u, Kept ((w.alloc (.cells #[.bool (ofN b n).neg, .slice ao (ofN b n).mag.length c, .int .i64 (ofN b n).exp] 26)).alloc (.cells #[.bool (ofN b n).neg, .slice ao (ofN b n).mag.length c, .int .i64 (ofN b n).exp] 26)) u → Calls Tryd.prog 69 #[.int .i64 n, .int .i64 2, .slice (some ⟨w.heap.size + 1, 0, none⟩) 1 1] u fun e w' => e = .returned (.tuple #[.agg #[.int .i64 n, .int .i64 (kprec n), .int .i64 (kleast n), .int .i64 (kinf n), .func (.func 104) #[] #[]], .int .i64 0]) ∧ Kept u w') := fun u k => by
    refine roundingOf_2 n (kprec n) (kleast n) (kinf n) (fun u => kindOf_ok n hn u) _ u ?_
    have hb : w.heap.size + 1 < ((w.alloc (.cells #[.bool (ofN b n).neg, .slice ao (ofN b n).mag.length c, .int .i64 (ofN b n).exp] 26)).alloc (.cells #[.bool (ofN b n).neg, .slice ao (ofN b n).mag.length c, .int .i64 (ofN b n).exp] 26)).heap.size := by simp
    exact allValid_at (w.heap.size + 1) (Nat.lt_of_lt_of_le hb k.below.size) (ofN b n).neg (ofN b n).mag hR (by omega) ao c (ofN b n).exp (h.kept ((((Kept.refl w).alloc _ _).alloc _ _).trans k)) ((k.below.cell (p := ⟨w.heap.size + 1, 0, none⟩) hb).trans (by simp [go_sem])) ((k.below.cell (p := ⟨w.heap.size + 1, 1, none⟩) hb).trans (by simp [go_sem])) ((k.below.cell (p := ⟨w.heap.size + 1, 2, none⟩) hb).trans (by simp [go_sem])) true hvl
  rw [pneg_can b n hb1 hb2 hn hc]
  by_cases h0 : pmag b n = 0
  · rw [if_pos h0]
    have e0 := (of_zero b n h0).2
    rw [e0] at KR h ⊢
    exact xround_3 n _ _ _ false ao 0 c 0 0 #[] _ _ _ _ w KR (fun u k => leading_nil false ao c 0 u) (fun u k => round_zero n _ _ _ _ 0 false false u)
  · rw [if_neg h0]
    obtain ⟨o, t, m, hh, ex, ⟨q1, q2, q3, q4, q5, q6⟩, hm, hz, hkp, hu, hbl, g0, g1, hun, hwm, hk, ha1, ha2⟩ := fl_round b n hn hc h0
    have hne : (ofN b n).mag ≠ [] := by
      rw [q1]
      dsimp only
      intro he
      have := q3
      rw [he] at this
      exact q2 this.symm
    refine xround_3 n _ _ _ (ofN b n).neg ao (ofN b n).mag.length c (ofN b n).exp b #[] _ _ _ _ w KR (fun u k => leading_any (ofN b n).neg (ofN b n).mag (ofN b n).exp hne hvl ao c u (h.kept k)) (fun u k => ?_)
    have hd1 : nv (ofN b n).mag = o := by rw [q1]; exact q3
    have hx : (ofN b n).exp = pexp b n + (t : Int) := by rw [q1]
    have hng : (ofN b n).neg = pneg b n := by rw [q1]
    rw [hd1, hx, hng, q5, q6, decide_eq_false (show ¬ (60 < (bl o : Int)) by omega)]
    exact rnd_3 b n hb1 hb2 hn hc hh ex m hm hz hkp hu hbl g0 g1 hun hwm hk ha1 ha2 u (hT.kept k)

end Go.Proofs.YtalhnaakbekboaaDoor
