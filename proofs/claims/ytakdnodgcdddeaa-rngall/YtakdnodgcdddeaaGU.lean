/- A whole number times 2^-53 (2^-24): Go's float and the document's own Join. -/
import Derived.Test.YtakdnodgcdddeaaGF
namespace Go.Proofs.Ytakdnodgcdddeaa
open Go.ChangeShapes Go.WideShapes Go.ChangeAt Go.RowKit Ieee
set_option linter.unusedVariables false
set_option linter.unusedSimpArgs false

theorem odd_int3 (x : Int) (h0 : 0 < x) (h1 : x ≤ 9223372036854775807) : ∃ k : Nat, ∃ L : Nat, ∃ o : Int, k = Lib.ctz 64 x.toNat ∧ L = Lib.bitLen o.toNat ∧ x / 2 ^ k = o ∧ x = o * 2 ^ k ∧ k < 64 ∧ 0 < o ∧ o ≤ 9223372036854775807 ∧ L ≤ 64 ∧ o % 2 = 1 := by
  obtain ⟨a1, a2, a3, a4⟩ := odd_part x.toNat (by omega) (by omega)
  obtain ⟨k, hk⟩ : ∃ k, k = Lib.ctz 64 x.toNat := ⟨_, rfl⟩
  rw [← hk] at a1 a2 a3 a4
  obtain ⟨o, ho⟩ : ∃ o, o = x.toNat / 2 ^ k := ⟨_, rfl⟩
  rw [← ho] at a2 a3 a4
  have hx : x = ((o * 2 ^ k : Nat) : Int) := by rw [← a2]; omega
  have hp : (0 : Nat) < 2 ^ k := Nat.two_pow_pos k
  have hle : o ≤ o * 2 ^ k := Nat.le_mul_of_pos_right _ hp
  have ho1 : o < 2 ^ 64 := by omega
  refine ⟨k, Lib.bitLen o, (o : Int), hk, by simp, ?_, ?_, a1, by omega, by omega, bitLen_le 64 o (by decide) ho1, by omega⟩
  · rw [hx, Int.natCast_mul, Int.natCast_pow]
    exact Int.mul_ediv_cancel _ (Int.ne_of_gt (by exact_mod_cast hp))
  · rw [hx, Int.natCast_mul, Int.natCast_pow]
    rfl

set_option maxHeartbeats 1000000 in
theorem rjoin_64 (m : Nat) (hm : 0 < m) (hm2 : m < 9007199254740992) (S : Nat) (hS : S = 1021) : ∃ r : Nat, r < 9218868437227405312 ∧ rungVal FloatKind.f64.format r = m * 2 ^ S ∧ ∀ w : World, Calls Try.prog 39 #[.bool false, .int .i64 m, .int .i64 (-53), .int .i64 64] w fun e w' => e = .returned (.tuple #[.int .i64 r, .bool true]) ∧ Kept w w' := by
  obtain ⟨k, L, o, hk, hL, hdiv, hxo, hk64, ho0, ho1, hL64, hodd⟩ := odd_int3 (m : Int) (by omega) (by omega)
  have hp1 : (0 : Int) < 2 ^ k := Int.pow_pos (by decide)
  have hole : o ≤ m := by
    rw [hxo]
    have : o * 1 ≤ o * 2 ^ k := Int.mul_le_mul_of_nonneg_left (by omega) (by omega)
    omega
  have hLB : o < 9007199254740992 ↔ L ≤ 53 := by
    have h := len_pow o ho0 ho1 0 53 (by decide)
    rw [← hL, Int.pow_zero, Int.mul_one, Nat.zero_add] at h
    exact h
  have hL53 : L ≤ 53 := hLB.1 (by omega)
  have hL0 : 0 < L := by
    have h := len_pow o ho0 ho1 0 0 (by decide)
    rw [← hL, Int.pow_zero, Int.mul_one, Nat.zero_add] at h
    have : ¬ o < 2 ^ 0 := by rw [Int.pow_zero]; omega
    have : ¬ L ≤ 0 := fun hh => this (h.2 hh)
    omega
  obtain ⟨U, hU⟩ : ∃ U : Nat, U = 53 - L := ⟨_, rfl⟩
  have hpos : 0 < o * 2 ^ U := Int.mul_pos ho0 (Int.pow_pos (by decide))
  have hV1 : o * 2 ^ U < 9007199254740992 := by
    have h := len_pow o ho0 ho1 U 53 (by decide)
    rw [← hL] at h
    exact h.2 (by omega)
  have hV2 : 4503599627370496 ≤ o * 2 ^ U := by
    have h := len_pow o ho0 ho1 U 52 (by decide)
    rw [← hL] at h
    have h2 : ¬ o * 2 ^ U < 2 ^ 52 := fun hh => by have := h.1 hh; omega
    have h3 : (2 : Int) ^ 52 = 4503599627370496 := by decide
    omega
  have hUb : ∀ i : Nat, i < U → o * 2 ^ i < 4503599627370496 ∧ -1074 < (-53 : Int) + (k : Int) - (i : Int) := by
    intro i hi
    have h := len_pow o ho0 ho1 i 52 (by decide)
    rw [← hL] at h
    exact ⟨h.2 (by omega), by omega⟩
  have Ks : ∀ w : World, Calls Try.prog 45 #[.agg #[.int .i64 64, .int .i64 53, .int .i64 4503599627370496, .int .i64 2047, .int .i64 (-1074), .int .i64 1024, .int .i64 9218868437227405312, .int .i64 (-9223372036854775808), .int .i64 9221120237041090561], .int .i64 (m : Int), .int .i64 (-53)] w fun r w' => r = .returned (.tuple #[.int .i64 (o * 2 ^ U), .int .i64 ((-53 : Int) + (k : Int) - (U : Int)), .bool true]) ∧ Kept w w' := fun w =>
    shifted_64_yes m (-53) o k hxo (by omega) ho0 hodd hk64 (by omega) (by omega) (by omega) (by omega) U _ rfl hUb (by omega) (.inr ⟨by omega, hV2⟩) w
  obtain ⟨V, hVn⟩ : ∃ V : Nat, (V : Int) = o * 2 ^ U := ⟨(o * 2 ^ U).toNat, by omega⟩
  obtain ⟨J, hJ⟩ : ∃ J : Nat, J + U = S + k := ⟨S + k - U, by omega⟩
  have hk53 : k ≤ 52 := by
    rcases Nat.lt_or_ge 52 k with h | h
    · have h1 : (2 : Int) ^ 53 ≤ 2 ^ k := by exact_mod_cast Nat.pow_le_pow_right (by decide : 0 < 2) h
      have h2 : 1 * (2 : Int) ^ k ≤ o * 2 ^ k := Int.mul_le_mul_of_nonneg_right (by omega) (by omega)
      have h3 : (2 : Int) ^ 53 = 9007199254740992 := by decide
      omega
    · exact h
  refine ⟨J * 4503599627370496 + V, ?_, ?_, fun w => ?_⟩
  · have : J ≤ 1073 := by omega
    have h4 : J * 4503599627370496 ≤ 1073 * 4503599627370496 := Nat.mul_le_mul_right _ this
    omega
  · have e1 : rungVal FloatKind.f64.format (J * 4503599627370496 + V) = rv 4503599627370496 (J * 4503599627370496 + V) := by unfold rungVal rv; rw [bin64]
    rw [e1, rv_at 4503599627370496 J V (by decide) (by omega) (.inr (by omega))]
    have h5 : ((V * 2 ^ J : Nat) : Int) = ((m * 2 ^ S : Nat) : Int) := by
      rw [Int.natCast_mul, Int.natCast_mul, hVn, hxo, Int.natCast_pow, Int.natCast_pow, Int.mul_assoc, Int.mul_assoc]
      show o * (2 ^ U * 2 ^ J) = o * (2 ^ k * 2 ^ S)
      rw [← Int.pow_add, ← Int.pow_add]
      congr 2
      omega
    exact_mod_cast h5
  · refine rj_yes_64 false m (-53) _ _ _ (by omega) (by omega) (by omega) (by omega) (by omega) hpos hV1 (by omega) ?_ Ks w
    rw [if_neg (by decide), ← hVn]
    omega

theorem frac_64 (m : Nat) (hm2 : m < 9007199254740992) : ∃ r : Nat, r < 9218868437227405312 ∧ FloatKind.f64.format.mul (floatOfInt .f64 (m : Int)) 4368491638549381120 = some r ∧ ∀ w : World, Calls Try.prog 39 #[.bool false, .int .i64 m, .int .i64 (-53), .int .i64 64] w fun e w' => ∃ g, e = .returned (.tuple #[.int .i64 r, .bool g]) ∧ Kept w w' := by
  by_cases hm : m = 0
  · subst hm
    refine ⟨0, by decide, by decide +kernel, fun w => ?_⟩
    refine (rj_zero_64 false (-53) w).mono ?_
    rintro e w' ⟨rfl, hk⟩
    exact ⟨true, rfl, hk⟩
  · obtain ⟨S, hS⟩ : ∃ S : Nat, S = 1021 := ⟨_, rfl⟩
    obtain ⟨r, h1, h2, h3⟩ := rjoin_64 m (by omega) hm2 S hS
    obtain ⟨K, hK⟩ : ∃ K : Nat, K = 1074 := ⟨_, rfl⟩
    obtain ⟨fb, hfb⟩ : ∃ fb : Nat, fb = 52 := ⟨_, rfl⟩
    obtain ⟨r2, g1, g2, g3⟩ := frac_word FloatKind.f64.format m 4368491638549381120 (fb + 1) fb K (by rw [hfb]; decide +kernel) (by rw [hK]; exact least64) hm (by rw [hfb]; exact hm2) rfl (by omega)
      (by rw [hfb]; decide +kernel) (by rw [rungVal_inf64]; exact Nat.pow_le_pow_right (by decide) (by rw [hK, hfb]; decide)) (by decide +kernel)
    rw [show K - (fb + 1) = S by omega, ← h2] at g3
    obtain rfl := rungVal_inj _ g3
    have e0 : floatOfInt .f64 (m : Int) = FloatKind.f64.format.nearest false m 0 := by
      have : decide ((m : Int) < 0) = false := decide_eq_false (by omega)
      show FloatKind.f64.format.nearest (decide ((m : Int) < 0)) (m : Int).natAbs 0 = _
      rw [this, Int.natAbs_natCast]
    refine ⟨r2, h1, by rw [e0]; exact g1, fun w => (h3 w).mono ?_⟩
    rintro e w' ⟨rfl, hk⟩
    exact ⟨true, rfl, hk⟩

theorem ofr_64 (r : Nat) (h : r < 9218868437227405312) : of64 r = (r : Int) := by
  have h2 : rung FloatKind.f64.format r = r := by unfold rung; rw [sw64]; exact Nat.mod_eq_of_lt (by omega)
  unfold of64
  rw [self_64, h2, inf64, decide_eq_false (by omega), if_neg (by decide)]
  unfold wrap64
  omega

set_option maxHeartbeats 1000000 in
theorem rjoin_32 (m : Nat) (hm : 0 < m) (hm2 : m < 16777216) (S : Nat) (hS : S = 125) : ∃ r : Nat, r < 2139095040 ∧ rungVal FloatKind.f32.format r = m * 2 ^ S ∧ ∀ w : World, Calls Try.prog 39 #[.bool false, .int .i64 m, .int .i64 (-24), .int .i64 32] w fun e w' => e = .returned (.tuple #[.int .i64 r, .bool true]) ∧ Kept w w' := by
  obtain ⟨k, L, o, hk, hL, hdiv, hxo, hk64, ho0, ho1, hL64, hodd⟩ := odd_int3 (m : Int) (by omega) (by omega)
  have hp1 : (0 : Int) < 2 ^ k := Int.pow_pos (by decide)
  have hole : o ≤ m := by
    rw [hxo]
    have : o * 1 ≤ o * 2 ^ k := Int.mul_le_mul_of_nonneg_left (by omega) (by omega)
    omega
  have hLB : o < 16777216 ↔ L ≤ 24 := by
    have h := len_pow o ho0 ho1 0 24 (by decide)
    rw [← hL, Int.pow_zero, Int.mul_one, Nat.zero_add] at h
    exact h
  have hL53 : L ≤ 24 := hLB.1 (by omega)
  have hL0 : 0 < L := by
    have h := len_pow o ho0 ho1 0 0 (by decide)
    rw [← hL, Int.pow_zero, Int.mul_one, Nat.zero_add] at h
    have : ¬ o < 2 ^ 0 := by rw [Int.pow_zero]; omega
    have : ¬ L ≤ 0 := fun hh => this (h.2 hh)
    omega
  obtain ⟨U, hU⟩ : ∃ U : Nat, U = 24 - L := ⟨_, rfl⟩
  have hpos : 0 < o * 2 ^ U := Int.mul_pos ho0 (Int.pow_pos (by decide))
  have hV1 : o * 2 ^ U < 16777216 := by
    have h := len_pow o ho0 ho1 U 24 (by decide)
    rw [← hL] at h
    exact h.2 (by omega)
  have hV2 : 8388608 ≤ o * 2 ^ U := by
    have h := len_pow o ho0 ho1 U 23 (by decide)
    rw [← hL] at h
    have h2 : ¬ o * 2 ^ U < 2 ^ 23 := fun hh => by have := h.1 hh; omega
    have h3 : (2 : Int) ^ 23 = 8388608 := by decide
    omega
  have hUb : ∀ i : Nat, i < U → o * 2 ^ i < 8388608 ∧ -149 < (-24 : Int) + (k : Int) - (i : Int) := by
    intro i hi
    have h := len_pow o ho0 ho1 i 23 (by decide)
    rw [← hL] at h
    exact ⟨h.2 (by omega), by omega⟩
  have Ks : ∀ w : World, Calls Try.prog 45 #[.agg #[.int .i64 32, .int .i64 24, .int .i64 8388608, .int .i64 255, .int .i64 (-149), .int .i64 128, .int .i64 2139095040, .int .i64 2147483648, .int .i64 2143289345], .int .i64 (m : Int), .int .i64 (-24)] w fun r w' => r = .returned (.tuple #[.int .i64 (o * 2 ^ U), .int .i64 ((-24 : Int) + (k : Int) - (U : Int)), .bool true]) ∧ Kept w w' := fun w =>
    shifted_32_yes m (-24) o k hxo (by omega) ho0 hodd hk64 (by omega) (by omega) (by omega) (by omega) U _ rfl hUb (by omega) (.inr ⟨by omega, hV2⟩) w
  obtain ⟨V, hVn⟩ : ∃ V : Nat, (V : Int) = o * 2 ^ U := ⟨(o * 2 ^ U).toNat, by omega⟩
  obtain ⟨J, hJ⟩ : ∃ J : Nat, J + U = S + k := ⟨S + k - U, by omega⟩
  have hk53 : k ≤ 23 := by
    rcases Nat.lt_or_ge 23 k with h | h
    · have h1 : (2 : Int) ^ 24 ≤ 2 ^ k := by exact_mod_cast Nat.pow_le_pow_right (by decide : 0 < 2) h
      have h2 : 1 * (2 : Int) ^ k ≤ o * 2 ^ k := Int.mul_le_mul_of_nonneg_right (by omega) (by omega)
      have h3 : (2 : Int) ^ 24 = 16777216 := by decide
      omega
    · exact h
  refine ⟨J * 8388608 + V, ?_, ?_, fun w => ?_⟩
  · have : J ≤ 148 := by omega
    have h4 : J * 8388608 ≤ 148 * 8388608 := Nat.mul_le_mul_right _ this
    omega
  · have e1 : rungVal FloatKind.f32.format (J * 8388608 + V) = rv 8388608 (J * 8388608 + V) := by unfold rungVal rv; rw [bin32]
    rw [e1, rv_at 8388608 J V (by decide) (by omega) (.inr (by omega))]
    have h5 : ((V * 2 ^ J : Nat) : Int) = ((m * 2 ^ S : Nat) : Int) := by
      rw [Int.natCast_mul, Int.natCast_mul, hVn, hxo, Int.natCast_pow, Int.natCast_pow, Int.mul_assoc, Int.mul_assoc]
      show o * (2 ^ U * 2 ^ J) = o * (2 ^ k * 2 ^ S)
      rw [← Int.pow_add, ← Int.pow_add]
      congr 2
      omega
    exact_mod_cast h5
  · refine rj_yes_32 false m (-24) _ _ _ (by omega) (by omega) (by omega) (by omega) (by omega) hpos hV1 (by omega) ?_ Ks w
    rw [if_neg (by decide), ← hVn]
    omega

theorem frac_32 (m : Nat) (hm2 : m < 16777216) : ∃ r : Nat, r < 2139095040 ∧ FloatKind.f32.format.mul (floatOfInt .f32 (m : Int)) 864026624 = some r ∧ ∀ w : World, Calls Try.prog 39 #[.bool false, .int .i64 m, .int .i64 (-24), .int .i64 32] w fun e w' => ∃ g, e = .returned (.tuple #[.int .i64 r, .bool g]) ∧ Kept w w' := by
  by_cases hm : m = 0
  · subst hm
    refine ⟨0, by decide, by decide +kernel, fun w => ?_⟩
    refine (rj_zero_32 false (-24) w).mono ?_
    rintro e w' ⟨rfl, hk⟩
    exact ⟨true, rfl, hk⟩
  · obtain ⟨S, hS⟩ : ∃ S : Nat, S = 125 := ⟨_, rfl⟩
    obtain ⟨r, h1, h2, h3⟩ := rjoin_32 m (by omega) hm2 S hS
    obtain ⟨K, hK⟩ : ∃ K : Nat, K = 149 := ⟨_, rfl⟩
    obtain ⟨fb, hfb⟩ : ∃ fb : Nat, fb = 23 := ⟨_, rfl⟩
    obtain ⟨r2, g1, g2, g3⟩ := frac_word FloatKind.f32.format m 864026624 (fb + 1) fb K (by rw [hfb]; decide +kernel) (by rw [hK]; exact least32) hm (by rw [hfb]; exact hm2) rfl (by omega)
      (by rw [hfb]; decide +kernel) (by rw [rungVal_inf32]; exact Nat.pow_le_pow_right (by decide) (by rw [hK, hfb]; decide)) (by decide +kernel)
    rw [show K - (fb + 1) = S by omega, ← h2] at g3
    obtain rfl := rungVal_inj _ g3
    have e0 : floatOfInt .f32 (m : Int) = FloatKind.f32.format.nearest false m 0 := by
      have : decide ((m : Int) < 0) = false := decide_eq_false (by omega)
      show FloatKind.f32.format.nearest (decide ((m : Int) < 0)) (m : Int).natAbs 0 = _
      rw [this, Int.natAbs_natCast]
    refine ⟨r2, h1, by rw [e0]; exact g1, fun w => (h3 w).mono ?_⟩
    rintro e w' ⟨rfl, hk⟩
    exact ⟨true, rfl, hk⟩

theorem ofr_32 (r : Nat) (h : r < 2139095040) : of32 r = (r : Int) := by
  have h2 : rung FloatKind.f32.format r = r := by unfold rung; rw [sw32]; exact Nat.mod_eq_of_lt (by omega)
  unfold of32
  rw [self_32, h2, inf32, decide_eq_false (by omega), if_neg (by decide)]
  unfold wrap64
  omega

end Go.Proofs.Ytakdnodgcdddeaa
