/- A whole number times 2^-53 (2^-24): Go's float and package bits' Join. FromInt of 1. -/
import Derived.Test.YtfanggjinedafabDoorGV
import Derived.Test.YtfanggjinedafabDoorG9
namespace Go.Proofs.YtfanggjinedafabDoor
open Go.ChangeShapes Go.WideShapes Go.ChangeAt Go.RowKit Ieee
set_option linter.unusedVariables false
set_option linter.unusedSimpArgs false

set_option maxHeartbeats 1000000 in
theorem bjoin_64 (m : Nat) (hm : 0 < m) (hm2 : m < 9007199254740992) (S : Nat) (hS : S = 1021) : ∃ r : Nat, r < 9218868437227405312 ∧ rungVal FloatKind.f64.format r = m * 2 ^ S ∧ ∀ w : World, Tab w → Calls Tryd.prog 6 #[.bool false, .int .i64 m, .int .i64 (-53), .int .i64 64] w fun e w' => e = .returned (.tuple #[.int .i64 r, .bool true]) ∧ Kept w w' := by
  obtain ⟨k, L, o, hk, hL, hdiv, hxo, hk64, ho0, ho1, hL64, hodd⟩ := odd_int3 (m : Int) (by omega) (by omega)
  have hp1 : (0 : Int) < 2 ^ k := Int.pow_pos (by decide)
  have hole : o ≤ m := by
    rw [hxo]
    have : o * 1 ≤ o * 2 ^ k := Int.mul_le_mul_of_nonneg_left (by omega) (by omega)
    omega
  have hLB : o < 9007199254740992 ↔ L ≤ 53 := by
    have h := len_pow o ho0 ho1 0 53 (by decide)
    rw [← hL, Int.pow_zero, Int.mul_one, Nat.zero_add] at h
    exact h
  have hL53 : L ≤ 53 := hLB.1 (by omega)
  have hL0 : 0 < L := by
    have h := len_pow o ho0 ho1 0 0 (by decide)
    rw [← hL, Int.pow_zero, Int.mul_one, Nat.zero_add] at h
    have : ¬ o < 2 ^ 0 := by rw [Int.pow_zero]; omega
    have : ¬ L ≤ 0 := fun hh => this (h.2 hh)
    omega
  obtain ⟨U, hU⟩ : ∃ U : Nat, U = 53 - L := ⟨_, rfl⟩
  have hpos : 0 < o * 2 ^ U := Int.mul_pos ho0 (Int.pow_pos (by decide))
  have hV1 : o * 2 ^ U < 9007199254740992 := by
    have h := len_pow o ho0 ho1 U 53 (by decide)
    rw [← hL] at h
    exact h.2 (by omega)
  have hV2 : 4503599627370496 ≤ o * 2 ^ U := by
    have h := len_pow o ho0 ho1 U 52 (by decide)
    rw [← hL] at h
    have h2 : ¬ o * 2 ^ U < 2 ^ 52 := fun hh => by have := h.1 hh; omega
    have h3 : (2 : Int) ^ 52 = 4503599627370496 := by decide
    omega
  have hUb : ∀ i : Nat, i < U → o * 2 ^ i < 4503599627370496 ∧ -1074 < (-53 : Int) + (k : Int) - (i : Int) := by
    intro i hi
    have h := len_pow o ho0 ho1 i 52 (by decide)
    rw [← hL] at h
    exact ⟨h.2 (by omega), by omega⟩
  have Kz : ∀ w : World, Tab w → Calls Tryd.prog 17 #[.int .u64 (m : Int)] w fun e w' => e = .returned (.int .i64 (k : Int)) ∧ w = w' := by
    intro w hT
    rw [hk]
    exact kz_any m (by omega) (by omega) w hT
  have Kl : ∀ w : World, Calls Tryd.prog 18 #[.int .u64 (IntKind.u64.wrap o)] w fun e w' => e = .returned (.int .i64 (L : Int)) ∧ w = w' := by
    intro w
    rw [hL]
    exact kl_any o (by omega) ho1 w
  obtain ⟨V, hVn⟩ : ∃ V : Nat, (V : Int) = o * 2 ^ U := ⟨(o * 2 ^ U).toNat, by omega⟩
  obtain ⟨J, hJ⟩ : ∃ J : Nat, J + U = S + k := ⟨S + k - U, by omega⟩
  have hk53 : k ≤ 52 := by
    rcases Nat.lt_or_ge 52 k with h | h
    · have h1 : (2 : Int) ^ 53 ≤ 2 ^ k := by exact_mod_cast Nat.pow_le_pow_right (by decide : 0 < 2) h
      have h2 : 1 * (2 : Int) ^ k ≤ o * 2 ^ k := Int.mul_le_mul_of_nonneg_right (by omega) (by omega)
      have h3 : (2 : Int) ^ 53 = 9007199254740992 := by decide
      omega
    · exact h
  refine ⟨J * 4503599627370496 + V, ?_, ?_, fun w hT => ?_⟩
  · have : J ≤ 1073 := by omega
    have h4 : J * 4503599627370496 ≤ 1073 * 4503599627370496 := Nat.mul_le_mul_right _ this
    omega
  · have e1 : rungVal FloatKind.f64.format (J * 4503599627370496 + V) = rv 4503599627370496 (J * 4503599627370496 + V) := by unfold rungVal rv; rw [bin64]
    rw [e1, rv_at 4503599627370496 J V (by decide) (by omega) (.inr (by omega))]
    have h5 : ((V * 2 ^ J : Nat) : Int) = ((m * 2 ^ S : Nat) : Int) := by
      rw [Int.natCast_mul, Int.natCast_mul, hVn, hxo, Int.natCast_pow, Int.natCast_pow, Int.mul_assoc, Int.mul_assoc]
      show o * (2 ^ U * 2 ^ J) = o * (2 ^ k * 2 ^ S)
      rw [← Int.pow_add, ← Int.pow_add]
      congr 2
      omega
    exact_mod_cast h5
  · have hb : J * 4503599627370496 + V < 9223372036854775808 := by
      have h4 : J * 4503599627370496 ≤ 1073 * 4503599627370496 := Nat.mul_le_mul_right _ (by omega)
      omega
    have hv : ((-53 : Int) + (k : Int) - (U : Int) + 1074) * 4503599627370496 + o * 2 ^ U = ((J * 4503599627370496 + V : Nat) : Int) := by
      rw [← hVn]
      have hJ2 : (J : Int) = (-53 : Int) + (k : Int) - (U : Int) + 1074 := by omega
      rw [← hJ2, Int.natCast_add, Int.natCast_mul]
      rfl
    have := join_64_yes false m (-53) k (by omega) (by omega) (by omega) (by omega) hk64 o L ho0 ho1 hL64 hdiv Kz Kl U (by omega) (by omega) (by omega) (by omega) ((J * 4503599627370496 + V : Nat) : Int) (((J * 4503599627370496 + V : Nat) : Int) - 9223372036854775808) (by omega) (by omega) hv (or_min _ (by omega) (by omega)) _ (if_neg (by decide)) w hT
    exact this

theorem bfrac_64 (m : Nat) (hm2 : m < 9007199254740992) : ∃ r : Nat, r < 4607182418800017408 ∧ r < 9218868437227405312 ∧ FloatKind.f64.format.mul (floatOfInt .f64 (m : Int)) 4368491638549381120 = some r ∧ ∀ w : World, Tab w → Calls Tryd.prog 6 #[.bool false, .int .i64 m, .int .i64 (-53), .int .i64 64] w fun e w' => e = .returned (.tuple #[.int .i64 r, .bool true]) ∧ Kept w w' := by
  by_cases hm : m = 0
  · subst hm
    refine ⟨0, by decide, by decide, by decide +kernel, fun w hT => ?_⟩
    refine (join_zero_64 false (-53) w).mono ?_
    rintro e w' ⟨rfl, hk⟩
    exact ⟨rfl, hk⟩
  · obtain ⟨S, hS⟩ : ∃ S : Nat, S = 1021 := ⟨_, rfl⟩
    obtain ⟨r, h1, h2, h3⟩ := bjoin_64 m (by omega) hm2 S hS
    obtain ⟨K, hK⟩ : ∃ K : Nat, K = 1074 := ⟨_, rfl⟩
    obtain ⟨fb, hfb⟩ : ∃ fb : Nat, fb = 52 := ⟨_, rfl⟩
    obtain ⟨r2, g1, g2, g3⟩ := frac_word FloatKind.f64.format m 4368491638549381120 (fb + 1) fb K (by rw [hfb]; decide +kernel) (by rw [hK]; exact least64) hm (by rw [hfb]; exact hm2) rfl (by omega)
      (by rw [hfb]; decide +kernel) (by rw [rungVal_inf64]; exact Nat.pow_le_pow_right (by decide) (by rw [hK, hfb]; decide)) (by decide +kernel)
    rw [show K - (fb + 1) = S by omega, ← h2] at g3
    obtain rfl := rungVal_inj _ g3
    have e0 : floatOfInt .f64 (m : Int) = FloatKind.f64.format.nearest false m 0 := by
      have : decide ((m : Int) < 0) = false := decide_eq_false (by omega)
      show FloatKind.f64.format.nearest (decide ((m : Int) < 0)) (m : Int).natAbs 0 = _
      rw [this, Int.natAbs_natCast]
    have h1' : r2 < 4607182418800017408 := by
      rw [← rungVal_le FloatKind.f64.format, h2]
      have e9 : rungVal FloatKind.f64.format 4607182418800017408 = 2 ^ (S + 53) := by rw [hS]; decide +kernel
      rw [e9, Nat.add_comm, Nat.pow_add]
      exact Nat.mul_lt_mul_of_pos_right hm2 (Nat.two_pow_pos _)
    exact ⟨r2, h1', h1, by rw [e0]; exact g1, h3⟩

set_option maxHeartbeats 1000000 in
theorem bjoin_32 (m : Nat) (hm : 0 < m) (hm2 : m < 16777216) (S : Nat) (hS : S = 125) : ∃ r : Nat, r < 2139095040 ∧ rungVal FloatKind.f32.format r = m * 2 ^ S ∧ ∀ w : World, Tab w → Calls Tryd.prog 6 #[.bool false, .int .i64 m, .int .i64 (-24), .int .i64 32] w fun e w' => e = .returned (.tuple #[.int .i64 r, .bool true]) ∧ Kept w w' := by
  obtain ⟨k, L, o, hk, hL, hdiv, hxo, hk64, ho0, ho1, hL64, hodd⟩ := odd_int3 (m : Int) (by omega) (by omega)
  have hp1 : (0 : Int) < 2 ^ k := Int.pow_pos (by decide)
  have hole : o ≤ m := by
    rw [hxo]
    have : o * 1 ≤ o * 2 ^ k := Int.mul_le_mul_of_nonneg_left (by omega) (by omega)
    omega
  have hLB : o < 16777216 ↔ L ≤ 24 := by
    have h := len_pow o ho0 ho1 0 24 (by decide)
    rw [← hL, Int.pow_zero, Int.mul_one, Nat.zero_add] at h
    exact h
  have hL53 : L ≤ 24 := hLB.1 (by omega)
  have hL0 : 0 < L := by
    have h := len_pow o ho0 ho1 0 0 (by decide)
    rw [← hL, Int.pow_zero, Int.mul_one, Nat.zero_add] at h
    have : ¬ o < 2 ^ 0 := by rw [Int.pow_zero]; omega
    have : ¬ L ≤ 0 := fun hh => this (h.2 hh)
    omega
  obtain ⟨U, hU⟩ : ∃ U : Nat, U = 24 - L := ⟨_, rfl⟩
  have hpos : 0 < o * 2 ^ U := Int.mul_pos ho0 (Int.pow_pos (by decide))
  have hV1 : o * 2 ^ U < 16777216 := by
    have h := len_pow o ho0 ho1 U 24 (by decide)
    rw [← hL] at h
    exact h.2 (by omega)
  have hV2 : 8388608 ≤ o * 2 ^ U := by
    have h := len_pow o ho0 ho1 U 23 (by decide)
    rw [← hL] at h
    have h2 : ¬ o * 2 ^ U < 2 ^ 23 := fun hh => by have := h.1 hh; omega
    have h3 : (2 : Int) ^ 23 = 8388608 := by decide
    omega
  have hUb : ∀ i : Nat, i < U → o * 2 ^ i < 8388608 ∧ -149 < (-24 : Int) + (k : Int) - (i : Int) := by
    intro i hi
    have h := len_pow o ho0 ho1 i 23 (by decide)
    rw [← hL] at h
    exact ⟨h.2 (by omega), by omega⟩
  have Kz : ∀ w : World, Tab w → Calls Tryd.prog 17 #[.int .u64 (m : Int)] w fun e w' => e = .returned (.int .i64 (k : Int)) ∧ w = w' := by
    intro w hT
    rw [hk]
    exact kz_any m (by omega) (by omega) w hT
  have Kl : ∀ w : World, Calls Tryd.prog 18 #[.int .u64 (IntKind.u64.wrap o)] w fun e w' => e = .returned (.int .i64 (L : Int)) ∧ w = w' := by
    intro w
    rw [hL]
    exact kl_any o (by omega) ho1 w
  obtain ⟨V, hVn⟩ : ∃ V : Nat, (V : Int) = o * 2 ^ U := ⟨(o * 2 ^ U).toNat, by omega⟩
  obtain ⟨J, hJ⟩ : ∃ J : Nat, J + U = S + k := ⟨S + k - U, by omega⟩
  have hk53 : k ≤ 23 := by
    rcases Nat.lt_or_ge 23 k with h | h
    · have h1 : (2 : Int) ^ 24 ≤ 2 ^ k := by exact_mod_cast Nat.pow_le_pow_right (by decide : 0 < 2) h
      have h2 : 1 * (2 : Int) ^ k ≤ o * 2 ^ k := Int.mul_le_mul_of_nonneg_right (by omega) (by omega)
      have h3 : (2 : Int) ^ 24 = 16777216 := by decide
      omega
    · exact h
  refine ⟨J * 8388608 + V, ?_, ?_, fun w hT => ?_⟩
  · have : J ≤ 148 := by omega
    have h4 : J * 8388608 ≤ 148 * 8388608 := Nat.mul_le_mul_right _ this
    omega
  · have e1 : rungVal FloatKind.f32.format (J * 8388608 + V) = rv 8388608 (J * 8388608 + V) := by unfold rungVal rv; rw [bin32]
    rw [e1, rv_at 8388608 J V (by decide) (by omega) (.inr (by omega))]
    have h5 : ((V * 2 ^ J : Nat) : Int) = ((m * 2 ^ S : Nat) : Int) := by
      rw [Int.natCast_mul, Int.natCast_mul, hVn, hxo, Int.natCast_pow, Int.natCast_pow, Int.mul_assoc, Int.mul_assoc]
      show o * (2 ^ U * 2 ^ J) = o * (2 ^ k * 2 ^ S)
      rw [← Int.pow_add, ← Int.pow_add]
      congr 2
      omega
    exact_mod_cast h5
  · have hb : J * 8388608 + V < 2147483648 := by
      have h4 : J * 8388608 ≤ 148 * 8388608 := Nat.mul_le_mul_right _ (by omega)
      omega
    have hv : ((-24 : Int) + (k : Int) - (U : Int) + 149) * 8388608 + o * 2 ^ U = ((J * 8388608 + V : Nat) : Int) := by
      rw [← hVn]
      have hJ2 : (J : Int) = (-24 : Int) + (k : Int) - (U : Int) + 149 := by omega
      rw [← hJ2, Int.natCast_add, Int.natCast_mul]
      rfl
    have := join_32_yes false m (-24) k (by omega) (by omega) (by omega) (by omega) hk64 o L ho0 ho1 hL64 hdiv Kz Kl U (by omega) (by omega) (by omega) (by omega) ((J * 8388608 + V : Nat) : Int) (((J * 8388608 + V : Nat) : Int) + 2147483648) (by omega) (by omega) hv (or_31 _ (by omega) (by omega)) _ (if_neg (by decide)) w hT
    exact this

theorem bfrac_32 (m : Nat) (hm2 : m < 16777216) : ∃ r : Nat, r < 1065353216 ∧ r < 2139095040 ∧ FloatKind.f32.format.mul (floatOfInt .f32 (m : Int)) 864026624 = some r ∧ ∀ w : World, Tab w → Calls Tryd.prog 6 #[.bool false, .int .i64 m, .int .i64 (-24), .int .i64 32] w fun e w' => e = .returned (.tuple #[.int .i64 r, .bool true]) ∧ Kept w w' := by
  by_cases hm : m = 0
  · subst hm
    refine ⟨0, by decide, by decide, by decide +kernel, fun w hT => ?_⟩
    refine (join_zero_32 false (-24) w).mono ?_
    rintro e w' ⟨rfl, hk⟩
    exact ⟨rfl, hk⟩
  · obtain ⟨S, hS⟩ : ∃ S : Nat, S = 125 := ⟨_, rfl⟩
    obtain ⟨r, h1, h2, h3⟩ := bjoin_32 m (by omega) hm2 S hS
    obtain ⟨K, hK⟩ : ∃ K : Nat, K = 149 := ⟨_, rfl⟩
    obtain ⟨fb, hfb⟩ : ∃ fb : Nat, fb = 23 := ⟨_, rfl⟩
    obtain ⟨r2, g1, g2, g3⟩ := frac_word FloatKind.f32.format m 864026624 (fb + 1) fb K (by rw [hfb]; decide +kernel) (by rw [hK]; exact least32) hm (by rw [hfb]; exact hm2) rfl (by omega)
      (by rw [hfb]; decide +kernel) (by rw [rungVal_inf32]; exact Nat.pow_le_pow_right (by decide) (by rw [hK, hfb]; decide)) (by decide +kernel)
    rw [show K - (fb + 1) = S by omega, ← h2] at g3
    obtain rfl := rungVal_inj _ g3
    have e0 : floatOfInt .f32 (m : Int) = FloatKind.f32.format.nearest false m 0 := by
      have : decide ((m : Int) < 0) = false := decide_eq_false (by omega)
      show FloatKind.f32.format.nearest (decide ((m : Int) < 0)) (m : Int).natAbs 0 = _
      rw [this, Int.natAbs_natCast]
    have h1' : r2 < 1065353216 := by
      rw [← rungVal_le FloatKind.f32.format, h2]
      have e9 : rungVal FloatKind.f32.format 1065353216 = 2 ^ (S + 24) := by rw [hS]; decide +kernel
      rw [e9, Nat.add_comm, Nat.pow_add]
      exact Nat.mul_lt_mul_of_pos_right hm2 (Nat.two_pow_pos _)
    exact ⟨r2, h1', h1, by rw [e0]; exact g1, h3⟩

set_option maxHeartbeats 1000000 in
theorem fromOne_64 (w : World) : Calls Tryd.prog 9 #[.int .i64 1, .int .i64 64] w fun e w' => e = .returned (.int .i64 4607182418800017408) ∧ w = w' := by
  have h1 : floatOfInt .f64 1 = 4607182418800017408 := by decide +kernel
  have HO : Hid (∀ u, Calls Tryd.prog 25 #[.float .f64 4607182418800017408] u fun e w' => e = .returned (.int .i64 4607182418800017408) ∧ u = w') := fun u => by
    have := of64_any 4607182418800017408 u
    rw [ofr_64 4607182418800017408 (by decide)] at this
    exact this
  go_enter Tryd.func9, Tryd.ntmps9
  go_wp2_with (first | (go_at_call 25; refine (HO.out _).mono ?_; rintro e w1 ⟨rfl, rfl⟩))
  go_ret
  exact ⟨rfl, rfl⟩

set_option maxHeartbeats 1000000 in
theorem fromOne_32 (w : World) : Calls Tryd.prog 9 #[.int .i64 1, .int .i64 32] w fun e w' => e = .returned (.int .i64 1065353216) ∧ w = w' := by
  have h1 : floatOfInt .f32 1 = 1065353216 := by decide +kernel
  have HO : Hid (∀ u, Calls Tryd.prog 24 #[.float .f32 1065353216] u fun e w' => e = .returned (.int .i64 1065353216) ∧ u = w') := fun u => by
    have := of32_any 1065353216 u
    rw [ofr_32 1065353216 (by decide)] at this
    exact this
  go_enter Tryd.func9, Tryd.ntmps9
  go_wp2_with (first | (go_at_call 24; refine (HO.out _).mono ?_; rintro e w1 ⟨rfl, rfl⟩))
  go_ret
  exact ⟨rfl, rfl⟩

end Go.Proofs.YtfanggjinedafabDoor
