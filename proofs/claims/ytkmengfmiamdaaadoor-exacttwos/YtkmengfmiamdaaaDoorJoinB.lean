/- Join of package bits gives back what Parts has told. -/
import Derived.Test.YtkmengfmiamdaaaDoorJoinX
import Derived.Test.YtkmengfmiamdaaaDoorParts
namespace Go.Proofs.YtkmengfmiamdaaaDoor
open Go.ChangeShapes Go.WideShapes Go.ChangeAt Go.RowKit
set_option linter.unusedVariables false

theorem u64_id (o : Int) (h0 : 0 ≤ o) (h1 : o ≤ 9223372036854775807) : IntKind.u64.wrap o = o := by
  rw [IntKind.wrap_u64]; omega

theorem kz_any (x : Int) (h0 : 0 < x) (h1 : x ≤ 9223372036854775807) (w : World) (hT : Tab w) : Calls Tryd.prog 101 #[.int .u64 x] w fun e w' => e = .returned (.int .i64 ((Lib.ctz 64 x.toNat : Nat) : Int)) ∧ w = w' := by
  have h := tz x.toNat (by omega) (by omega) w hT
  rw [Int.toNat_of_nonneg (by omega)] at h
  exact h

theorem kl_any (o : Int) (h0 : 0 ≤ o) (h1 : o ≤ 9223372036854775807) (w : World) : Calls Tryd.prog 81 #[.int .u64 (IntKind.u64.wrap o)] w fun e w' => e = .returned (.int .i64 ((Lib.bitLen o.toNat : Nat) : Int)) ∧ w = w' := by
  rw [u64_id o h0 h1]
  exact len o w h0 (by omega)

/-- A whole number above 0 as an odd one times a power of 2, with its length. -/
theorem odd_int (x : Int) (h0 : 0 < x) (h1 : x ≤ 9223372036854775807) : ∃ k : Nat, ∃ L : Nat, ∃ o : Int, k = Lib.ctz 64 x.toNat ∧ L = Lib.bitLen o.toNat ∧ x / 2 ^ k = o ∧ x = o * 2 ^ k ∧ k < 64 ∧ 0 < o ∧ o ≤ 9223372036854775807 ∧ Lib.bitLen x.toNat = k + L ∧ L ≤ 64 := by
  obtain ⟨a1, a2, a3, a4⟩ := odd_part x.toNat (by omega) (by omega)
  obtain ⟨k, hk⟩ : ∃ k, k = Lib.ctz 64 x.toNat := ⟨_, rfl⟩
  rw [← hk] at a1 a2 a3 a4
  obtain ⟨o, ho⟩ : ∃ o, o = x.toNat / 2 ^ k := ⟨_, rfl⟩
  rw [← ho] at a2 a3 a4
  have hx : x = ((o * 2 ^ k : Nat) : Int) := by rw [← a2]; omega
  have hp : (0 : Nat) < 2 ^ k := Nat.two_pow_pos k
  have hle : o ≤ o * 2 ^ k := Nat.le_mul_of_pos_right _ hp
  have ho1 : o < 2 ^ 64 := by omega
  refine ⟨k, Lib.bitLen o, (o : Int), hk, by simp, ?_, ?_, a1, by omega, by omega, a4, bitLen_le 64 o (by decide) ho1⟩
  · rw [hx, Int.natCast_mul, Int.natCast_pow]
    exact Int.mul_ediv_cancel _ (Int.ne_of_gt (by exact_mod_cast hp))
  · rw [hx, Int.natCast_mul, Int.natCast_pow]
    rfl

theorem back_64 (b : Int) (hb1 : -9223372036854775808 ≤ b) (hb2 : b ≤ 9223372036854775807) (hc : cls b 64 < 3) (w : World) (hT : Tab w) : Calls Tryd.prog 83 #[.bool (pneg b 64), .int .i64 (pmag b 64), .int .i64 (pexp b 64), .int .i64 64] w fun e w' => e = .returned (.tuple #[.int .i64 b, .bool true]) ∧ Kept w w' := by
  have hf : fin b 64 = true := by simp [fin, hc]
  have hinf : b % 9223372036854775808 < 9218868437227405312 := by
    unfold cls clsOf at hc
    rw [if_pos rfl] at hc
    (repeat' split at hc) <;> omega
  have hn : pneg b 64 = decide (b < 0) := by simp [pneg, hf, sgn]
  have hm : pmag b 64 = if b % 9223372036854775808 < 4503599627370496 then b % 9223372036854775808 else b % 9223372036854775808 % 4503599627370496 + 4503599627370496 := by
    unfold pmag; rw [if_pos hf, if_pos rfl]
  have hx : pexp b 64 = if b % 9223372036854775808 < 4503599627370496 then -1074 else b % 9223372036854775808 / 4503599627370496 - 1075 := by
    unfold pexp; rw [if_pos hf, if_pos rfl]
  have hv : (pexp b 64 + 1074) * 4503599627370496 + pmag b 64 = b % 9223372036854775808 := by
    rw [hm, hx]; split <;> omega
  have he : -1074 ≤ pexp b 64 ∧ pexp b 64 ≤ 971 := by rw [hx]; split <;> omega
  have hmb : 0 ≤ pmag b 64 ∧ pmag b 64 < 9007199254740992 ∧ (pmag b 64 < 4503599627370496 → pexp b 64 = -1074) := by rw [hm, hx]; split <;> omega
  have hq : (if decide (b < 0) = true then b % 9223372036854775808 - 9223372036854775808 else b % 9223372036854775808) = b := by
    by_cases h : b < 0
    · rw [if_pos (decide_eq_true h)]; omega
    · rw [if_neg (by simpa using h)]; omega
  rw [hn]
  generalize pexp b 64 = E at *
  generalize pmag b 64 = M at *
  by_cases h0 : M = 0
  · subst h0
    refine (join_zero_64 _ E w).mono ?_
    rintro e w' ⟨rfl, hk⟩
    refine ⟨?_, hk⟩
    have : (if decide (b < 0) = true then (-9223372036854775808 : Int) else 0) = b := by
      have hz : b % 9223372036854775808 = 0 := by omega
      rw [hz, Int.zero_sub] at hq
      exact hq
    rw [this]
  · obtain ⟨k, L, o, hk, hL, hdiv, hxo, hk64, ho0, ho1, hlen, hL64⟩ := odd_int M (by omega) (by omega)
    have hU : min (53 - (L : Int)) (E + (k : Int) + 1074) = (k : Int) := by
      by_cases hs : M < 4503599627370496
      · have := bitLen_le 52 M.toNat (by decide) (by omega)
        have := hmb.2.2 hs
        omega
      · have := bitLen_top 52 M.toNat (by decide) (by omega) (by omega)
        omega
    refine join_64_yes _ M E k (by omega) (by omega) (by omega) (by omega) hk64 o L ho0 ho1 hL64 hdiv ?_ ?_ k hU hk64 (by omega) (by omega) (b % 9223372036854775808) (b % 9223372036854775808 - 9223372036854775808) (by rw [← hxo]; omega) (by rw [← hxo]; omega) (by rw [← hxo]; omega) (or_min _ (by omega) (by omega)) b hq w hT
    · intro w hT
      rw [hk]
      exact kz_any M (by omega) (by omega) w hT
    · intro w
      rw [hL]
      exact kl_any o (by omega) ho1 w

theorem back_32 (b : Int) (hc : cls b 32 < 3) (w : World) (hT : Tab w) : Calls Tryd.prog 83 #[.bool (pneg b 32), .int .i64 (pmag b 32), .int .i64 (pexp b 32), .int .i64 32] w fun e w' => e = .returned (.tuple #[.int .i64 b, .bool true]) ∧ Kept w w' := by
  have hf : fin b 32 = true := by simp [fin, hc]
  have hvd := cls_valid b (by omega)
  have e32 : ¬ (32 : Int) = 64 := by decide
  have hinf : b % 2147483648 < 2139095040 := by
    unfold cls clsOf at hc
    rw [if_neg e32, if_pos rfl, if_pos hvd] at hc
    (repeat' split at hc) <;> omega
  have hn : pneg b 32 = decide (2147483648 ≤ b) := by simp [pneg, hf, sgn]
  have hm : pmag b 32 = if b % 2147483648 < 8388608 then b % 2147483648 else b % 2147483648 % 8388608 + 8388608 := by
    unfold pmag; rw [if_pos hf, if_neg e32]
  have hx : pexp b 32 = if b % 2147483648 < 8388608 then -149 else b % 2147483648 / 8388608 - 150 := by
    unfold pexp; rw [if_pos hf, if_neg e32]
  have hv : (pexp b 32 + 149) * 8388608 + pmag b 32 = b % 2147483648 := by
    rw [hm, hx]; split <;> omega
  have he : -149 ≤ pexp b 32 ∧ pexp b 32 ≤ 104 := by rw [hx]; split <;> omega
  have hmb : 0 ≤ pmag b 32 ∧ pmag b 32 < 16777216 ∧ (pmag b 32 < 8388608 → pexp b 32 = -149) := by rw [hm, hx]; split <;> omega
  have hq : (if decide (2147483648 ≤ b) = true then b % 2147483648 + 2147483648 else b % 2147483648) = b := by
    by_cases h : 2147483648 ≤ b
    · rw [if_pos (decide_eq_true h)]; omega
    · rw [if_neg (by simpa using h)]; omega
  rw [hn]
  generalize pexp b 32 = E at *
  generalize pmag b 32 = M at *
  by_cases h0 : M = 0
  · subst h0
    refine (join_zero_32 _ E w).mono ?_
    rintro e w' ⟨rfl, hk⟩
    refine ⟨?_, hk⟩
    have : (if decide (2147483648 ≤ b) = true then (2147483648 : Int) else 0) = b := by
      have hz : b % 2147483648 = 0 := by omega
      rw [hz, Int.zero_add] at hq
      exact hq
    rw [this]
  · obtain ⟨k, L, o, hk, hL, hdiv, hxo, hk64, ho0, ho1, hlen, hL64⟩ := odd_int M (by omega) (by omega)
    have hU : min (24 - (L : Int)) (E + (k : Int) + 149) = (k : Int) := by
      by_cases hs : M < 8388608
      · have := bitLen_le 23 M.toNat (by decide) (by omega)
        have := hmb.2.2 hs
        omega
      · have := bitLen_top 23 M.toNat (by decide) (by omega) (by omega)
        omega
    refine join_32_yes _ M E k (by omega) (by omega) (by omega) (by omega) hk64 o L ho0 ho1 hL64 hdiv ?_ ?_ k hU hk64 (by omega) (by omega) (b % 2147483648) (b % 2147483648 + 2147483648) (by rw [← hxo]; omega) (by rw [← hxo]; omega) (by rw [← hxo]; omega) (or_31 _ (by omega) (by omega)) b hq w hT
    · intro w hT
      rw [hk]
      exact kz_any M (by omega) (by omega) w hT
    · intro w
      rw [hL]
      exact kl_any o (by omega) ho1 w

end Go.Proofs.YtkmengfmiamdaaaDoor
