/- Join of package bits: noughts, what is below 0, exponents that are too far. -/
import Derived.Test.YtkmengfmiamdaaaDoorJoinW
namespace Go.Proofs.YtkmengfmiamdaaaDoor
open Go.ChangeShapes Go.WideShapes Go.ChangeAt Go.RowKit
set_option linter.unusedVariables false

theorem or_min (v : Int) (h0 : 0 ≤ v) (h1 : v < 9223372036854775808) : bits .or .i64 v (-9223372036854775808) = v - 9223372036854775808 := by
  have e : (BitVec.ofInt 64 (-9223372036854775808) : BitVec 64).toNat = 2 ^ 63 * 1 := by decide
  have h := ofInt_toNat v
  rw [bits_or, BitVec.toNat_or, e, Nat.or_comm, ← Nat.two_pow_add_eq_or_of_lt (by omega), wrap_i64]
  omega

theorem or_31 (v : Int) (h0 : 0 ≤ v) (h1 : v < 2147483648) : bits .or .i64 v 2147483648 = v + 2147483648 := by
  have e : (BitVec.ofInt 64 2147483648 : BitVec 64).toNat = 2 ^ 31 * 1 := by decide
  have h := ofInt_toNat v
  rw [bits_or, BitVec.toNat_or, e, Nat.or_comm, ← Nat.two_pow_add_eq_or_of_lt (by omega), wrap_i64]
  omega

def sgnBit (n : Int) : Int := if n = 64 then -9223372036854775808 else 2147483648

set_option maxHeartbeats 400000 in
theorem join_zero_64 (p : Bool) (e : Int) (w : World) : Calls Tryd.prog 83 #[.bool p, .int .i64 0, .int .i64 e, .int .i64 64] w fun e w' => e = .returned (.tuple #[.int .i64 (if p = true then -9223372036854775808 else 0), .bool true]) ∧ Kept w w' := by
  obtain ⟨q, hq⟩ : ∃ q : Int, (if p = true then -9223372036854775808 else 0) = q := ⟨_, rfl⟩
  have hr : bits .or .i64 0 (-9223372036854775808) = -9223372036854775808 := by decide
  rw [hq]
  have HR : Hid (bits .or .i64 0 (-9223372036854775808) = -9223372036854775808) := hr
  have HQ : Hid ((if p = true then (-9223372036854775808 : Int) else 0) = q) := hq
  clear hr hq
  go_enter Tryd.func83, Tryd.ntmps83
  go_wp2_with (first | (go_at_call 92; refine (layoutOf_64 _).mono ?_; rintro e w1 ⟨rfl, hk1⟩) | (go_at_call 107; refine (signed_64 p 0 _ q HR.out HQ.out _).mono ?_; rintro e w2 ⟨rfl, hk2⟩))
  go_ret2
  exact ⟨rfl, (hk1.alloc _ _).trans hk2⟩

set_option maxHeartbeats 400000 in
theorem join_zero_32 (p : Bool) (e : Int) (w : World) : Calls Tryd.prog 83 #[.bool p, .int .i64 0, .int .i64 e, .int .i64 32] w fun e w' => e = .returned (.tuple #[.int .i64 (if p = true then 2147483648 else 0), .bool true]) ∧ Kept w w' := by
  obtain ⟨q, hq⟩ : ∃ q : Int, (if p = true then 2147483648 else 0) = q := ⟨_, rfl⟩
  have hr : bits .or .i64 0 2147483648 = 2147483648 := by decide
  rw [hq]
  have HR : Hid (bits .or .i64 0 2147483648 = 2147483648) := hr
  have HQ : Hid ((if p = true then (2147483648 : Int) else 0) = q) := hq
  clear hr hq
  go_enter Tryd.func83, Tryd.ntmps83
  go_wp2_with (first | (go_at_call 92; refine (layoutOf_32 _).mono ?_; rintro e w1 ⟨rfl, hk1⟩) | (go_at_call 107; refine (signed_32 p 0 _ q HR.out HQ.out _).mono ?_; rintro e w2 ⟨rfl, hk2⟩))
  go_ret2
  exact ⟨rfl, (hk1.alloc _ _).trans hk2⟩

/-! ### Odd part, length: plain arithmetic -/
theorem bitLenAux_le (f x : Nat) : Lib.bitLenAux f x ≤ f := by
  induction f generalizing x with
  | zero => simp [Lib.bitLenAux]
  | succ f ih =>
    unfold Lib.bitLenAux
    split
    · omega
    · have := ih (x / 2); omega

theorem bitLen_le (f x : Nat) (hf : f ≤ 64) (h : x < 2 ^ f) : Lib.bitLen x ≤ f := by
  unfold Lib.bitLen
  rw [Lib.bitLenAux_fuel f x h 64 hf]
  exact bitLenAux_le f x

theorem bitLen_top (f x : Nat) (hf : f < 64) (h1 : 2 ^ f ≤ x) (h2 : x < 2 ^ (f + 1)) : Lib.bitLen x = f + 1 := by
  have hx : x < 2 ^ 64 := Nat.lt_of_lt_of_le h2 (Nat.pow_le_pow_right (by decide) (by omega))
  rw [Lib.bitLen_shift f x h1 hx]
  have : x / 2 ^ f = 1 := by
    apply Nat.div_eq_of_lt_le
    · omega
    · rw [Nat.pow_succ] at h2; omega
  rw [this]
  rfl

/-- The odd part of a whole number above 0. -/
theorem odd_part (m : Nat) (h0 : m ≠ 0) (h : m < 2 ^ 64) : Lib.ctz 64 m < 64 ∧ m = m / 2 ^ Lib.ctz 64 m * 2 ^ Lib.ctz 64 m ∧ m / 2 ^ Lib.ctz 64 m % 2 = 1 ∧ Lib.bitLen m = Lib.ctz 64 m + Lib.bitLen (m / 2 ^ Lib.ctz 64 m) := by
  have e : Lib.ctz 64 m = Lib.ctzFrom 64 m := by unfold Lib.ctz; rw [if_neg h0]
  obtain ⟨j, hj, hk⟩ := Lib.ctzFrom_spec 64 m (by omega) h
  rw [← e] at hj hk
  generalize Lib.ctz 64 m = k at *
  have hp : 0 < 2 ^ k := Nat.two_pow_pos _
  have hd : m / 2 ^ k = 2 * j + 1 := by
    rw [hj]
    exact Nat.mul_div_cancel_left _ hp
  refine ⟨hk, ?_, by rw [hd]; omega, ?_⟩
  · rw [hd, Nat.mul_comm]; exact hj
  · refine Lib.bitLen_shift _ m ?_ h
    rw [hj]
    exact Nat.le_mul_of_pos_right _ (by omega)

end Go.Proofs.YtkmengfmiamdaaaDoor
