/- exact.Root of any valid number that is not below 0. -/
import Derived.Test.YtdhimkpfnhoagaaGreatDoorWh29
import Derived.Test.YtdhimkpfnhoagaaGreatDoorWh40
namespace Go.Proofs.YtdhimkpfnhoagaaGreatDoor
open Go.ChangeShapes Go.WideShapes Go.ChangeAt Go.RowKit
set_option linter.unusedVariables false
set_option linter.unusedSimpArgs false

theorem flo_bounds (v B : Nat) (t : Int) (h1 : 2 ^ (B - 1) ≤ v) (h2 : v < 2 ^ B) (hB : 0 < B) (ht : 0 ≤ (B : Int) - 1 + t) : 2 ^ ((B : Int) - 1 + t).toNat ≤ flo v t ∧ flo v t < 2 ^ ((B : Int) + t).toNat := by
  unfold flo
  split
  · rw [show ((B : Int) - 1 + t).toNat = (B - 1) + t.toNat by omega, show ((B : Int) + t).toNat = B + t.toNat by omega, Nat.pow_add, Nat.pow_add]
    exact ⟨Nat.mul_le_mul_right _ h1, Nat.mul_lt_mul_of_pos_right h2 (Nat.two_pow_pos _)⟩
  · constructor
    · rw [Nat.le_div_iff_mul_le (Nat.two_pow_pos _), ← Nat.pow_add]
      exact Nat.le_trans (Nat.pow_le_pow_right (by decide) (by omega)) h1
    · rw [Nat.div_lt_iff_lt_mul (Nat.two_pow_pos _), ← Nat.pow_add]
      exact Nat.lt_of_lt_of_le h2 (Nat.pow_le_pow_right (by decide) (by omega))
end Go.Proofs.YtdhimkpfnhoagaaGreatDoor
