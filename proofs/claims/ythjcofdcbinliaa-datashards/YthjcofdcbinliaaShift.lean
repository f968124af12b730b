/- The walk of the document's own shifted: two loops. -/
import Derived.Test.YthjcofdcbinliaaJoinB
import Derived.Test.YthjcofdcbinliaaRef
namespace Go.Proofs.Ythjcofdcbinliaa
open Go.ChangeShapes Go.WideShapes Go.ChangeAt Go.RowKit
set_option linter.unusedVariables false

theorem half_pow (o : Int) (k j : Nat) (h : j < k) : o * 2 ^ (k - j) = 2 * (o * 2 ^ (k - (j + 1))) := by
  have e : k - j = (k - (j + 1)) + 1 := by omega
  rw [e, Int.pow_succ]
  have : o * (2 ^ (k - (j + 1)) * 2) = 2 * (o * 2 ^ (k - (j + 1))) := by
    rw [← Int.mul_assoc, Int.mul_comm]
  rw [this]

theorem len_pow (o : Int) (h0 : 0 < o) (h1 : o ≤ 9223372036854775807) (i f : Nat) (hf : f ≤ 62) : o * 2 ^ i < 2 ^ f ↔ i + Lib.bitLen o.toNat ≤ f := by
  obtain ⟨m, rfl⟩ := Int.eq_ofNat_of_zero_le (Int.le_of_lt h0)
  have hm : m ≠ 0 := by omega
  have l1 : 2 ^ m.log2 ≤ m := Nat.log2_self_le hm
  have l2 : m < 2 ^ (m.log2 + 1) := Nat.lt_log2_self
  have hlog : m.log2 < 64 := by
    rw [Nat.log2_lt hm]
    omega
  have hL : Lib.bitLen m = m.log2 + 1 := bitLen_top m.log2 m hlog l1 l2
  have ec : (m : Int) * 2 ^ i < 2 ^ f ↔ m * 2 ^ i < 2 ^ f := by
    have e1 : ((m * 2 ^ i : Nat) : Int) = (m : Int) * 2 ^ i := by rw [Int.natCast_mul, Int.natCast_pow]; rfl
    have e2 : ((2 ^ f : Nat) : Int) = 2 ^ f := by rw [Int.natCast_pow]; rfl
    rw [← e1, ← e2]
    exact Int.ofNat_lt
  show (m : Int) * 2 ^ i < 2 ^ f ↔ i + Lib.bitLen (m : Int).toNat ≤ f
  rw [ec, Int.toNat_natCast, hL]
  constructor
  · intro h
    have a : 2 ^ (m.log2 + i) < 2 ^ f := by
      rw [Nat.pow_add]
      exact Nat.lt_of_le_of_lt (Nat.mul_le_mul_right _ l1) h
    have := (Nat.pow_lt_pow_iff_right (by decide : 1 < 2)).1 a
    omega
  · intro h
    have a : m * 2 ^ i < 2 ^ (m.log2 + 1) * 2 ^ i := Nat.mul_lt_mul_of_pos_right l2 (Nat.two_pow_pos _)
    rw [← Nat.pow_add] at a
    exact Nat.lt_of_lt_of_le a (Nat.pow_le_pow_right (by decide) (by omega))

end Go.Proofs.Ythjcofdcbinliaa
