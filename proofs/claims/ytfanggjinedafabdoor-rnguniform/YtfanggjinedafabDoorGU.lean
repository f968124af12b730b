/- A whole number times 2^-53 (2^-24): Go's float and the document's own Join. -/
import Derived.Test.YtfanggjinedafabDoorGF
namespace Go.Proofs.YtfanggjinedafabDoor
open Go.ChangeShapes Go.WideShapes Go.ChangeAt Go.RowKit Ieee
set_option linter.unusedVariables false
set_option linter.unusedSimpArgs false

theorem odd_int3 (x : Int) (h0 : 0 < x) (h1 : x ≤ 9223372036854775807) : ∃ k : Nat, ∃ L : Nat, ∃ o : Int, k = Lib.ctz 64 x.toNat ∧ L = Lib.bitLen o.toNat ∧ x / 2 ^ k = o ∧ x = o * 2 ^ k ∧ k < 64 ∧ 0 < o ∧ o ≤ 9223372036854775807 ∧ L ≤ 64 ∧ o % 2 = 1 := by
  obtain ⟨a1, a2, a3, a4⟩ := odd_part x.toNat (by omega) (by omega)
  obtain ⟨k, hk⟩ : ∃ k, k = Lib.ctz 64 x.toNat := ⟨_, rfl⟩
  rw [← hk] at a1 a2 a3 a4
  obtain ⟨o, ho⟩ : ∃ o, o = x.toNat / 2 ^ k := ⟨_, rfl⟩
  rw [← ho] at a2 a3 a4
  have hx : x = ((o * 2 ^ k : Nat) : Int) := by rw [← a2]; omega
  have hp : (0 : Nat) < 2 ^ k := Nat.two_pow_pos k
  have hle : o ≤ o * 2 ^ k := Nat.le_mul_of_pos_right _ hp
  have ho1 : o < 2 ^ 64 := by omega
  refine ⟨k, Lib.bitLen o, (o : Int), hk, by simp, ?_, ?_, a1, by omega, by omega, bitLen_le 64 o (by decide) ho1, by omega⟩
  · rw [hx, Int.natCast_mul, Int.natCast_pow]
    exact Int.mul_ediv_cancel _ (Int.ne_of_gt (by exact_mod_cast hp))
  · rw [hx, Int.natCast_mul, Int.natCast_pow]
    rfl

theorem ofr_64 (r : Nat) (h : r < 9218868437227405312) : of64 r = (r : Int) := by
  have h2 : rung FloatKind.f64.format r = r := by unfold rung; rw [sw64]; exact Nat.mod_eq_of_lt (by omega)
  unfold of64
  rw [self_64, h2, inf64, decide_eq_false (by omega), if_neg (by decide)]
  unfold wrap64
  omega

theorem ofr_32 (r : Nat) (h : r < 2139095040) : of32 r = (r : Int) := by
  have h2 : rung FloatKind.f32.format r = r := by unfold rung; rw [sw32]; exact Nat.mod_eq_of_lt (by omega)
  unfold of32
  rw [self_32, h2, inf32, decide_eq_false (by omega), if_neg (by decide)]
  unfold wrap64
  omega

end Go.Proofs.YtfanggjinedafabDoor
