/- Long division, plainly. -/
import Derived.Test.YtdhimkpfnhoagaaGreatDoorWh41
import Derived.Test.YtdhimkpfnhoagaaGreatDoorWh21
import Derived.Test.YtdhimkpfnhoagaaGreatDoorWh17
namespace Go.Proofs.YtdhimkpfnhoagaaGreatDoor
open Go.ChangeShapes Go.WideShapes Go.ChangeAt Go.RowKit
set_option linter.unusedVariables false
set_option linter.unusedSimpArgs false

theorem dg_shift (A j i : Nat) : dg (A / 2 ^ (30 * j)) i = dg A (j + i) := by
  unfold dg
  rw [Nat.div_div_eq_div_mul, ← Nat.pow_add, ← Nat.mul_add]
theorem dg_cons_zero (R d : Nat) (hd : d < 1073741824) : dg (R * 1073741824 + d) 0 = d := by
  unfold dg
  rw [Nat.mul_zero, Nat.pow_zero, Nat.div_one]
  omega
theorem dg_cons_succ (R d i : Nat) (hd : d < 1073741824) : dg (R * 1073741824 + d) (i + 1) = dg R i := by
  unfold dg
  rw [show 30 * (i + 1) = 30 + 30 * i by omega, Nat.pow_add, ← Nat.div_div_eq_div_mul, show (R * 1073741824 + d) / 2 ^ 30 = R by rw [show (2 : Nat) ^ 30 = 1073741824 by decide]; omega]
theorem low_two (A : Nat) : A = (A / 2 ^ (30 * 2) * 1073741824 + dg A 1) * 1073741824 + dg A 0 := by
  unfold dg
  rw [show 30 * 2 = 30 + 30 by decide, show 30 * 1 = 30 by decide, Nat.mul_zero, Nat.pow_zero, Nat.div_one, Nat.pow_add, ← Nat.div_div_eq_div_mul, show (2 : Nat) ^ 30 = 1073741824 by decide]
  omega
theorem long_div_aux (B A U H d1 d0 q0 R0 q1 R1 q2 R2 : Nat) (hA : A = (H * B + d1) * B + d0) (h0 : H = q0 * U + R0) (h1 : R0 * B + d1 = q1 * U + R1) (h2 : R1 * B + d0 = q2 * U + R2) : A = ((q0 * B + q1) * B + q2) * U + R2 := by
  calc A = (H * B + d1) * B + d0 := hA
    _ = (q0 * U * B + (R0 * B + d1)) * B + d0 := by rw [h0, Nat.add_mul (q0 * U) R0 B, Nat.add_assoc]
    _ = (q0 * U * B + q1 * U + R1) * B + d0 := by rw [h1, Nat.add_assoc]
    _ = (q0 * U * B + q1 * U) * B + (R1 * B + d0) := by rw [Nat.add_mul (q0 * U * B + q1 * U) R1 B, Nat.add_assoc]
    _ = (q0 * U * B + q1 * U) * B + (q2 * U + R2) := by rw [h2]
    _ = ((q0 * B + q1) * B + q2) * U + R2 := by
      rw [← Nat.add_assoc]
      congr 1
      rw [Nat.add_mul ((q0 * B + q1) * B) q2 U]
      congr 1
      rw [Nat.mul_right_comm q0 U B, ← Nat.add_mul, Nat.mul_right_comm]
theorem long_div (A U q0 R0 q1 R1 q2 R2 : Nat) (hU : 0 < U) (h0 : A / 2 ^ (30 * 2) = q0 * U + R0) (h1 : R0 * 1073741824 + dg A 1 = q1 * U + R1) (h2 : R1 * 1073741824 + dg A 0 = q2 * U + R2) (hR : R2 < U) : A / U = (q0 * 1073741824 + q1) * 1073741824 + q2 ∧ A % U = R2 := by
  have e := long_div_aux 1073741824 A U _ _ _ q0 R0 q1 R1 q2 R2 (low_two A) h0 h1 h2
  rw [e, Nat.mul_comm]
  exact ⟨by rw [Nat.mul_add_div hU, Nat.div_eq_of_lt hR, Nat.add_zero], by rw [Nat.mul_add_mod, Nat.mod_eq_of_lt hR]⟩
theorem rest_step (R i : Nat) : decide (R % 2 ^ (30 * (i + 1)) ≠ 0) = (decide (R % 2 ^ (30 * i) ≠ 0) || decide (dg R i ≠ 0)) := by
  rw [dg_mod, ← Bool.decide_or]
  congr 1
  apply propext
  have hp := Nat.two_pow_pos (30 * i)
  constructor
  · intro h
    apply Decidable.byContradiction
    intro hn
    have h1 : R % 2 ^ (30 * i) = 0 := by omega
    have h2 : dg R i = 0 := by omega
    rw [h1, h2] at h
    exact h (by simp)
  · rintro (h | h)
    · omega
    · have : 2 ^ (30 * i) ≤ 2 ^ (30 * i) * dg R i := Nat.le_mul_of_pos_right _ (by omega)
      omega
theorem flo_div (v : Nat) (t : Int) (j : Nat) : flo v t / 2 ^ j = flo v (t - (j : Int)) := by
  unfold flo
  by_cases h : 0 ≤ t - (j : Int)
  · rw [if_pos h, if_pos (by omega), show t.toNat = (t - (j : Int)).toNat + j by omega, Nat.pow_add, ← Nat.mul_assoc, Nat.mul_div_cancel _ (Nat.two_pow_pos _)]
  · rw [if_neg h]
    by_cases h1 : 0 ≤ t
    · rw [if_pos h1]
      have : (2 : Nat) ^ j = 2 ^ t.toNat * 2 ^ (-(t - (j : Int))).toNat := by rw [← Nat.pow_add]; congr 1; omega
      rw [this, Nat.mul_comm v, Nat.mul_div_mul_left _ _ (Nat.two_pow_pos _)]
    · rw [if_neg h1, Nat.div_div_eq_div_mul, ← Nat.pow_add]
      congr 2
      omega

theorem or_head (q h : Nat) (hq : q < 1073741824) (hh : h < 2147483648) : IntKind.i64.wrap ((h : Int) * 1073741824) = ((h * 1073741824 : Nat) : Int) ∧ bits .or .i64 ((h * 1073741824 : Nat) : Int) (q : Int) = ((h * 1073741824 + q : Nat) : Int) := by
  have e : (2 : Nat) ^ 30 = 1073741824 := by decide
  constructor
  · rw [wrap_i64]; omega
  · have := or_low q h 30 (by rw [e]; exact hq) (by rw [e]; omega)
    rw [e, Nat.add_comm q] at this
    exact this
theorem or_head2 (q h : Nat) (hq : q < 1073741824) (hh : h < 2147483648) : ∃ G H : Nat, IntKind.i64.wrap ((h : Int) * 1073741824) = (G : Int) ∧ bits .or .i64 (G : Int) (q : Int) = (H : Int) ∧ G = h * 1073741824 ∧ H = G + q := by
  obtain ⟨h1, h2⟩ := or_head q h hq hh
  exact ⟨h * 1073741824, h * 1073741824 + q, h1, h2, rfl, rfl⟩
theorem or_zero (q : Nat) (hq : q < 1073741824) : bits .or .i64 0 (q : Int) = (q : Int) := by
  obtain ⟨h1, h2⟩ := or_head q 0 hq (by decide)
  rw [Nat.zero_mul, Nat.zero_add] at h2
  exact h2
structure Q3z (A U n X0 Q0 R0 X1 Q1 R1 X2 Q2 R2 G0 H1 G1 H2 : Nat) : Prop where
  x0 : A / 2 ^ (30 * 2) = X0
  x0b : X0 < 2 ^ (30 * (n + 1))
  x0u : X0 < U * 4294967296
  q0 : X0 / U = Q0
  r0 : X0 % U = R0
  x1 : R0 * 1073741824 + dg A 1 = X1
  x1b : X1 < 2 ^ (30 * (n + 1))
  x1u : X1 < U * 4294967296
  q1 : X1 / U = Q1
  r1 : X1 % U = R1
  x2 : R1 * 1073741824 + dg A 0 = X2
  x2b : X2 < 2 ^ (30 * (n + 1))
  x2u : X2 < U * 4294967296
  q2 : X2 / U = Q2
  r2 : X2 % U = R2
  s1 : IntKind.i64.wrap ((Q0 : Int) * 1073741824) = (G0 : Int)
  s2 : bits .or .i64 (G0 : Int) (Q1 : Int) = (H1 : Int)
  s3 : IntKind.i64.wrap ((H1 : Int) * 1073741824) = (G1 : Int)
  s4 : bits .or .i64 (G1 : Int) (Q2 : Int) = (H2 : Int)
  zz : bits .or .i64 0 (Q0 : Int) = (Q0 : Int)
  dv : A / U = H2
  rm : A % U = R2
  r2b : R2 < 2 ^ (30 * n)
theorem x_small (R d U P : Nat) (hR : R < U) (hd : d < 1073741824) (hU : U < P) : R * 1073741824 + d < U * 1073741824 ∧ R * 1073741824 + d < P * 1073741824 := by omega
theorem q3z_ex (A U n : Nat) (hU0 : 0 < U) (hU : U < 2 ^ (30 * n)) (hX : A / 2 ^ (30 * 2) < 2 * U) : ∃ X0 Q0 R0 X1 Q1 R1 X2 Q2 R2 G0 H1 G1 H2, Q3z A U n X0 Q0 R0 X1 Q1 R1 X2 Q2 R2 G0 H1 G1 H2 := by
  obtain ⟨X0, hX0⟩ : ∃ X0, A / 2 ^ (30 * 2) = X0 := ⟨_, rfl⟩
  obtain ⟨Q0, hQ0⟩ : ∃ Q0, X0 / U = Q0 := ⟨_, rfl⟩
  obtain ⟨R0, hR0⟩ : ∃ R0, X0 % U = R0 := ⟨_, rfl⟩
  obtain ⟨X1, hX1⟩ : ∃ X1, R0 * 1073741824 + dg A 1 = X1 := ⟨_, rfl⟩
  obtain ⟨Q1, hQ1⟩ : ∃ Q1, X1 / U = Q1 := ⟨_, rfl⟩
  obtain ⟨R1, hR1⟩ : ∃ R1, X1 % U = R1 := ⟨_, rfl⟩
  obtain ⟨X2, hX2⟩ : ∃ X2, R1 * 1073741824 + dg A 0 = X2 := ⟨_, rfl⟩
  obtain ⟨Q2, hQ2⟩ : ∃ Q2, X2 / U = Q2 := ⟨_, rfl⟩
  obtain ⟨R2, hR2⟩ : ∃ R2, X2 % U = R2 := ⟨_, rfl⟩
  have r0l : R0 < U := by rw [← hR0]; exact Nat.mod_lt _ hU0
  have r1l : R1 < U := by rw [← hR1]; exact Nat.mod_lt _ hU0
  have r2l : R2 < U := by rw [← hR2]; exact Nat.mod_lt _ hU0
  rw [hX0] at hX
  obtain ⟨b1, c1⟩ := x_small R0 (dg A 1) U _ r0l (dg_lt A 1) hU
  obtain ⟨b2, c2⟩ := x_small R1 (dg A 0) U _ r1l (dg_lt A 0) hU
  rw [hX1] at b1 c1
  rw [hX2] at b2 c2
  have q0l : Q0 < 2 := by rw [← hQ0, Nat.div_lt_iff_lt_mul hU0]; exact hX
  have q1l : Q1 < 1073741824 := by rw [← hQ1, Nat.div_lt_iff_lt_mul hU0, Nat.mul_comm]; exact b1
  have q2l : Q2 < 1073741824 := by rw [← hQ2, Nat.div_lt_iff_lt_mul hU0, Nat.mul_comm]; exact b2
  have hdiv : A / U = (Q0 * 1073741824 + Q1) * 1073741824 + Q2 ∧ A % U = R2 := by
    refine long_div A U Q0 R0 Q1 R1 Q2 R2 hU0 ?_ ?_ ?_ r2l
    · rw [hX0, ← hQ0, ← hR0, Nat.mul_comm]; exact (Nat.div_add_mod _ _).symm
    · rw [hX1, ← hQ1, ← hR1, Nat.mul_comm]; exact (Nat.div_add_mod _ _).symm
    · rw [hX2, ← hQ2, ← hR2, Nat.mul_comm]; exact (Nat.div_add_mod _ _).symm
  have hp3 : 2 ^ (30 * (n + 1)) = 2 ^ (30 * n) * 1073741824 := pow30k n
  obtain ⟨G0, H1, s1, s2, eG0, eH1⟩ := or_head2 Q1 Q0 q1l (by omega)
  obtain ⟨G1, H2, s3, s4, eG1, eH2⟩ := or_head2 Q2 H1 q2l (by omega)
  have s6 := or_zero Q0 (by omega)
  have hd1 : A / U = H2 := by
    rw [hdiv.1, eH2, eG1, eH1, eG0]
  have hbig : U * 1073741824 ≤ U * 4294967296 := Nat.mul_le_mul_left _ (by decide)
  have h2u : 2 * U ≤ U * 4294967296 := by rw [Nat.mul_comm]; exact Nat.mul_le_mul_left _ (by decide)
  have h2p : 2 * U ≤ 2 ^ (30 * n) * 1073741824 := by
    rw [Nat.mul_comm]; exact Nat.mul_le_mul (Nat.le_of_lt hU) (by decide)
  have f1 : X0 < 2 ^ (30 * (n + 1)) := by rw [hp3]; exact Nat.lt_of_lt_of_le hX h2p
  have f2 : X1 < 2 ^ (30 * (n + 1)) := by rw [hp3]; exact c1
  have f3 : X2 < 2 ^ (30 * (n + 1)) := by rw [hp3]; exact c2
  have f4 : X0 < U * 4294967296 := Nat.lt_of_lt_of_le hX h2u
  have f5 : X1 < U * 4294967296 := Nat.lt_of_lt_of_le b1 hbig
  have f6 : X2 < U * 4294967296 := Nat.lt_of_lt_of_le b2 hbig
  have f7 : R2 < 2 ^ (30 * n) := Nat.lt_trans r2l hU
  have f8 := hdiv.2
  exact ⟨X0, Q0, R0, X1, Q1, R1, X2, Q2, R2, G0, H1, G1, H2, Q3z.mk hX0 f1 f4 hQ0 hR0 hX1 f2 f5 hQ1 hR1 hX2 f3 f6 hQ2 hR2 s1 s2 s3 s4 s6 hd1 f8 f7⟩
theorem getD_snoc (L : List Int) (d : Int) (i : Nat) : (L ++ [d]).getD i 0 = if i < L.length then L.getD i 0 else if i = L.length then d else 0 := by
  simp only [List.getD_eq_getElem?_getD]
  by_cases h : i < L.length
  · rw [if_pos h, List.getElem?_append_left h]
  · rw [if_neg h, List.getElem?_append_right (by omega)]
    by_cases h2 : i = L.length
    · rw [if_pos h2, h2, Nat.sub_self]
      rfl
    · rw [if_neg h2]
      obtain ⟨j, hj⟩ : ∃ j, i - L.length = j + 1 := ⟨i - L.length - 1, by omega⟩
      rw [hj]
      rfl
end Go.Proofs.YtdhimkpfnhoagaaGreatDoor
