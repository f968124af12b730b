/- A few values: 6 by 2, 1, 3, and 1 - 3. -/
import Derived.Test.YtbfjnihjookkjaaDoorD16
namespace Go.Proofs.YtbfjnihjookkjaaDoor
open Go.RowKit

theorem digs_small (n : Nat) (h0 : n ≠ 0) (h : n < 1073741824) : digs n = [(n : Int)] := by
  rw [digs_pos n h0, Nat.mod_eq_of_lt h, Nat.div_eq_of_lt h, digs_zero]
theorem frm_6 : frm true (nv [6]) (-1) = some ⟨true, [3], 0⟩ := by
  have e : nv [6] = 6 := by decide
  have t : tzn 6 = 1 := by rw [tzn_even 6 (by decide) (by decide), tzn_odd _ (by decide)]
  have b : bl 6 = 3 := by decide
  have d : digs (6 / 2 ^ 1) = [3] := digs_small 3 (by decide) (by decide)
  have w : wrap64 (-1 + ((1 : Nat) : Int)) = 0 := by unfold wrap64; decide
  unfold frm
  rw [e, t, b, d, w, if_neg (by decide), if_pos (by decide)]
theorem frm_1 : frm (decide ((1 : Int) < 0)) (1 : Int).natAbs 0 = some ⟨false, [1], 0⟩ := by
  have t : tzn 1 = 0 := tzn_odd _ (by decide)
  have b : bl 1 = 1 := by decide
  have d : digs (1 / 2 ^ 0) = [1] := digs_small 1 (by decide) (by decide)
  have w : wrap64 (0 + ((0 : Nat) : Int)) = 0 := by unfold wrap64; decide
  unfold frm
  rw [show (1 : Int).natAbs = 1 from rfl, t, b, d, w, if_neg (by decide), if_pos (by decide)]
  rfl
theorem frm_3 : frm (decide ((3 : Int) < 0)) (3 : Int).natAbs 0 = some ⟨false, [3], 0⟩ := by
  have t : tzn 3 = 0 := tzn_odd _ (by decide)
  have b : bl 3 = 2 := by decide
  have d : digs (3 / 2 ^ 0) = [3] := digs_small 3 (by decide) (by decide)
  have w : wrap64 (0 + ((0 : Nat) : Int)) = 0 := by unfold wrap64; decide
  unfold frm
  rw [show (3 : Int).natAbs = 3 from rfl, t, b, d, w, if_neg (by decide), if_pos (by decide)]
  rfl
theorem addN_31 : addN ⟨true, [3], 0⟩ ⟨false, [1], 0⟩ = some ⟨true, [1], 1⟩ := by
  have e1 : nv [3] = 3 := by decide
  have e2 : nv [1] = 1 := by decide
  have b1 : bl 3 = 2 := by decide
  have b2 : bl 1 = 1 := by decide
  have t : tzn 2 = 1 := by rw [tzn_even 2 (by decide) (by decide), tzn_odd _ (by decide)]
  have b : bl 2 = 2 := by decide
  have d : digs (2 / 2 ^ 1) = [1] := digs_small 1 (by decide) (by decide)
  have w : wrap64 (min 0 0 + ((1 : Nat) : Int)) = 1 := by unfold wrap64; decide
  unfold addN tp tot frm
  dsimp only
  rw [e1, e2, b1, b2]
  have s : sg true (((3 : Nat) : Int) * 2 ^ ((0 : Int) - min 0 0).toNat) + sg false (((1 : Nat) : Int) * 2 ^ ((0 : Int) - min 0 0).toNat) = -2 := by decide
  rw [s, show (-2 : Int).natAbs = 2 from rfl, t, b, d, w, if_pos (by decide), if_neg (by decide), if_pos (by decide)]
  rfl
end Go.Proofs.YtbfjnihjookkjaaDoor
