/- The walk of exact's Quot at 1 by 3. A few values: 6 by 2, 1, 3, and 1 - 3. The walk of the laws' own test of life. -/
import Derived.Test.YtbffekcjdcihpaaGreatDoorD17
import Derived.Test.YtbffekcjdcihpaaGreatDoorQ4
import Derived.Test.YtbffekcjdcihpaaGreatDoorQ6
import Derived.Test.YtbffekcjdcihpaaGreatDoorPae
import Derived.Test.YtbffekcjdcihpaaGreatDoorPad
import Derived.Deep.Cut
namespace Go.Proofs.YtbffekcjdcihpaaGreatDoor
open Go.ChangeShapes Go.WideShapes Go.ChangeAt Go.RowKit
set_option maxHeartbeats 16000000
set_option maxRecDepth 100000
set_option linter.unusedVariables false
set_option linter.unusedSimpArgs false
theorem vld1 : vld ⟨false, [1], 0⟩ = true := by decide +kernel
theorem vld3 : vld ⟨false, [3], 0⟩ = true := by decide +kernel
end Go.Proofs.YtbffekcjdcihpaaGreatDoor
namespace Go.Proofs.YtbffekcjdcihpaaGreatDoor
open Go.RowKit
set_option maxHeartbeats 16000000
set_option maxRecDepth 100000
theorem digs_small (n : Nat) (h0 : n ≠ 0) (h : n < 1073741824) : digs n = [(n : Int)] := by
 rw [digs_pos n h0, Nat.mod_eq_of_lt h, Nat.div_eq_of_lt h, digs_zero]
theorem frm_6 : frm true (nv [6]) (-1) = some ⟨true, [3], 0⟩ := by
 have e : nv [6] = 6 := by decide
 have t : tzn 6 = 1 := by rw [tzn_even 6 (by decide) (by decide), tzn_odd _ (by decide)]
 have b : bl 6 = 3 := by decide
 have d : digs (6 / 2 ^ 1) = [3] := digs_small 3 (by decide) (by decide)
 have w : wrap64 (-1 + ((1 : Nat) : Int)) = 0 := by unfold wrap64; decide
 unfold frm
 rw [e, t, b, d, w, if_neg (by decide), if_pos (by decide)]
theorem frm_1 : frm (decide ((1 : Int) < 0)) (1 : Int).natAbs 0 = some ⟨false, [1], 0⟩ := by
 have t : tzn 1 = 0 := tzn_odd _ (by decide)
 have b : bl 1 = 1 := by decide
 have d : digs (1 / 2 ^ 0) = [1] := digs_small 1 (by decide) (by decide)
 have w : wrap64 (0 + ((0 : Nat) : Int)) = 0 := by unfold wrap64; decide
 unfold frm
 rw [show (1 : Int).natAbs = 1 from rfl, t, b, d, w, if_neg (by decide), if_pos (by decide)]
 rfl
theorem frm_3 : frm (decide ((3 : Int) < 0)) (3 : Int).natAbs 0 = some ⟨false, [3], 0⟩ := by
 have t : tzn 3 = 0 := tzn_odd _ (by decide)
 have b : bl 3 = 2 := by decide
 have d : digs (3 / 2 ^ 0) = [3] := digs_small 3 (by decide) (by decide)
 have w : wrap64 (0 + ((0 : Nat) : Int)) = 0 := by unfold wrap64; decide
 unfold frm
 rw [show (3 : Int).natAbs = 3 from rfl, t, b, d, w, if_neg (by decide), if_pos (by decide)]
 rfl
theorem addN_31 : addN ⟨true, [3], 0⟩ ⟨false, [1], 0⟩ = some ⟨true, [1], 1⟩ := by
 have e1 : nv [3] = 3 := by decide
 have e2 : nv [1] = 1 := by decide
 have b1 : bl 3 = 2 := by decide
 have b2 : bl 1 = 1 := by decide
 have t : tzn 2 = 1 := by rw [tzn_even 2 (by decide) (by decide), tzn_odd _ (by decide)]
 have b : bl 2 = 2 := by decide
 have d : digs (2 / 2 ^ 1) = [1] := digs_small 1 (by decide) (by decide)
 have w : wrap64 (min 0 0 + ((1 : Nat) : Int)) = 1 := by unfold wrap64; decide
 unfold addN tp tot frm
 dsimp only
 rw [e1, e2, b1, b2]
 have s : sg true (((3 : Nat) : Int) * 2 ^ ((0 : Int) - min 0 0).toNat) + sg false (((1 : Nat) : Int) * 2 ^ ((0 : Int) - min 0 0).toNat) = -2 := by decide
 rw [s, show (-2 : Int).natAbs = 2 from rfl, t, b, d, w, if_pos (by decide), if_neg (by decide), if_pos (by decide)]
 rfl
theorem vldx : vld ⟨true, [3], 0⟩ = true := by decide +kernel
theorem own_one (w : World) (a : Int) : Own (w.alloc (.cells #[.int .i64 a] 3)) w.heap.size 1 [a] :=
 ⟨_, heap_alloc_new w _, Nat.le_refl _, by simp [maxLen], by simp, by simp⟩
theorem New.some {w0 w : World} {v : Value} {neg : Bool} {d : Int} {x : Int} (h : New w0 w v ⟨neg, [d], x⟩) : ∃ g cap, v = .agg #[.bool neg, .slice (some ⟨g, 0, none⟩) 1 cap, .int .i64 x] ∧ w0.heap.size ≤ g ∧ Own w g cap [d] := by
 rcases h with ⟨h, -⟩ | ⟨g, cap, e, hg, ho, -⟩
 ·cases h
 ·exact ⟨g, cap, e, hg, ho⟩
end Go.Proofs.YtbffekcjdcihpaaGreatDoor
