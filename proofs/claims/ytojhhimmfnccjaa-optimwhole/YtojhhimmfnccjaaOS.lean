/- A list of which the first ones are made. -/
import Derived.Test.YtojhhimmfnccjaaOB
namespace Go.Proofs.Ytojhhimmfnccjaa
open Go.ChangeShapes Go.WideShapes Go.ChangeAt Go.RowKit
set_option linter.unusedVariables false
set_option linter.unusedSimpArgs false

/-- a list of N, of which the first k are made -/
def stl (N : Nat) (bt : Nat → Int) (k : Nat) : List Int := (List.range N).map fun j => if j < k then bt j else 0
theorem stl_len (N : Nat) (bt : Nat → Int) (k : Nat) : (stl N bt k).length = N := by simp [stl]
theorem stl_get (N : Nat) (bt : Nat → Int) (k j : Nat) (hj : j < N) : (stl N bt k).getD j 0 = if j < k then bt j else 0 := by
  unfold stl
  rw [List.getD_eq_getElem?_getD, List.getElem?_map, List.getElem?_range hj]
  rfl
theorem stl_set (N : Nat) (bt : Nat → Int) (k : Nat) (hk : k < N) : (stl N bt k).set k (bt k) = stl N bt (k + 1) := by
  apply List.ext_getElem
  · simp [stl]
  · intro j h1 h2
    have hj : j < N := by simpa [stl] using h2
    simp only [stl, List.getElem_set, List.getElem_map, List.getElem_range]
    by_cases e : k = j
    · subst e
      simp
    · rw [if_neg e]
      by_cases h : j < k
      · rw [if_pos h, if_pos (by omega)]
      · rw [if_neg h, if_neg (by omega)]
theorem stl_zero (N : Nat) (bt : Nat → Int) : stl N bt 0 = List.replicate N 0 := by
  apply List.ext_getElem
  · simp [stl]
  · intro j h1 h2
    simp [stl]
end Go.Proofs.Ytojhhimmfnccjaa
