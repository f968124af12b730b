/- The rows of a matrix gone over: rowsOf and its function; Turn. -/
import Derived.Test.YtcjgdfnbjbboeaaWr25
import Derived.Test.YtcjgdfnbjbboeaaWr22
import Derived.RangeFuncNested
import Derived.RangeFuncBound
import Derived.RangeFuncCalls
import Derived.RangeFuncLeaves
import Derived.RangeFuncBox
import Derived.Shelf.Abstract
import Derived.Shelf.RegionOpen
import Derived.WalkKit
import Derived.OwnWalkIn
import Derived.TacticsInMore
import Derived.LoopNIn
import Derived.LoopIn
namespace Go.Proofs.Ytcjgdfnbjbboeaa
open Go.ChangeShapes Go.WideShapes Go.ChangeAt Go.RowKit Go.Shelf
set_option linter.unusedVariables false
set_option linter.unusedSimpArgs false
attribute [local go_sem] Oper.semAt_some

theorem Kept.grownNone {a b : World} (h : Kept a b) : a.grownBy b none := ⟨h.below.os, h.below.tape, h.below.output, h.below.size, fun k hk _ => h.below.block k hk⟩

/-- What has come when k rounds are over. -/
def uptoF (R k : Nat) (hk : k ≤ R) : List (Fin R) := (List.finRange k).map (Fin.castLE hk)
theorem uptoF_length (R k : Nat) (hk : k ≤ R) : (uptoF R k hk).length = k := by simp [uptoF]
theorem uptoF_succ (R k : Nat) (hk : k + 1 ≤ R) : uptoF R (k + 1) hk = uptoF R k (by omega) ++ [⟨k, by omega⟩] := by
  simp only [uptoF, List.finRange_succ_last, List.map_append, List.map_map, List.map_cons, List.map_nil]
  rfl
theorem uptoF_all (R : Nat) : uptoF R R (Nat.le_refl _) = List.finRange R := by
  simp only [uptoF]
  have : (Fin.castLE (Nat.le_refl R)) = id := by funext x; rfl
  rw [this, List.map_id]

/-- A block of cells abides what the loop's own book-keeping turns. -/
theorem abid_block {W W' : World} {row : Option Nat} (hg : W.grownBy W' row) {B : Nat} (hr : ∀ r, row = some r → B ≤ r ∧ ∃ o : Obj, W.heap[r]? = some o ∧ o.isCells = false) {k : Nat} {o : Obj} (h : W.heap[k]? = some o) (ho : o.isCells = true) : W'.heap[k]? = some o := by
  have hlt := (Array.getElem?_eq_some_iff.1 h).1
  refine (hg.block k hlt ?_).trans h
  intro e
  obtain ⟨-, o', h', h''⟩ := hr k e.symm
  rw [h] at h'
  cases h'
  rw [ho] at h''
  cases h''
theorem Own.abid {W W' : World} {row : Option Nat} {g cap : Nat} {L : List Int} (h : Own W g cap L) (hg : W.grownBy W' row) {B : Nat} (hr : ∀ r, row = some r → B ≤ r ∧ ∃ o : Obj, W.heap[r]? = some o ∧ o.isCells = false) : Own W' g cap L := by
  obtain ⟨cur, hc, rest⟩ := h
  exact ⟨cur, abid_block hg hr hc rfl, rest⟩
end Go.Proofs.Ytcjgdfnbjbboeaa
