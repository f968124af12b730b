/- slices.Sort at []int: the library's own contract, over a list of one's own. -/
import Derived.Test.YtedghjededicpaaU1
import Derived.Shelf.Sort.Plain
import Derived.Test.YtedghjededicpaaSf
import Derived.Sort.OwnSortedInts
namespace Go.Proofs.Ytedghjededicpaa
open Go.ChangeShapes Go.WideShapes Go.ChangeAt Go.RowKit Go.Sort
set_option linter.unusedVariables false

def srt (L : List Int) : List Int := L.mergeSort fun x y => decide (x ≤ y)
theorem srt_length (L : List Int) : (srt L).length = L.length := by unfold srt; simp

theorem sort_own (L : List Int) (hlen : L.length < 100000000) (g c : Nat) (w : World) (h : Own w g c L) : Calls Try.prog 17 #[.slice (some ⟨g, 0, none⟩) L.length c] w fun e w' => e = .returned (.tuple #[]) ∧ Own w' g c (srt L) ∧ w.grownBy w' (some g) := by
  have hl := h.lt
  obtain ⟨cur, hb, h1, h2, h3, h4⟩ := h
  have := Any.slices_Sort_int Try.lays189 g 0 c L w (holds_of_blockI hb h4) hl (by omega)
  refine Calls.mono this ?_
  rintro e w' ⟨rfl, n, os, rfl⟩
  have hs : (L.mergeSort fun x y => decide (x ≤ y)).length = L.length := by simp
  refine ⟨rfl, ⟨_, heap_sortedI _ hb, by rw [srt_length]; exact h1, h2, by simp [putCells, h3], ?_⟩, grownBy_sortedI _⟩
  rw [srt_length]
  have := take_putCellsI cur (L.mergeSort fun x y => decide (x ≤ y)) (by omega)
  rw [hs] at this
  exact this

end Go.Proofs.Ytedghjededicpaa
