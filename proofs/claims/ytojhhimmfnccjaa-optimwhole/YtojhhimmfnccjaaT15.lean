/- The document's NaN, Finite, Clean, Check; Finite of package tensor. -/
import Derived.Test.YtojhhimmfnccjaaT3
import Derived.Test.YtojhhimmfnccjaaT7
namespace Go.Proofs.Ytojhhimmfnccjaa
open Go.ChangeShapes Go.WideShapes Go.ChangeAt Go.RowKit
set_option linter.unusedVariables false
set_option linter.unusedSimpArgs false

theorem ckM_val {r c n : Int} {L : List Int} (h0 : ckS r c n = 0) (hl : (L.length : Int) = r * c) : ((∀ i, i < L.length → val (L.getD i 0) n = true) → ckM r c n L = 0) ∧ ∀ i, i < L.length → val (L.getD i 0) n = false → ckM r c n L = 6 := by
  have hq : ckM r c n L = if (L.all fun b => val b n) = true then 0 else 6 := by unfold ckM; rw [if_neg (fun k => k h0), if_neg (fun k => k hl)]
  constructor
  · intro h
    rw [hq, if_pos]
    rw [List.all_eq_true]
    intro x hx
    obtain ⟨i, hi, rfl⟩ := List.getElem_of_mem hx
    have := h i hi
    rwa [List.getD_eq_getElem?_getD, List.getElem?_eq_getElem hi] at this
  · intro i hi h
    rw [hq, if_neg]
    intro ha
    have := List.all_eq_true.1 ha _ (List.getElem_mem hi)
    rw [List.getD_eq_getElem?_getD, List.getElem?_eq_getElem hi] at h
    simp at h
    rw [h] at this
    cases this

end Go.Proofs.Ytojhhimmfnccjaa
