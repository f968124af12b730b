/- Words mixed: as whole numbers below 2^64. No two words become one; every number below 2^64 is some place's word; how many words are passed over; a shuffle as a list. A shuffle holds each number once; how far it takes the row; what is picked of it, rising. DERIVED: THE SHELF's CONTRACTS AT THIS DUMP, IN PLAIN WORDS (tools/lay-plain.mjs out of 'YtcjgdfnbjbboeaaSf.lean', which tools/lay-shelf.mjs wrote): THE SAME DECLARATIONS UNDER THE SAME NAMES: 'import', 'namespace', 'open', 'def', 'theorem' AND NOTHING ELSE: no command of the shelf's: FOR A HAND-IN. Each laying: the table of numbers ('.._ren') and one theorem, a field a fact of the dump's own or the kernel's comparison; each contract: ONE APPLICATION. slices.Sort at []int: the library's own contract, over a list of one's own. An epoch's order, dealt out in batches: each number comes once. -/
import Derived.Laws.Bits64b
import Derived.Shelf.Sort.Plain
import Derived.Test.YtcjgdfnbjbboeaaProg
import Derived.Test.YtcjgdfnbjbboeaaWr09
import Derived.Sort.OwnSortedInts
namespace Go.Proofs.Ytcjgdfnbjbboeaa
set_option linter.unusedVariables false

theorem least (P : Nat → Prop) (n : Nat) (h : P n) : ∃ j, (∀ i, i < j → ¬ P i) ∧ P j := by
  induction n using Nat.strongRecOn with
  | ind n ih =>
    by_cases hx : ∃ i, i < n ∧ P i
    · obtain ⟨i, hi, hP⟩ := hx; exact ih i hi hP
    · exact ⟨n, fun i hi hp => hx ⟨i, hi, hp⟩, h⟩

end Go.Proofs.Ytcjgdfnbjbboeaa

namespace Go.Proofs.Ytcjgdfnbjbboeaa
set_option linter.unusedVariables false

theorem getDset (l : List Int) (i x : Nat) (v : Int) (hi : i < l.length) : (l.set i v).getD x 0 = if x = i then v else l.getD x 0 := by
  rw [List.getD_eq_getElem?_getD, List.getD_eq_getElem?_getD, List.getElem?_set]
  by_cases h : x = i
  · subst h; simp [hi]
  · rw [if_neg (fun e => h e.symm), if_neg h]

end Go.Proofs.Ytcjgdfnbjbboeaa

namespace Go.Proofs
open Go.Shelf
end Go.Proofs

namespace Go.Proofs.Ytcjgdfnbjbboeaa
open Go.ChangeShapes Go.WideShapes Go.ChangeAt Go.RowKit Go.Sort
set_option linter.unusedVariables false

end Go.Proofs.Ytcjgdfnbjbboeaa

namespace Go.Proofs.Ytcjgdfnbjbboeaa
open Go.ChangeShapes Go.WideShapes Go.ChangeAt Go.RowKit Go.Sort
set_option linter.unusedVariables false

/-- so many from a place on -/
def bpt (l : List Int) (f k : Nat) : List Int := (l.drop f).take k
theorem bpt_len (l : List Int) (f k : Nat) (h : f + k ≤ l.length) : (bpt l f k).length = k := by
  unfold bpt
  rw [List.length_take, List.length_drop]
  omega
/-- Marks: those of S have 1, the others 0. -/
structure Ct (n : Nat) (S A : List Int) : Prop where
  len : A.length = n
  one : ∀ x : Nat, x < n → (x : Int) ∈ S → A.getD x 0 = 1
  zero : ∀ x : Nat, x < n → ¬ (x : Int) ∈ S → A.getD x 0 = 0
theorem Ct.step {n : Nat} {S A : List Int} (h : Ct n S A) (y : Nat) (hy : y < n) (hS : ¬ (y : Int) ∈ S) : A.getD y 0 = 0 ∧ Ct n (S ++ [(y : Int)]) (A.set y 1) := by
  have hl := h.len
  refine ⟨h.zero y hy hS, by simpa using hl, fun x hx hm => ?_, fun x hx hm => ?_⟩
  · rw [getDset _ _ _ _ (by omega)]
    split
    · rfl
    · rename_i e
      refine h.one x hx ?_
      rcases List.mem_append.1 hm with h1 | h1
      · exact h1
      · have : (x : Int) = y := by simpa using h1
        omega
  · rw [getDset _ _ _ _ (by omega)]
    have h1 : ¬ (x : Int) ∈ S := fun h => hm (List.mem_append.2 (.inl h))
    have h2 : x ≠ y := fun e => hm (List.mem_append.2 (.inr (by rw [e]; simp)))
    rw [if_neg h2]
    exact h.zero x hx h1
theorem Ct.same {n : Nat} {S S' A : List Int} (h : Ct n S A) (e : ∀ x, x ∈ S ↔ x ∈ S') : Ct n S' A := ⟨h.len, fun x hx hm => h.one x hx ((e _).2 hm), fun x hx hm => h.zero x hx (fun h1 => hm ((e _).1 h1))⟩
/- a part of a list of one's own, sorted -/
end Go.Proofs.Ytcjgdfnbjbboeaa
