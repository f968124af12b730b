/- The rows of a matrix gone over: rowsOf and its function; Turn. -/
import Derived.Test.YthjcofdcbinliaaT2
import Derived.Test.YthjcofdcbinliaaT3
import Derived.RangeFuncNested
import Derived.RangeFuncBound
import Derived.RangeFuncCalls
import Derived.RangeFuncLeaves
import Derived.RangeFuncBox
import Derived.Shelf.Abstract
import Derived.Shelf.RegionOpen
import Derived.WalkKit
import Derived.OwnWalkIn
import Derived.TacticsInMore
import Derived.LoopNIn
import Derived.LoopIn
namespace Go.Proofs.Ythjcofdcbinliaa
open Go.ChangeShapes Go.WideShapes Go.ChangeAt Go.RowKit Go.Shelf
set_option linter.unusedVariables false
set_option linter.unusedSimpArgs false
attribute [local go_sem] Oper.semAt_some

theorem Kept.grownNone {a b : World} (h : Kept a b) : a.grownBy b none := ⟨h.below.os, h.below.tape, h.below.output, h.below.size, fun k hk _ => h.below.block k hk⟩

/-- What has come when k rounds are over. -/
def uptoF (R k : Nat) (hk : k ≤ R) : List (Fin R) := (List.finRange k).map (Fin.castLE hk)
theorem uptoF_length (R k : Nat) (hk : k ≤ R) : (uptoF R k hk).length = k := by simp [uptoF]
theorem uptoF_succ (R k : Nat) (hk : k + 1 ≤ R) : uptoF R (k + 1) hk = uptoF R k (by omega) ++ [⟨k, by omega⟩] := by
  simp only [uptoF, List.finRange_succ_last, List.map_append, List.map_map, List.map_cons, List.map_nil]
  rfl
theorem uptoF_all (R : Nat) : uptoF R R (Nat.le_refl _) = List.finRange R := by
  simp only [uptoF]
  have : (Fin.castLE (Nat.le_refl R)) = id := by funext x; rfl
  rw [this, List.map_id]

/-- A row, as it is handed to the loop. -/
abbrev rowV (b off C : Nat) (x : Nat) : Array Value := #[.int .i64 (x : Int), .slice (some ⟨b, off + x * C, none⟩) C C]

set_option maxRecDepth 100000 in
/-- All blocks but g lie as they lay. -/
theorem grown_set {A B : World} {g : Nat} (h : A.grownBy B (some g)) (j : Nat) (u : Value) : A.grownBy (B.setCell ⟨g, j, none⟩ u) (some g) :=
  ⟨h.os, h.tape, h.output, by simpa using h.size, fun i hi hne => (Below.heap_setCell B ⟨g, j, none⟩ u i (fun e => hne (by rw [e]))).trans (h.block i hi hne)⟩
theorem grown_trans {A B C : World} {g : Nat} (h : A.grownBy B (some g)) (k : B.grownBy C (some g)) : A.grownBy C (some g) :=
  ⟨k.os.trans h.os, k.tape.trans h.tape, k.output.trans h.output, Nat.le_trans h.size k.size, fun i hi hne => (k.block i (Nat.lt_of_lt_of_le hi h.size) hne).trans (h.block i hi hne)⟩
theorem grown_m4 {A B : World} {g : Nat} (h : A.grownBy B (some g)) {k : Nat} {r c n s : Value} (hM : M4 A k r c n s) (hne : k ≠ g) : M4 B k r c n s := by
  have hb := h.block k hM.lt (by simpa using hne)
  exact ⟨(World.cell?_of_block (w := A) (a := ⟨k, 0, none⟩) hb).trans hM.c0, (World.cell?_of_block (w := A) (a := ⟨k, 1, none⟩) hb).trans hM.c1, (World.cell?_of_block (w := A) (a := ⟨k, 2, none⟩) hb).trans hM.c2, (World.cell?_of_block (w := A) (a := ⟨k, 3, none⟩) hb).trans hM.c3⟩
theorem grown_cell {A B : World} {g : Nat} (h : A.grownBy B (some g)) {k o : Nat} (hk : k < A.heap.size) (hne : k ≠ g) : B.cell? ⟨k, o, none⟩ = A.cell? ⟨k, o, none⟩ :=
  World.cell?_of_block (w := A) (a := ⟨k, o, none⟩) (h.block k hk (by simpa using hne))
theorem grown_frozen {A B : World} {g : Nat} (h : A.grownBy B (some g)) {k o : Nat} (hk : k < A.heap.size) (hne : k ≠ g) : B.frozen? ⟨k, o, none⟩ = A.frozen? ⟨k, o, none⟩ :=
  World.frozen?_of_block (w := A) (a := ⟨k, o, none⟩) (h.block k hk (by simpa using hne))
/-- A block of cells abides what the loop's own book-keeping turns. -/
theorem abid_block {W W' : World} {row : Option Nat} (hg : W.grownBy W' row) {B : Nat} (hr : ∀ r, row = some r → B ≤ r ∧ ∃ o : Obj, W.heap[r]? = some o ∧ o.isCells = false) {k : Nat} {o : Obj} (h : W.heap[k]? = some o) (ho : o.isCells = true) : W'.heap[k]? = some o := by
  have hlt := (Array.getElem?_eq_some_iff.1 h).1
  refine (hg.block k hlt ?_).trans h
  intro e
  obtain ⟨-, o', h', h''⟩ := hr k e.symm
  rw [h] at h'
  cases h'
  rw [ho] at h''
  cases h''
theorem Own.abid {W W' : World} {row : Option Nat} {g cap : Nat} {L : List Int} (h : Own W g cap L) (hg : W.grownBy W' row) {B : Nat} (hr : ∀ r, row = some r → B ≤ r ∧ ∃ o : Obj, W.heap[r]? = some o ∧ o.isCells = false) : Own W' g cap L := by
  obtain ⟨cur, hc, rest⟩ := h
  exact ⟨cur, abid_block hg hr hc rfl, rest⟩
theorem grown_abid {A W W' : World} {row : Option Nat} {g : Nat} (h : A.grownBy W (some g)) (hg : W.grownBy W' row) (hr : ∀ r, row = some r → A.heap.size ≤ r ∧ ∃ o : Obj, W.heap[r]? = some o ∧ o.isCells = false) : A.grownBy W' (some g) :=
  ⟨hg.os.trans h.os, hg.tape.trans h.tape, hg.output.trans h.output, Nat.le_trans h.size hg.size, fun i hi hne => (hg.block i (Nat.lt_of_lt_of_le hi h.size) (fun e => by have := (hr i e.symm).1; omega)).trans (h.block i hi hne)⟩

/-- A list by its places. -/
def lst (n : Nat) (f : Nat → Int) : List Int := (List.range n).map f
theorem lst_length (n : Nat) (f : Nat → Int) : (lst n f).length = n := by simp [lst]
theorem lst_get (n : Nat) (f : Nat → Int) (i : Nat) (h : i < n) : (lst n f).getD i 0 = f i := by simp [lst, List.getD_eq_getElem?_getD, h]
theorem lst_ext (n : Nat) (f g : Nat → Int) (h : ∀ i, i < n → f i = g i) : lst n f = lst n g := by
  apply List.ext_getElem
  · simp [lst]
  · intro i h1 h2
    simp [lst] at h1 ⊢
    exact h i h1
theorem lst_set (n : Nat) (f : Nat → Int) (i : Nat) (d : Int) : (lst n f).set i d = lst n (fun j => if j = i then d else f j) := by
  apply List.ext_getElem
  · simp [lst]
  · intro j h1 h2
    simp only [lst, List.getElem_set, List.getElem_map, List.getElem_range]
    by_cases h : i = j
    · rw [if_pos h, if_pos h.symm]
    · rw [if_neg h, if_neg (fun e => h e.symm)]
theorem lst_zero (n : Nat) : lst n (fun _ => 0) = List.replicate n 0 := by
  apply List.ext_getElem
  · simp [lst]
  · intro j h1 h2
    simp [lst]
end Go.Proofs.Ythjcofdcbinliaa
