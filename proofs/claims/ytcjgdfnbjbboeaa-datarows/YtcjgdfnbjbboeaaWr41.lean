/- The walks of mix, key, wordAt, Word, Next, Split of package rng, and of the document's own: for every draw. Next, Split: package rng's and the document's own. Words as numbers from 0 to 2^64 - 1. evenWord and Below: package rng's and the document's own: one number of words is passed over. Below: package rng's. order: package rng's. Shuffle: package rng's. Pick: package rng's. DataChecks. -/
import Derived.Test.YtcjgdfnbjbboeaaRows
import Derived.Test.YtcjgdfnbjbboeaaWr32
import Derived.Test.YtcjgdfnbjbboeaaWr02
import Derived.Deep.RegionHeld
import Derived.Test.YtcjgdfnbjbboeaaWr09
import Derived.RegionTactic
import Derived.ChangeAlike
import Derived.Deep.Cut
import Derived.Test.YtcjgdfnbjbboeaaWr39
import Derived.Test.YtcjgdfnbjbboeaaWr40
namespace Go.Proofs.Ytcjgdfnbjbboeaa
open Go.ChangeShapes Go.WideShapes Go.ChangeAt Go.RowKit
set_option linter.unusedVariables false

/-- A draw's three cells. -/
def Dr (w : World) (b : Nat) (s t a : Int) : Prop := w.cell? ⟨b, 0, none⟩ = some (.int .i64 s) ∧ w.cell? ⟨b, 1, none⟩ = some (.int .i64 t) ∧ w.cell? ⟨b, 2, none⟩ = some (.int .i64 a)

theorem Dr.kept {w w' : World} {b : Nat} {s t a : Int} (h : Dr w b s t a) (k : Kept w w') : Dr w' b s t a :=
  ⟨(k.below.cell (World.block_lt_of_cell? _ _ h.1)).trans h.1, (k.below.cell (World.block_lt_of_cell? _ _ h.2.1)).trans h.2.1, (k.below.cell (World.block_lt_of_cell? _ _ h.2.2)).trans h.2.2⟩

end Go.Proofs.Ytcjgdfnbjbboeaa

namespace Go.Proofs.Ytcjgdfnbjbboeaa
open Go.ChangeShapes Go.WideShapes Go.ChangeAt Go.RowKit
set_option linter.unusedVariables false

/-- A draw's three cells, which may be written. -/
def Dw (w : World) (b : Nat) (s t a : Int) : Prop := Dr w b s t a ∧ ∀ o, w.frozen? ⟨b, o, none⟩ = false
theorem Dw.kept {w w' : World} {b : Nat} {s t a : Int} (h : Dw w b s t a) (k : Kept w w') : Dw w' b s t a := ⟨h.1.kept k, fun o => (k.frozen _).trans (h.2 o)⟩
theorem Dw.set {w : World} {b : Nat} {s t a : Int} (h : Dw w b s t a) (x : Int) : Dw (w.setCell ⟨b, 2, none⟩ (.int .i64 x)) b s t x :=
  ⟨⟨(World.cell?_setCell_other _ _ _ _ (by simp)).trans h.1.1, (World.cell?_setCell_other _ _ _ _ (by simp)).trans h.1.2.1, World.cell?_setCell_same _ _ _ h.1.2.2⟩, fun o => (World.frozen?_setCell _ _ _ _).trans (h.2 o)⟩
theorem Dw.far {w : World} {b : Nat} {s t a : Int} (h : Dw w b s t a) (p : Addr) (hp : p.block ≠ b) (v : Value) : Dw (w.setCell p v) b s t a :=
  ⟨⟨(World.cell?_setCell_far _ _ _ _ hp).trans h.1.1, (World.cell?_setCell_far _ _ _ _ hp).trans h.1.2.1, (World.cell?_setCell_far _ _ _ _ hp).trans h.1.2.2⟩, fun o => (World.frozen?_setCell _ _ _ _).trans (h.2 o)⟩
/-- A draw written into other cells. -/
def put3 (w : World) (c : Nat) (x y z : Value) : World := ((w.setCell ⟨c, 0, none⟩ x).setCell ⟨c, 1, none⟩ y).setCell ⟨c, 2, none⟩ z
end Go.Proofs.Ytcjgdfnbjbboeaa

namespace Go.Proofs.Ytcjgdfnbjbboeaa
open Go.ChangeShapes Go.WideShapes Go.ChangeAt Go.RowKit
set_option linter.unusedVariables false

theorem Dw.put {w : World} {b : Nat} {x y z : Int} (h : Dw w b x y z) (s t a : Int) : Dw (put3 w b (.int .i64 s) (.int .i64 t) (.int .i64 a)) b s t a := by
  have h0 : (w.setCell ⟨b, 0, none⟩ (.int .i64 s)).cell? ⟨b, 0, none⟩ = some (.int .i64 s) := World.cell?_setCell_same _ _ _ h.1.1
  have h1 : (w.setCell ⟨b, 0, none⟩ (.int .i64 s)).cell? ⟨b, 1, none⟩ = some (.int .i64 y) := (World.cell?_setCell_other _ _ _ _ (by simp)).trans h.1.2.1
  have h2 : ((w.setCell ⟨b, 0, none⟩ (.int .i64 s)).setCell ⟨b, 1, none⟩ (.int .i64 t)).cell? ⟨b, 2, none⟩ = some (.int .i64 z) := (World.cell?_setCell_other _ _ _ _ (by simp)).trans ((World.cell?_setCell_other _ _ _ _ (by simp)).trans h.1.2.2)
  refine ⟨⟨?_, ?_, World.cell?_setCell_same _ _ _ h2⟩, fun o => ?_⟩
  · exact (World.cell?_setCell_other _ _ _ _ (by simp)).trans ((World.cell?_setCell_other _ _ _ _ (by simp)).trans h0)
  · exact (World.cell?_setCell_other _ _ _ _ (by simp)).trans (World.cell?_setCell_same _ _ _ h1)
  · unfold put3
    rw [World.frozen?_setCell, World.frozen?_setCell, World.frozen?_setCell]
    exact h.2 o
theorem Kept.put3 {w X : World} (h : Kept w X) (c : Nat) (hc : w.heap.size ≤ c) (x y z : Value) : Kept w (put3 X c x y z) := ((h.setCell hc _).setCell hc _).setCell hc _
theorem Dr.lt {w : World} {b : Nat} {s t a : Int} (h : Dr w b s t a) : b < w.heap.size := World.block_lt_of_cell? _ _ h.1
end Go.Proofs.Ytcjgdfnbjbboeaa

namespace Go.Proofs.Ytcjgdfnbjbboeaa
open Go.ChangeShapes Go.WideShapes Go.ChangeAt Go.RowKit
set_option linter.unusedVariables false

end Go.Proofs.Ytcjgdfnbjbboeaa

namespace Go.Proofs.Ytcjgdfnbjbboeaa
open Go.ChangeShapes Go.WideShapes Go.ChangeAt Go.RowKit
set_option linter.unusedVariables false
set_option linter.unusedSimpArgs false

theorem Dw.own {w : World} {g cap b : Nat} {L : List Int} (h : Own w g cap L) (c : Nat) (hc : g ≠ c) (x y z : Value) : Own (put3 w c x y z) g cap L :=
  ((h.setOther (p := ⟨c, 0, none⟩) hc x).setOther (p := ⟨c, 1, none⟩) hc y).setOther (p := ⟨c, 2, none⟩) hc z

end Go.Proofs.Ytcjgdfnbjbboeaa

namespace Go.Proofs.Ytcjgdfnbjbboeaa
open Go.ChangeShapes Go.WideShapes Go.ChangeAt Go.RowKit
set_option linter.unusedVariables false
set_option linter.unusedSimpArgs false

end Go.Proofs.Ytcjgdfnbjbboeaa

namespace Go.Proofs.Ytcjgdfnbjbboeaa
open Go.ChangeShapes Go.WideShapes Go.ChangeAt Go.RowKit
set_option linter.unusedVariables false
set_option linter.unusedSimpArgs false

theorem Dw.below {w w' : World} {b : Nat} {s t a : Int} (h : Dw w b s t a) (k : Below w.heap.size w w') : Dw w' b s t a :=
  ⟨⟨(k.cell h.1.lt).trans h.1.1, (k.cell h.1.lt).trans h.1.2.1, (k.cell h.1.lt).trans h.1.2.2⟩, fun o => (World.frozen?_of_block (a := ⟨b, o, none⟩) (k.block b h.1.lt)).trans (h.2 o)⟩
theorem Dw.grown {w w' : World} {b g : Nat} {s t a : Int} (h : Dw w b s t a) (k : w.grownBy w' (some g)) (hne : b ≠ g) : Dw w' b s t a := by
  have hb : w'.heap[b]? = w.heap[b]? := k.block b h.1.lt (by simpa using hne)
  exact ⟨⟨(World.cell?_of_block (a := ⟨b, 0, none⟩) hb).trans h.1.1, (World.cell?_of_block (a := ⟨b, 1, none⟩) hb).trans h.1.2.1, (World.cell?_of_block (a := ⟨b, 2, none⟩) hb).trans h.1.2.2⟩, fun o => (World.frozen?_of_block (a := ⟨b, o, none⟩) hb).trans (h.2 o)⟩
theorem Own.below {w w' : World} {g cap : Nat} {L : List Int} (h : Own w g cap L) (k : Below w.heap.size w w') : Own w' g cap L := by
  have hl := h.lt
  obtain ⟨cur, hg, r⟩ := h
  exact ⟨cur, (k.block g hl).trans hg, r⟩
end Go.Proofs.Ytcjgdfnbjbboeaa

namespace Go.Proofs.Ytcjgdfnbjbboeaa
open Go.ChangeShapes Go.WideShapes Go.ChangeAt Go.RowKit Go.Shelf
set_option linter.unusedVariables false
set_option linter.unusedSimpArgs false

theorem bq_below {w w' : World} {b : Nat} {vs : List Value} (h : Bq w b vs) (k : Below w.heap.size w w') : Bq w' b vs :=
  ⟨fun i v e => (k.cell h.lt).trans (h.c i v e), fun o => (World.frozen?_of_block (a := ⟨b, o, none⟩) (k.block b h.lt)).trans (h.fz o), Nat.lt_of_lt_of_le h.lt k.size⟩
theorem sl_below {w w' : World} {v : Value} {L : List Int} (h : Sl w v L) (k : Below w.heap.size w w') : Sl w' v L := by
  obtain ⟨ao, cap, e, h1, h2, h3⟩ := h
  exact ⟨ao, cap, e, h1, h2, fun hne => by
    obtain ⟨b, off, e, hb, hr⟩ := h3 hne
    exact ⟨b, off, e, Nat.lt_of_lt_of_le hb k.size, fun i hi => (k.cell hb).trans (hr i hi)⟩⟩

end Go.Proofs.Ytcjgdfnbjbboeaa
