/- Pick: package rng's. -/
import Derived.Test.YtedghjededicpaaG7
import Derived.Test.YtedghjededicpaaGS
namespace Go.Proofs.Ytedghjededicpaa
open Go.ChangeShapes Go.WideShapes Go.ChangeAt Go.RowKit
set_option linter.unusedVariables false
set_option linter.unusedSimpArgs false

theorem Dw.below {w w' : World} {b : Nat} {s t a : Int} (h : Dw w b s t a) (k : Below w.heap.size w w') : Dw w' b s t a :=
  ⟨⟨(k.cell h.1.lt).trans h.1.1, (k.cell h.1.lt).trans h.1.2.1, (k.cell h.1.lt).trans h.1.2.2⟩, fun o => (World.frozen?_of_block (a := ⟨b, o, none⟩) (k.block b h.1.lt)).trans (h.2 o)⟩
theorem Dw.grown {w w' : World} {b g : Nat} {s t a : Int} (h : Dw w b s t a) (k : w.grownBy w' (some g)) (hne : b ≠ g) : Dw w' b s t a := by
  have hb : w'.heap[b]? = w.heap[b]? := k.block b h.1.lt (by simpa using hne)
  exact ⟨⟨(World.cell?_of_block (a := ⟨b, 0, none⟩) hb).trans h.1.1, (World.cell?_of_block (a := ⟨b, 1, none⟩) hb).trans h.1.2.1, (World.cell?_of_block (a := ⟨b, 2, none⟩) hb).trans h.1.2.2⟩, fun o => (World.frozen?_of_block (a := ⟨b, o, none⟩) hb).trans (h.2 o)⟩
theorem Own.below {w w' : World} {g cap : Nat} {L : List Int} (h : Own w g cap L) (k : Below w.heap.size w w') : Own w' g cap L := by
  have hl := h.lt
  obtain ⟨cur, hg, r⟩ := h
  exact ⟨cur, (k.block g hl).trans hg, r⟩
theorem keep3b {w X : World} {b c : Nat} {s t a : Int} (hw : Below w.heap.size w X) (hb : w.heap.size ≤ c) (hne : c ≠ b) (d : Dr X b s t a) (x y z : Value) :
    Below w.heap.size w (put3 X c x y z).drew ∧ (put3 X c x y z).drew.cell? ⟨b, 0, none⟩ = some (.int .i64 s) ∧ (put3 X c x y z).drew.cell? ⟨b, 1, none⟩ = some (.int .i64 t) ∧ (put3 X c x y z).drew.cell? ⟨b, 2, none⟩ = some (.int .i64 a) := by
  have e : ∀ o, (put3 X c x y z).cell? ⟨b, o, none⟩ = X.cell? ⟨b, o, none⟩ := fun o =>
    ((World.cell?_setCell_far _ _ _ _ hne).trans (World.cell?_setCell_far _ _ _ _ hne)).trans (World.cell?_setCell_far _ _ _ _ hne)
  exact ⟨(((hw.setCell (p := ⟨c, 0, none⟩) hb x).setCell (p := ⟨c, 1, none⟩) hb y).setCell (p := ⟨c, 2, none⟩) hb z).drew, (e 0).trans d.1, (e 1).trans d.2.1, (e 2).trans d.2.2⟩

end Go.Proofs.Ytedghjededicpaa
