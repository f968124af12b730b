/- What stays where some blocks are turned. -/
import Derived.Test.YtedghjededicpaaU1
namespace Go.Proofs.Ytedghjededicpaa
open Go.ChangeShapes Go.WideShapes Go.ChangeAt Go.RowKit
set_option linter.unusedVariables false
set_option linter.unusedSimpArgs false

/-- All lies as it lay but in the blocks of a list. -/
structure Gs (S : List Nat) (w w' : World) : Prop where
  os : w'.os = w.os
  tape : w'.tape = w.tape
  output : w'.output = w.output
  size : w.heap.size ≤ w'.heap.size
  block : ∀ i, i < w.heap.size → i ∉ S → w'.heap[i]? = w.heap[i]?
  frozen : ∀ a, w'.frozen? a = w.frozen? a
theorem Gs.refl (S : List Nat) (w : World) : Gs S w w := ⟨rfl, rfl, rfl, Nat.le_refl _, fun _ _ _ => rfl, fun _ => rfl⟩
theorem Gs.trans {S : List Nat} {a b c : World} (h : Gs S a b) (k : Gs S b c) : Gs S a c :=
  ⟨k.os.trans h.os, k.tape.trans h.tape, k.output.trans h.output, Nat.le_trans h.size k.size, fun i hi hn => (k.block i (Nat.lt_of_lt_of_le hi h.size) hn).trans (h.block i hi hn), fun x => (k.frozen x).trans (h.frozen x)⟩
theorem Gs.mono {S S' : List Nat} {a b : World} (h : Gs S a b) (hs : ∀ i ∈ S, i ∈ S') : Gs S' a b :=
  ⟨h.os, h.tape, h.output, h.size, fun i hi hn => h.block i hi (fun hm => hn (hs i hm)), h.frozen⟩
theorem Kept.gs {a b : World} (S : List Nat) (h : Kept a b) : Gs S a b := ⟨h.below.os, h.below.tape, h.below.output, h.below.size, fun i hi _ => h.below.block i hi, h.frozen⟩
theorem Grw.gs {g : Nat} {a b : World} (h : Grw g a b) : Gs [g] a b := ⟨h.grown.os, h.grown.tape, h.grown.output, h.grown.size, fun i hi hn => h.grown.block i hi (by simpa using hn), h.frozen⟩
theorem Kept.gsn {S : List Nat} {a b c : World} (h : Kept a b) (hS : ∀ i ∈ S, a.heap.size ≤ i) (k : Gs S b c) : Kept a c :=
  ⟨⟨k.os.trans h.below.os, k.tape.trans h.below.tape, k.output.trans h.below.output, Nat.le_trans h.below.size k.size, fun i hi => (k.block i (Nat.lt_of_lt_of_le hi h.below.size) (fun hm => by have := hS i hm; omega)).trans (h.below.block i hi)⟩, fun x => (k.frozen x).trans (h.frozen x)⟩
theorem Gs.setCell {S : List Nat} {a b : World} (h : Gs S a b) {p : Addr} (hp : p.block ∈ S ∨ a.heap.size ≤ p.block) (u : Value) : Gs S a (b.setCell p u) :=
  ⟨h.os, h.tape, h.output, by simpa using h.size, fun i hi hn => (Below.heap_setCell b p u i (fun e => by subst e; rcases hp with h1 | h1; exact hn h1; omega)).trans (h.block i hi hn), fun x => (World.frozen?_setCell _ _ _ _).trans (h.frozen x)⟩
theorem Gs.kept {S : List Nat} {a b c : World} (h : Gs S a b) (k : Kept b c) : Gs S a c := h.trans (k.gs S)
theorem Gs.cell {S : List Nat} {a b : World} (h : Gs S a b) (B o : Nat) (hB : B < a.heap.size) (hn : B ∉ S) : b.cell? ⟨B, o, none⟩ = a.cell? ⟨B, o, none⟩ := by
  have := h.block B hB hn
  simp only [World.cell?, this]
theorem Own.gs {S : List Nat} {w w' : World} {g cap : Nat} {L : List Int} (h : Own w g cap L) (k : Gs S w w') (hn : g ∉ S) : Own w' g cap L := by
  have hl := h.lt
  obtain ⟨cur, hg, r⟩ := h
  exact ⟨cur, (k.block g hl hn).trans hg, r⟩
end Go.Proofs.Ytedghjededicpaa
