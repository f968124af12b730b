/- Lists that were answered, kept: the walk of the laws' own Keep.Add. The walk of the laws' own Keep.Add. Append of noughts; the lists that were answered, marked and grown. The walk of the laws' own Keep.Apart. The walk of the laws' own Keep.Apart: no two lists that were answered share memory. The walks of the document's own Valid, Answer, Turned, Scale, Sig. The walks of the document's own Answer, Turned, Scale, Sig. The walk of the laws' own 'is'. What Neg, Sign, Scale tell of any number; and the document's own Scale beside it. -/
import Derived.Test.YtdpccifhhencgaaGreatDoorZl34
namespace Go.Proofs.YtdpccifhhencgaaGreatDoor
open Go.ChangeShapes Go.WideShapes Go.ChangeAt Go.RowKit
set_option linter.unusedVariables false
set_option linter.unusedSimpArgs false
set_option maxHeartbeats 16000000
set_option maxRecDepth 100000
/-- What is turned between two worlds is in the listed blocks, or new. -/
structure GrwS (S : List Nat) (w w' : World) : Prop where
 os : w'.os = w.os
 tape : w'.tape = w.tape
 output : w'.output = w.output
 size : w.heap.size ≤ w'.heap.size
 block : ∀ i, i < w.heap.size → i ∉ S → w'.heap[i]? = w.heap[i]?
 frozen : ∀ a, w'.frozen? a = w.frozen? a
theorem GrwS.refl (S : List Nat) (w : World) : GrwS S w w := ⟨rfl, rfl, rfl, Nat.le_refl _, fun _ _ _ => rfl, fun _ => rfl⟩
theorem GrwS.trans {S : List Nat} {a b c : World} (h : GrwS S a b) (k : GrwS S b c) : GrwS S a c :=
 ⟨k.os.trans h.os, k.tape.trans h.tape, k.output.trans h.output, Nat.le_trans h.size k.size, fun i hi hn => (k.block i (Nat.lt_of_lt_of_le hi h.size) hn).trans (h.block i hi hn), fun x => (k.frozen x).trans (h.frozen x)⟩
theorem GrwS.mono {S S' : List Nat} {a b : World} (h : GrwS S a b) (hs : ∀ i ∈ S, i ∈ S') : GrwS S' a b :=
 ⟨h.os, h.tape, h.output, h.size, fun i hi hn => h.block i hi (fun hm => hn (hs i hm)), h.frozen⟩
/-- What is turned besides is new to the first world. -/
theorem GrwS.then {S S' : List Nat} {a b c : World} (h : GrwS S a b) (k : GrwS S' b c) (hs : ∀ i ∈ S', i ∈ S ∨ a.heap.size ≤ i) : GrwS S a c :=
 ⟨k.os.trans h.os, k.tape.trans h.tape, k.output.trans h.output, Nat.le_trans h.size k.size, fun i hi hn => (k.block i (Nat.lt_of_lt_of_le hi h.size) (fun hm => by rcases hs i hm with h1 | h1; exact hn h1; omega)).trans (h.block i hi hn), fun x => (k.frozen x).trans (h.frozen x)⟩
theorem Kept.toS {a b : World} (S : List Nat) (h : Kept a b) : GrwS S a b := ⟨h.below.os, h.below.tape, h.below.output, h.below.size, fun i hi _ => h.below.block i hi, h.frozen⟩
theorem Grw.toS {g : Nat} {a b : World} (h : Grw g a b) : GrwS [g] a b := ⟨h.grown.os, h.grown.tape, h.grown.output, h.grown.size, fun i hi hn => h.grown.block i hi (by simpa using hn), h.frozen⟩
theorem Kept.grwS {S : List Nat} {a b c : World} (h : Kept a b) (hS : ∀ i ∈ S, a.heap.size ≤ i) (k : GrwS S b c) : Kept a c :=
 ⟨⟨k.os.trans h.below.os, k.tape.trans h.below.tape, k.output.trans h.below.output, Nat.le_trans h.below.size k.size, fun i hi => (k.block i (Nat.lt_of_lt_of_le hi h.below.size) (fun hm => by have := hS i hm; omega)).trans (h.below.block i hi)⟩, fun x => (k.frozen x).trans (h.frozen x)⟩
theorem GrwS.setCell {S : List Nat} {a b : World} (h : GrwS S a b) {p : Addr} (hp : p.block ∈ S ∨ a.heap.size ≤ p.block) (u : Value) : GrwS S a (b.setCell p u) :=
 ⟨h.os, h.tape, h.output, by simpa using h.size, fun i hi hn => (Below.heap_setCell b p u i (fun e => by subst e; rcases hp with h1 | h1; exact hn h1; omega)).trans (h.block i hi hn), fun x => (World.frozen?_setCell _ _ _ _).trans (h.frozen x)⟩
def blk (v : Value) : List Nat := match v with
 | .slice (some a) _ _ => [a.block]
 | _ => []
theorem OwnV.grwS {S : List Nat} {w w' : World} {g cap : Nat} {e : TypeId} {V : List Value} (h : OwnV w g cap e V) (k : GrwS S w w') (hne : g ∉ S) : OwnV w' g cap e V := by
 have hl := h.lt
 obtain ⟨cur, hg, r⟩ := h
 exact ⟨cur, (k.block g hl hne).trans hg, r⟩
theorem Rw.lt {w : World} {v : Value} {e : TypeId} {V : List Value} (h : Rw w v e V) : ∀ b ∈ blk v, b < w.heap.size := by
 rcases h with ⟨-, rfl⟩ | ⟨g, cap, rfl, ho⟩
 ·intro b hb; cases hb
 ·intro b hb
  obtain rfl : b = g := by simpa [blk] using hb
  exact ho.lt
theorem Rw.grwS {S : List Nat} {w w' : World} {v : Value} {e : TypeId} {V : List Value} (h : Rw w v e V) (k : GrwS S w w') (hn : ∀ b ∈ blk v, b ∉ S) : Rw w' v e V := by
 rcases h with h | ⟨g, cap, rfl, ho⟩
 ·exact .inl h
 ·exact .inr ⟨g, cap, rfl, ho.grwS k (hn g (by simp [blk]))⟩
theorem Rw.kept {w w' : World} {v : Value} {e : TypeId} {V : List Value} (h : Rw w v e V) (k : Kept w w') : Rw w' v e V := h.grwS (k.toS []) (fun _ _ h => by cases h)
theorem Rw.sl {w : World} {v : Value} {L : List Int} (h : Rw w v 3 (L.map (Value.int .i64))) : Sl w v L := by
 rcases h with ⟨e, rfl⟩ | ⟨g, cap, rfl, ho⟩
 ·obtain rfl : L = [] := by simpa using e
  exact ⟨none, 0, rfl, Nat.le_refl _, by simp [maxLen], fun h => absurd rfl h⟩
 ·have := (own_v.2 ho).sl
  rw [List.length_map]
  exact this
theorem Rw.shape {w : World} {v : Value} {e : TypeId} {V : List Value} (h : Rw w v e V) : ∃ ao c, v = .slice ao V.length c := by
 rcases h with ⟨rfl, rfl⟩ | ⟨g, cap, rfl, ho⟩
 ·exact ⟨_, _, rfl⟩
 ·exact ⟨_, _, rfl⟩
structure Ent where
 v : Value
 u : Value
 L : List Int
def blks (kb : Nat) (vL vW : Value) (E : List Ent) : List Nat := kb :: (blk vL ++ blk vW ++ E.flatMap fun x => blk x.v ++ blk x.u)
abbrev ints (L : List Int) : List Value := L.map (Value.int .i64)
structure KeepAt (w0 w : World) (kb : Nat) (vL vW : Value) (E : List Ent) : Prop where
 kept : Kept w0 w
 cells : w.heap[kb]? = some (.cells #[vL, vW] 30 (0, 0))
 rows : Rw w vL 22 (E.map Ent.v)
 was : Rw w vW 22 (E.map Ent.u)
 each : ∀ x ∈ E, Rw w x.v 3 (ints x.L) ∧ Rw w x.u 3 (ints x.L) ∧ x.L.length < 10000000
 apart : (blks kb vL vW E).Nodup
 new : ∀ b ∈ blks kb vL vW E, w0.heap.size ≤ b
theorem KeepAt.lt {w0 w : World} {kb : Nat} {vL vW : Value} {E : List Ent} (h : KeepAt w0 w kb vL vW E) : ∀ b ∈ blks kb vL vW E, b < w.heap.size := by
 intro b hb
 unfold blks at hb
 rcases List.mem_cons.1 hb with rfl | hb
 ·exact lt_of_block h.cells
 ·rcases List.mem_append.1 hb with hb | hb
  ·rcases List.mem_append.1 hb with hb | hb
   ·exact h.rows.lt b hb
   ·exact h.was.lt b hb
  ·obtain ⟨x, hx, hb⟩ := List.mem_flatMap.1 hb
   obtain ⟨h1, h2, -⟩ := h.each x hx
   rcases List.mem_append.1 hb with hb | hb
   ·exact h1.lt b hb
   ·exact h2.lt b hb
/-- What lies elsewhere may be turned. -/
theorem KeepAt.grwS {w0 w w' : World} {kb : Nat} {vL vW : Value} {E : List Ent} {S : List Nat} (h : KeepAt w0 w kb vL vW E) (k : GrwS S w w') (hS : ∀ b ∈ blks kb vL vW E, b ∉ S) (hn : ∀ b ∈ S, w0.heap.size ≤ b) : KeepAt w0 w' kb vL vW E := by
 have hl := h.lt
 refine ⟨h.kept.grwS hn k, (k.block kb (hl kb (by simp [blks])) (hS kb (by simp [blks]))).trans h.cells, h.rows.grwS k (fun b hb => hS b (by simp [blks, hb])), h.was.grwS k (fun b hb => hS b (by simp [blks, hb])), fun x hx => ?_, h.apart, h.new⟩
 obtain ⟨h1, h2, h3⟩ := h.each x hx
 exact ⟨h1.grwS k (fun b hb => hS b (by simp only [blks, List.mem_cons, List.mem_append, List.mem_flatMap]; exact .inr (.inr ⟨x, hx, .inl hb⟩))), h2.grwS k (fun b hb => hS b (by simp only [blks, List.mem_cons, List.mem_append, List.mem_flatMap]; exact .inr (.inr ⟨x, hx, .inr hb⟩))), h3⟩
theorem KeepAt.keptOn {w0 w w' : World} {kb : Nat} {vL vW : Value} {E : List Ent} (h : KeepAt w0 w kb vL vW E) (k : Kept w w') : KeepAt w0 w' kb vL vW E := h.grwS (k.toS []) (fun _ _ h => by cases h) (fun _ h => by cases h)
theorem Sl.shape {w : World} {v : Value} {L : List Int} (h : Sl w v L) : ∃ ao c, v = .slice ao L.length c := by
 obtain ⟨ao, c, e, -⟩ := h
 exact ⟨ao, c, e⟩
/-- The lists that were answered, whatever has been written into them since. -/
structure KeepM (w0 : World) (kb : Nat) (vL : Value) (E : List Ent) (w : World) (M : Nat → List Int) : Prop where
 kept : Kept w0 w
 cells : ∃ x, w.heap[kb]? = some (.cells #[vL, x] 30 (0, 0))
 rows : Rw w vL 22 (E.map Ent.v)
 each : ∀ i (h : i < E.length), Rw w (E[i]).v 3 (ints (M i))
def updM (M : Nat → List Int) (i : Nat) (L : List Int) : Nat → List Int := fun j => if j = i then L else M j
theorem KeepM.keptOn {w0 w w' : World} {kb : Nat} {vL : Value} {E : List Ent} {M : Nat → List Int} (h : KeepM w0 kb vL E w M) (k : Kept w w') : KeepM w0 kb vL E w' M := by
 obtain ⟨x, hx⟩ := h.cells
 exact ⟨h.kept.trans k, ⟨x, (k.below.block kb (lt_of_block hx)).trans hx⟩, h.rows.kept k, fun j hj => (h.each j hj).kept k⟩
def Mk (n : Nat → Nat) (M : Nat → List Int) (k j : Nat) : Prop := (∀ i, i < k → ∀ t, t < n i → (M i).getD t 0 = -2 - (i : Int)) ∧ ∀ t, t < j → (M k).getD t 0 = -2 - (k : Int)
theorem Mk.start (n : Nat → Nat) (M : Nat → List Int) : Mk n M 0 0 := ⟨fun i h => by omega, fun t h => by omega⟩
theorem Mk.step {n : Nat → Nat} {M : Nat → List Int} {k j : Nat} (h : Mk n M k j) (hj : j < (M k).length) : Mk n (updM M k ((M k).set j (-2 - (k : Int)))) k (j + 1) := by
 refine ⟨fun i hi t ht => ?_, fun t ht => ?_⟩
 ·unfold updM
  rw [if_neg (by omega)]
  exact h.1 i hi t ht
 ·unfold updM
  rw [if_pos rfl, List.getD_eq_getElem?_getD, List.getElem?_set]
  split
  ·rfl
  ·rw [← List.getD_eq_getElem?_getD]
   exact h.2 t (by omega)
theorem NumAt.shape {w : World} {v : Value} {x : Nm} (h : NumAt w v x) : ∃ ao c, v = .agg #[.bool x.neg, .slice ao x.mag.length c, .int .i64 x.exp] := by
 obtain ⟨s, rfl, ao, c, rfl, -⟩ := h
 exact ⟨ao, c, rfl⟩
end Go.Proofs.YtdpccifhhencgaaGreatDoor
