/- Lists by pieces; what is turned between two worlds lies in listed blocks; appends. -/
import Derived.Test.YtcjgdfnbjbboeaaWr30
import Derived.Test.YtcjgdfnbjbboeaaWr03
namespace Go.Proofs.Ytcjgdfnbjbboeaa
open Go.ChangeShapes Go.WideShapes Go.ChangeAt Go.RowKit
set_option linter.unusedVariables false
set_option linter.unusedSimpArgs false

/-- What is turned between two worlds is in the listed blocks, or new. -/
structure GrwS (S : List Nat) (w w' : World) : Prop where
  os : w'.os = w.os
  tape : w'.tape = w.tape
  output : w'.output = w.output
  size : w.heap.size ≤ w'.heap.size
  block : ∀ i, i < w.heap.size → i ∉ S → w'.heap[i]? = w.heap[i]?
  frozen : ∀ a, w'.frozen? a = w.frozen? a
theorem GrwS.refl (S : List Nat) (w : World) : GrwS S w w := ⟨rfl, rfl, rfl, Nat.le_refl _, fun _ _ _ => rfl, fun _ => rfl⟩
theorem GrwS.trans {S : List Nat} {a b c : World} (h : GrwS S a b) (k : GrwS S b c) : GrwS S a c :=
  ⟨k.os.trans h.os, k.tape.trans h.tape, k.output.trans h.output, Nat.le_trans h.size k.size, fun i hi hn => (k.block i (Nat.lt_of_lt_of_le hi h.size) hn).trans (h.block i hi hn), fun x => (k.frozen x).trans (h.frozen x)⟩
theorem GrwS.mono {S S' : List Nat} {a b : World} (h : GrwS S a b) (hs : ∀ i ∈ S, i ∈ S') : GrwS S' a b :=
  ⟨h.os, h.tape, h.output, h.size, fun i hi hn => h.block i hi (fun hm => hn (hs i hm)), h.frozen⟩
/-- What is turned besides is new to the first world. -/
theorem GrwS.then {S S' : List Nat} {a b c : World} (h : GrwS S a b) (k : GrwS S' b c) (hs : ∀ i ∈ S', i ∈ S ∨ a.heap.size ≤ i) : GrwS S a c :=
  ⟨k.os.trans h.os, k.tape.trans h.tape, k.output.trans h.output, Nat.le_trans h.size k.size, fun i hi hn => (k.block i (Nat.lt_of_lt_of_le hi h.size) (fun hm => by rcases hs i hm with h1 | h1; exact hn h1; omega)).trans (h.block i hi hn), fun x => (k.frozen x).trans (h.frozen x)⟩
theorem Kept.toS {a b : World} (S : List Nat) (h : Kept a b) : GrwS S a b := ⟨h.below.os, h.below.tape, h.below.output, h.below.size, fun i hi _ => h.below.block i hi, h.frozen⟩
theorem Grw.toS {g : Nat} {a b : World} (h : Grw g a b) : GrwS [g] a b := ⟨h.grown.os, h.grown.tape, h.grown.output, h.grown.size, fun i hi hn => h.grown.block i hi (by simpa using hn), h.frozen⟩
theorem GrwS.setCell {S : List Nat} {a b : World} (h : GrwS S a b) {p : Addr} (hp : p.block ∈ S ∨ a.heap.size ≤ p.block) (u : Value) : GrwS S a (b.setCell p u) :=
  ⟨h.os, h.tape, h.output, by simpa using h.size, fun i hi hn => (Below.heap_setCell b p u i (fun e => by subst e; rcases hp with h1 | h1; exact hn h1; omega)).trans (h.block i hi hn), fun x => (World.frozen?_setCell _ _ _ _).trans (h.frozen x)⟩


theorem GrwS.bl {S : List Nat} {a b c : World} (h : GrwS S a b) (k : Below a.heap.size b c) (hf : ∀ x, c.frozen? x = b.frozen? x) : GrwS S a c :=
  ⟨k.os.trans h.os, k.tape.trans h.tape, k.output.trans h.output, Nat.le_trans h.size k.size, fun i hi hn => (k.block i hi).trans (h.block i hi hn), fun x => (hf x).trans (h.frozen x)⟩
theorem GrwS.kept {S : List Nat} {a b c : World} (h : GrwS S a b) (k : Kept b c) : GrwS S a c := h.trans (k.toS S)
theorem GrwS.cell {S : List Nat} {a b : World} (h : GrwS S a b) {B o : Nat} (hB : B < a.heap.size) (hn : B ∉ S) : b.cell? ⟨B, o, none⟩ = a.cell? ⟨B, o, none⟩ :=
  World.cell?_of_block (w := a) (a := ⟨B, o, none⟩) (h.block B hB hn)
theorem GrwS.reads {S : List Nat} {a b : World} (h : GrwS S a b) {B off : Nat} {L : List Int} (hB : B < a.heap.size) (hn : B ∉ S) (hr : Reads a B off L) : Reads b B off L :=
  fun i hi => (h.cell hB hn).trans (hr i hi)
theorem MR.setOther {H : Nat} {w : World} {v : Value} {M : List Int} (h : MR H w v M) {p : Addr} (hp : p.block < H) (u : Value) : MR H (w.setCell p u) v M := by
  rcases h with h | ⟨g, cap, e, hg, ho⟩
  · exact .inl h
  · exact .inr ⟨g, cap, e, hg, ho.setOther (by omega) u⟩
theorem MR.len {H : Nat} {w : World} {v : Value} {M : List Int} (h : MR H w v M) : ∃ ao c, v = .slice ao M.length c := by
  rcases h with ⟨rfl, rfl⟩ | ⟨g, cap, e, hg, ho⟩
  · exact ⟨none, 0, rfl⟩
  · exact ⟨_, _, e⟩
theorem M4.setOther {w : World} {B : Nat} {r c n s : Value} (h : M4 w B r c n s) {p : Addr} (hp : B ≠ p.block) (u : Value) : M4 (w.setCell p u) B r c n s := by
  have hb := Below.heap_setCell w p u B hp
  exact ⟨(World.cell?_of_block (w := w) (a := ⟨B, 0, none⟩) hb).trans h.c0, (World.cell?_of_block (w := w) (a := ⟨B, 1, none⟩) hb).trans h.c1, (World.cell?_of_block (w := w) (a := ⟨B, 2, none⟩) hb).trans h.c2, (World.cell?_of_block (w := w) (a := ⟨B, 3, none⟩) hb).trans h.c3⟩
theorem M4.below {w w' : World} {B H : Nat} {r c n s : Value} (h : M4 w B r c n s) (k : Below H w w') (hB : B < H) : M4 w' B r c n s :=
  ⟨(k.cell (p := ⟨B, 0, none⟩) hB).trans h.c0, (k.cell (p := ⟨B, 1, none⟩) hB).trans h.c1, (k.cell (p := ⟨B, 2, none⟩) hB).trans h.c2, (k.cell (p := ⟨B, 3, none⟩) hB).trans h.c3⟩

/-- A list behind a row that has room for it. -/
theorem app_room (w : World) (g cap : Nat) (L : List Int) (ho : Own w g cap L) (N : List Int) (b off m c : Nat) (hm : N.length = m) (hN : Reads w b off N) (hr : L.length + m ≤ cap) (k : Nat) (hk : L.length = k) :
    (∀ ty, (Builtin.append_ #[22, 22] ty #[.slice (some ⟨g, 0, none⟩) k cap, .slice (some ⟨b, off, none⟩) m c]).run Try.prog w = .ok (.slice (some ⟨g, 0, none⟩) (k + m) cap) (w.setCells g k (N.map (Value.int .i64)))) ∧ Own (w.setCells g k (N.map (Value.int .i64))) g cap (L ++ N) ∧ Grw g w (w.setCells g k (N.map (Value.int .i64))) := by
  subst hk
  subst hm
  have hV := own_v.1 ho
  obtain ⟨i, hi, hz2, hs, hb⟩ := info_parts (int_info)
  have hS : Src Try.prog i.size 22 (.slice (some ⟨b, off, none⟩) N.length c) N.length (N.map (Value.int .i64)) w := Src.ofSlice w li_under ⟨b, off, none⟩ N.length c _ (by rw [hs]; simp) (fun j u hj => by
      rw [List.getElem?_map] at hj
      by_cases hjl : j < N.length
      · rw [List.getElem?_eq_getElem hjl] at hj
        cases hj
        have := hN j hjl
        rw [List.getD_eq_getElem?_getD, List.getElem?_eq_getElem hjl] at this
        rw [Addr.add_lit]
        simpa using this
      · rw [List.getElem?_eq_none (by omega)] at hj
        cases hj) (fun u hu => by obtain ⟨x, -, rfl⟩ := List.mem_map.1 hu; rfl)
  refine ⟨fun ty => ?_, ?_, (Grw.refl g w).setCells _ _⟩
  · have := run_append_room_src w 22 22 ty 3 i li_under hi g 0 L.length cap (.slice (some ⟨b, off, none⟩) N.length c) N.length (N.map (Value.int .i64)) hS hr (fun j hj => hV.some _ (by rw [hs]; have hj2 : j < N.length := (by simpa using hj); omega)) (fun j hj => hV.free _)
    rw [this, hs]
    simp
  · have := hV.pushes (N.map (Value.int .i64)) (by simp; omega)
    rw [List.length_map, ← List.map_append] at this
    exact own_v.2 this

end Go.Proofs.Ytcjgdfnbjbboeaa
