/- The walks of exact's allValid, fit, digitsOf, trailing. A row of digits of the call's own; the walk of exact's form. What exact's form gives: the one form of a number, or it gives up. The walk of exact's told: what is reckoned, or it gives up. The walks of slices.Clone and of the closures that clone and form. -/
import Derived.Test.YtcjgdfnbjbboeaaWr04
import Derived.Defers
import Derived.Recover
import Derived.OwnWalk
import Derived.Laws.Cover3
import Derived.Laws.OwnMore
import Derived.Laws.AppendOwn
namespace Go.Proofs.Ytcjgdfnbjbboeaa
open Go.ChangeShapes Go.WideShapes Go.ChangeAt Go.RowKit
set_option linter.unusedVariables false

/-! ### The noughts below the lowest bit -/
end Go.Proofs.Ytcjgdfnbjbboeaa

namespace Go.Proofs.Ytcjgdfnbjbboeaa
open Go.ChangeShapes Go.WideShapes Go.ChangeAt Go.RowKit
set_option linter.unusedVariables false

def Own (w : World) (g cap : Nat) (L : List Int) : Prop := ∃ cur, w.heap[g]? = some (.cells cur 3 (0, 0)) ∧ L.length ≤ cap ∧ cap ≤ maxLen ∧ cur.size = cap ∧ cur.toList.take L.length = L.map (Value.int .i64)
structure Grw (g : Nat) (w w' : World) : Prop where
  grown : w.grownBy w' (some g)
  frozen : ∀ a, w'.frozen? a = w.frozen? a

theorem Grw.refl (g : Nat) (w : World) : Grw g w w := ⟨World.grownBy.refl _ _, fun _ => rfl⟩
theorem Grw.trans {g : Nat} {a b c : World} (h : Grw g a b) (k : Grw g b c) : Grw g a c :=
  ⟨⟨k.grown.os.trans h.grown.os, k.grown.tape.trans h.grown.tape, k.grown.output.trans h.grown.output, Nat.le_trans h.grown.size k.grown.size, fun i hi hne => (k.grown.block i (Nat.lt_of_lt_of_le hi h.grown.size) hne).trans (h.grown.block i hi hne)⟩, fun x => (k.frozen x).trans (h.frozen x)⟩
theorem Kept.grw {a b c : World} {g : Nat} (h : Kept a b) (hg : a.heap.size ≤ g) (k : Grw g b c) : Kept a c :=
  ⟨h.below.grown k.grown h.below.size (fun i e => by cases e; exact hg), fun x => (k.frozen x).trans (h.frozen x)⟩
theorem Grw.setCell {g : Nat} {a b : World} (h : Grw g a b) (j : Nat) (u : Value) : Grw g a (b.setCell ⟨g, j, none⟩ u) :=
  ⟨⟨h.grown.os, h.grown.tape, h.grown.output, by simpa using h.grown.size, fun i hi hne => (Below.heap_setCell b ⟨g, j, none⟩ u i (fun e => hne (by rw [e]))).trans (h.grown.block i hi hne)⟩, fun x => (World.frozen?_setCell _ _ _ _).trans (h.frozen x)⟩

theorem Own.lt {w : World} {g cap : Nat} {L : List Int} (h : Own w g cap L) : g < w.heap.size := by
  obtain ⟨cur, hg, -⟩ := h
  exact lt_of_block hg
theorem Own.kept {w w' : World} {g cap : Nat} {L : List Int} (h : Own w g cap L) (k : Kept w w') : Own w' g cap L := by
  have hl := h.lt
  obtain ⟨cur, hg, r⟩ := h
  exact ⟨cur, (k.below.block g hl).trans hg, r⟩
theorem Own.grw {w w' : World} {g g' cap : Nat} {L : List Int} (h : Own w g cap L) (k : Grw g' w w') (hne : g ≠ g') : Own w' g cap L := by
  have hl := h.lt
  obtain ⟨cur, hg, r⟩ := h
  exact ⟨cur, (k.grown.block g hl (by simpa using hne)).trans hg, r⟩
theorem Own.cell {w : World} {g cap : Nat} {L : List Int} (h : Own w g cap L) (i : Nat) (hi : i < L.length) : w.cell? ⟨g, i, none⟩ = some (.int .i64 (L.getD i 0)) := by
  obtain ⟨cur, hg, h1, h2, h3, h4⟩ := h
  rw [cell_of_row w g i cur 3 (0, 0) hg]
  have : (cur.toList.take L.length)[i]? = (L.map (Value.int .i64))[i]? := by rw [h4]
  rw [List.getElem?_take, if_pos hi, List.getElem?_map, List.getElem?_eq_getElem hi] at this
  rw [List.getD_eq_getElem?_getD, List.getElem?_eq_getElem hi]
  simpa using this
theorem Own.reads {w : World} {g cap : Nat} {L : List Int} (h : Own w g cap L) : Reads w g 0 L := fun i hi => by rw [Nat.zero_add]; exact h.cell i hi
theorem Own.free {w : World} {g cap : Nat} {L : List Int} (h : Own w g cap L) (i : Nat) : w.frozen? ⟨g, i, none⟩ = false := by
  obtain ⟨cur, hg, -⟩ := h
  exact frozen_of_row w g i cur 3 hg
theorem Own.set {w : World} {g cap : Nat} {L : List Int} (h : Own w g cap L) (i : Nat) (d : Int) : Own (w.setCell ⟨g, i, none⟩ (.int .i64 d)) g cap (L.set i d) := by
  obtain ⟨cur, hg, h1, h2, h3, h4⟩ := h
  refine ⟨cur.setIfInBounds i (.int .i64 d), heap_setCell_same w g i cur 3 _ hg, by simpa using h1, h2, by simpa using h3, ?_⟩
  rw [Array.toList_setIfInBounds, List.length_set, List.take_set, h4, List.map_set]
theorem Own.take {w : World} {g cap : Nat} {L : List Int} (h : Own w g cap L) (n : Nat) (hn : n ≤ L.length) : Own w g cap (L.take n) := by
  obtain ⟨cur, hg, h1, h2, h3, h4⟩ := h
  refine ⟨cur, hg, by simp; omega, h2, h3, ?_⟩
  rw [List.length_take, Nat.min_eq_left hn, List.map_take, ← h4, List.take_take, Nat.min_eq_left hn]
theorem Own.sl {w : World} {g cap : Nat} {L : List Int} (h : Own w g cap L) : Sl w (.slice (some ⟨g, 0, none⟩) L.length cap) L := by
  have hr := h.reads
  have hl := h.lt
  obtain ⟨cur, hg, h1, h2, h3, h4⟩ := h
  exact ⟨_, _, rfl, h1, h2, fun _ => ⟨g, 0, rfl, hl, hr⟩⟩
theorem Own.slTake {w : World} {g cap : Nat} {L : List Int} (h : Own w g cap L) (n : Nat) (hn : n ≤ L.length) : Sl w (.slice (some ⟨g, 0, none⟩) n cap) (L.take n) := by
  have := (h.take n hn).sl
  rw [List.length_take, Nat.min_eq_left hn] at this
  exact this

abbrev zeroNum : Value := .agg #[.bool false, .slice none 0 0, .int .i64 0]

theorem Own.setOther {w : World} {g cap : Nat} {L : List Int} (h : Own w g cap L) {p : Addr} (hp : g ≠ p.block) (u : Value) : Own (w.setCell p u) g cap L := by
  obtain ⟨cur, hg, r⟩ := h
  exact ⟨cur, (Below.heap_setCell w p u g hp).trans hg, r⟩

theorem getD_set (M : List Int) (c j : Nat) (d : Int) (hc : c < M.length) : (M.set c d).getD j 0 = if c = j then d else M.getD j 0 := by
  rw [List.getD_eq_getElem?_getD, List.getD_eq_getElem?_getD, List.getElem?_set]
  by_cases h : c = j
  · subst h; simp [hc]
  · simp [h]

end Go.Proofs.Ytcjgdfnbjbboeaa

namespace Go.Proofs.Ytcjgdfnbjbboeaa
open Go.ChangeShapes Go.WideShapes Go.ChangeAt Go.RowKit
set_option linter.unusedVariables false

/-! ### The one form, as a plain function -/
def frm (neg : Bool) (v : Nat) (x : Int) : Option Nm :=
  if v = 0 then some ⟨false, [], 0⟩ else
  if bl v - tzn v ≤ 60000 ∧ -1048576 ≤ wrap64 (x + (tzn v : Int)) ∧ wrap64 (x + (tzn v : Int)) ≤ 1048576 then some ⟨neg, digs (v / 2 ^ tzn v), wrap64 (x + (tzn v : Int))⟩ else none

def New (w0 w : World) (v : Value) (x : Nm) : Prop :=
  (x = ⟨false, [], 0⟩ ∧ v = zeroNum) ∨ ∃ g cap, v = .agg #[.bool x.neg, .slice (some ⟨g, 0, none⟩) x.mag.length cap, .int .i64 x.exp] ∧ w0.heap.size ≤ g ∧ Own w g cap x.mag ∧ x.mag ≠ []

def NewG (g cap : Nat) (w0 w : World) (v : Value) (x : Nm) : Prop :=
  (x = ⟨false, [], 0⟩ ∧ v = zeroNum) ∨ (v = .agg #[.bool x.neg, .slice (some ⟨g, 0, none⟩) x.mag.length cap, .int .i64 x.exp] ∧ w0.heap.size ≤ g ∧ Own w g cap x.mag ∧ x.mag ≠ [])
theorem NewG.new {g cap : Nat} {w0 w : World} {v : Value} {x : Nm} (h : NewG g cap w0 w v x) : New w0 w v x := by
  rcases h with h | h
  · exact .inl h
  · exact .inr ⟨g, cap, h⟩
theorem New.kept {w0 w w' : World} {v : Value} {x : Nm} (h : New w0 w v x) (k : Kept w w') : New w0 w' v x := by
  rcases h with h | ⟨g, cap, e, hg, ho, hne⟩
  · exact .inl h
  · exact .inr ⟨g, cap, e, hg, ho.kept k, hne⟩
theorem New.from {w0 w1 w : World} {v : Value} {x : Nm} (h : New w1 w v x) (k : Kept w0 w1) : New w0 w v x := by
  rcases h with h | ⟨g, cap, e, hg, ho, hne⟩
  · exact .inl h
  · exact .inr ⟨g, cap, e, Nat.le_trans k.below.size hg, ho, hne⟩

end Go.Proofs.Ytcjgdfnbjbboeaa

namespace Go.Proofs.Ytcjgdfnbjbboeaa
open Go.ChangeShapes Go.WideShapes Go.ChangeAt Go.RowKit
set_option linter.unusedVariables false

end Go.Proofs.Ytcjgdfnbjbboeaa

namespace Go.Proofs.Ytcjgdfnbjbboeaa
open Go.ChangeShapes Go.WideShapes Go.ChangeAt Go.RowKit
set_option linter.unusedVariables false

theorem wpList_append_run {P : Program} {w : World} {ops : Array Oper} {rest : List Oper} {o : Oper} {a : Act} {Q : Exit → Act → World → Prop} (hgd : o.guard = none) (s x : Operand) (t : TypeId)
    (ho : o.op = .call { callee := .builtin .append, args := #[s, x], argTypes := #[t, t] }) (v xv : Value) (hs : a.eval s = v) (hx : a.eval x = xv) (v' : Value) (w' : World)
    (hr : (Builtin.append_ #[t, t] o.type #[v, xv]).run P w = .ok v' w') (h : wpList P ops Q rest (a.put o.dst v') w') : wpList P ops Q (o :: rest) a w := by
  refine wpList_plain hgd fun K hK => ?_
  unfold Oper.wp execOp
  simp only [ho, resolve, invoke, builtin, Sem.run_bind, Sem.run_pure, Result.andThen_ok, List.map_toArray, List.map_cons, List.map_nil, hs, hx, hr]
  exact hK _ _ h

theorem int_info : (Try.prog.info? 3).map (fun i => (i.zero, i.size, i.bytes)) = some (some (.int .i64 0), 1, 8) := by kernel_rfl
theorem li_under : Try.prog.underlying 22 = some (.slice 3) := by kernel_rfl

def Cl (w0 w : World) (sv : Value) (L : List Int) : Prop :=
  (L = [] ∧ ∃ ao cap, sv = .slice ao 0 cap) ∨ ∃ g cap, sv = .slice (some ⟨g, 0, none⟩) L.length cap ∧ w0.heap.size ≤ g ∧ Own w g cap L

theorem Cl.kept {w0 w w' : World} {sv : Value} {L : List Int} (h : Cl w0 w sv L) (k : Kept w w') : Cl w0 w' sv L := by
  rcases h with h | ⟨g, cap, e, hg, ho⟩
  · exact .inl h
  · exact .inr ⟨g, cap, e, hg, ho.kept k⟩

theorem New.shape {w0 w : World} {v : Value} {r : Nm} (h : New w0 w v r) : ∃ n ao l c x, v = .agg #[.bool n, .slice ao l c, .int .i64 x] := by
  rcases h with ⟨-, rfl⟩ | ⟨g, cap, rfl, -⟩
  · exact ⟨_, _, _, _, _, rfl⟩
  · exact ⟨_, _, _, _, _, rfl⟩
theorem Cl.from {w0 w1 w : World} {sv : Value} {L : List Int} (h : Cl w1 w sv L) (k : Kept w0 w1) : Cl w0 w sv L := by
  rcases h with h | ⟨g, cap, e, hg, ho⟩
  · exact .inl h
  · exact .inr ⟨g, cap, e, Nat.le_trans k.below.size hg, ho⟩

end Go.Proofs.Ytcjgdfnbjbboeaa
