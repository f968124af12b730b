/- The walk of the document's own NatRoot. The walk of the document's own NatDiv. The document's own quot and Quot. The document's own root and Root. Where roundingOf refuses: a width, a way, a number that is none; Round, Quot, Root with it. What exact's Round, Quot and Root answer in all cases. The laws' told; the document's First, Round, QuotOdd, Root, by its kinds. The program's and the document's Round, Quot, Root are one. What Round, Quot and Root answer, and that the document says so, in all cases. acc's Round and Mean of any sum, and that the document says so. The walks of the document's own Class and Parts. The walks of the laws' own Lent, LentNum, Back. Lists that were answered, kept: the walk of the laws' own Keep.Add. The walk of the laws' own Keep.Add. Append of noughts; the lists that were answered, marked and grown. The walk of the laws' own Keep.Apart. The walk of the laws' own Keep.Apart: no two lists that were answered share memory. The walks of the document's own Valid, Answer, Turned, Scale, Sig. The walks of the document's own Answer, Turned, Scale, Sig. The walk of the laws' own 'is'. What Neg, Sign, Scale tell of any number; and the document's own Scale beside it. -/
import Derived.Test.YtpkeadfndgddlaaDoorZl42
import Derived.Deep.CutRange
import Derived.Test.YtpkeadfndgddlaaDoorZl28
import Derived.Test.YtpkeadfndgddlaaDoorZl31
import Derived.Test.YtpkeadfndgddlaaDoorZl32
import Derived.Test.YtpkeadfndgddlaaDoorZl14
namespace Go.Proofs.YtpkeadfndgddlaaDoor
open Go.ChangeShapes Go.WideShapes Go.ChangeAt Go.RowKit
set_option linter.unusedVariables false
set_option linter.unusedSimpArgs false
set_option maxHeartbeats 16000000
set_option maxRecDepth 100000
theorem RLp.grw {H g : Nat} {w w' : World} {v : Value} {M : List Int} (h : RLp (Fresh H) w v M) (k : Grw g w w') (hg : g < H) : RLp (Fresh H) w' v M := by
 obtain ⟨ao, c, e, hn, ⟨ao', cap', e', h1, h2, hrd⟩, hP⟩ := h
 cases e'
 refine ⟨ao, c, e, hn, ⟨ao, c, rfl, h1, h2, fun hne => ?_⟩, hP⟩
 obtain ⟨b, off, rfl, hb, rd⟩ := hrd hne
 have hbg : b ≠ g := by
  have h5 : H ≤ b := hP b off hne rfl
  omega
 have blk := k.grown.block b hb (by simpa using hbg)
 refine ⟨b, off, rfl, Nat.lt_of_lt_of_le hb k.grown.size, fun i hi => ?_⟩
 have := rd i hi
 simp only [World.cell?] at this ⊢
 rw [blk]
 exact this
def FE (n way : Int) (ok : Bool) : Int := if n = 64 ∨ n = 32 then (if way < 0 ∨ 2 < way then 1 else if ok = true then 0 else 7) else 3
/- Round -/
/- Quot, where it is refused, by 0, and of 0 -/
/- Root, where it is refused, of what is below 0, and of 0 -/
/- the program's root: its lead, of the fine root -/
theorem lk_fe (n : Int) (v : Bool) : lkE n v [] = FE n 0 v := by
 unfold lkE FE
 by_cases hn : n = 64 ∨ n = 32
 ·rcases hn with rfl | rfl <;> cases v <;> rfl
 ·rw [if_neg hn, if_pos (by simp [val]; omega)]
/-- What is turned between two worlds is in the listed blocks, or new. -/
structure GrwS (S : List Nat) (w w' : World) : Prop where
 os : w'.os = w.os
 tape : w'.tape = w.tape
 output : w'.output = w.output
 size : w.heap.size ≤ w'.heap.size
 block : ∀ i, i < w.heap.size → i ∉ S → w'.heap[i]? = w.heap[i]?
 frozen : ∀ a, w'.frozen? a = w.frozen? a
theorem GrwS.refl (S : List Nat) (w : World) : GrwS S w w := ⟨rfl, rfl, rfl, Nat.le_refl _, fun _ _ _ => rfl, fun _ => rfl⟩
theorem GrwS.trans {S : List Nat} {a b c : World} (h : GrwS S a b) (k : GrwS S b c) : GrwS S a c :=
 ⟨k.os.trans h.os, k.tape.trans h.tape, k.output.trans h.output, Nat.le_trans h.size k.size, fun i hi hn => (k.block i (Nat.lt_of_lt_of_le hi h.size) hn).trans (h.block i hi hn), fun x => (k.frozen x).trans (h.frozen x)⟩
theorem GrwS.mono {S S' : List Nat} {a b : World} (h : GrwS S a b) (hs : ∀ i ∈ S, i ∈ S') : GrwS S' a b :=
 ⟨h.os, h.tape, h.output, h.size, fun i hi hn => h.block i hi (fun hm => hn (hs i hm)), h.frozen⟩
/-- What is turned besides is new to the first world. -/
theorem GrwS.then {S S' : List Nat} {a b c : World} (h : GrwS S a b) (k : GrwS S' b c) (hs : ∀ i ∈ S', i ∈ S ∨ a.heap.size ≤ i) : GrwS S a c :=
 ⟨k.os.trans h.os, k.tape.trans h.tape, k.output.trans h.output, Nat.le_trans h.size k.size, fun i hi hn => (k.block i (Nat.lt_of_lt_of_le hi h.size) (fun hm => by rcases hs i hm with h1 | h1; exact hn h1; omega)).trans (h.block i hi hn), fun x => (k.frozen x).trans (h.frozen x)⟩
theorem Kept.toS {a b : World} (S : List Nat) (h : Kept a b) : GrwS S a b := ⟨h.below.os, h.below.tape, h.below.output, h.below.size, fun i hi _ => h.below.block i hi, h.frozen⟩
theorem Grw.toS {g : Nat} {a b : World} (h : Grw g a b) : GrwS [g] a b := ⟨h.grown.os, h.grown.tape, h.grown.output, h.grown.size, fun i hi hn => h.grown.block i hi (by simpa using hn), h.frozen⟩
theorem Kept.grwS {S : List Nat} {a b c : World} (h : Kept a b) (hS : ∀ i ∈ S, a.heap.size ≤ i) (k : GrwS S b c) : Kept a c :=
 ⟨⟨k.os.trans h.below.os, k.tape.trans h.below.tape, k.output.trans h.below.output, Nat.le_trans h.below.size k.size, fun i hi => (k.block i (Nat.lt_of_lt_of_le hi h.below.size) (fun hm => by have := hS i hm; omega)).trans (h.below.block i hi)⟩, fun x => (k.frozen x).trans (h.frozen x)⟩
theorem GrwS.setCell {S : List Nat} {a b : World} (h : GrwS S a b) {p : Addr} (hp : p.block ∈ S ∨ a.heap.size ≤ p.block) (u : Value) : GrwS S a (b.setCell p u) :=
 ⟨h.os, h.tape, h.output, by simpa using h.size, fun i hi hn => (Below.heap_setCell b p u i (fun e => by subst e; rcases hp with h1 | h1; exact hn h1; omega)).trans (h.block i hi hn), fun x => (World.frozen?_setCell _ _ _ _).trans (h.frozen x)⟩
def blk (v : Value) : List Nat := match v with
 | .slice (some a) _ _ => [a.block]
 | _ => []
theorem OwnV.grwS {S : List Nat} {w w' : World} {g cap : Nat} {e : TypeId} {V : List Value} (h : OwnV w g cap e V) (k : GrwS S w w') (hne : g ∉ S) : OwnV w' g cap e V := by
 have hl := h.lt
 obtain ⟨cur, hg, r⟩ := h
 exact ⟨cur, (k.block g hl hne).trans hg, r⟩
theorem Rw.lt {w : World} {v : Value} {e : TypeId} {V : List Value} (h : Rw w v e V) : ∀ b ∈ blk v, b < w.heap.size := by
 rcases h with ⟨-, rfl⟩ | ⟨g, cap, rfl, ho⟩
 ·intro b hb; cases hb
 ·intro b hb
  obtain rfl : b = g := by simpa [blk] using hb
  exact ho.lt
theorem Rw.grwS {S : List Nat} {w w' : World} {v : Value} {e : TypeId} {V : List Value} (h : Rw w v e V) (k : GrwS S w w') (hn : ∀ b ∈ blk v, b ∉ S) : Rw w' v e V := by
 rcases h with h | ⟨g, cap, rfl, ho⟩
 ·exact .inl h
 ·exact .inr ⟨g, cap, rfl, ho.grwS k (hn g (by simp [blk]))⟩
theorem Rw.kept {w w' : World} {v : Value} {e : TypeId} {V : List Value} (h : Rw w v e V) (k : Kept w w') : Rw w' v e V := h.grwS (k.toS []) (fun _ _ h => by cases h)
theorem Rw.sl {w : World} {v : Value} {L : List Int} (h : Rw w v 3 (L.map (Value.int .i64))) : Sl w v L := by
 rcases h with ⟨e, rfl⟩ | ⟨g, cap, rfl, ho⟩
 ·obtain rfl : L = [] := by simpa using e
  exact ⟨none, 0, rfl, Nat.le_refl _, by simp [maxLen], fun h => absurd rfl h⟩
 ·have := (own_v.2 ho).sl
  rw [List.length_map]
  exact this
theorem Rw.shape {w : World} {v : Value} {e : TypeId} {V : List Value} (h : Rw w v e V) : ∃ ao c, v = .slice ao V.length c := by
 rcases h with ⟨rfl, rfl⟩ | ⟨g, cap, rfl, ho⟩
 ·exact ⟨_, _, rfl⟩
 ·exact ⟨_, _, rfl⟩
abbrev ints (L : List Int) : List Value := L.map (Value.int .i64)
theorem Sl.shape {w : World} {v : Value} {L : List Int} (h : Sl w v L) : ∃ ao c, v = .slice ao L.length c := by
 obtain ⟨ao, c, e, -⟩ := h
 exact ⟨ao, c, e⟩
def updM (M : Nat → List Int) (i : Nat) (L : List Int) : Nat → List Int := fun j => if j = i then L else M j
def Mk (n : Nat → Nat) (M : Nat → List Int) (k j : Nat) : Prop := (∀ i, i < k → ∀ t, t < n i → (M i).getD t 0 = -2 - (i : Int)) ∧ ∀ t, t < j → (M k).getD t 0 = -2 - (k : Int)
theorem Mk.step {n : Nat → Nat} {M : Nat → List Int} {k j : Nat} (h : Mk n M k j) (hj : j < (M k).length) : Mk n (updM M k ((M k).set j (-2 - (k : Int)))) k (j + 1) := by
 refine ⟨fun i hi t ht => ?_, fun t ht => ?_⟩
 ·unfold updM
  rw [if_neg (by omega)]
  exact h.1 i hi t ht
 ·unfold updM
  rw [if_pos rfl, List.getD_eq_getElem?_getD, List.getElem?_set]
  split
  ·rfl
  ·rw [← List.getD_eq_getElem?_getD]
   exact h.2 t (by omega)
theorem NumAt.shape {w : World} {v : Value} {x : Nm} (h : NumAt w v x) : ∃ ao c, v = .agg #[.bool x.neg, .slice ao x.mag.length c, .int .i64 x.exp] := by
 obtain ⟨s, rfl, ao, c, rfl, -⟩ := h
 exact ⟨ao, c, rfl⟩
end Go.Proofs.YtpkeadfndgddlaaDoor
