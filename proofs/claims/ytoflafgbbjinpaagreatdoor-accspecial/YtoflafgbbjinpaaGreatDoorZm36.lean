/- acc's Round and Mean of any sum, and that the document says so. The walks of the document's own Class and Parts. The walks of the laws' own Lent, LentNum, Back. Lists that were answered, kept: the walk of the laws' own Keep.Add. The walk of the laws' own Keep.Add. Append of noughts; the lists that were answered, marked and grown. The walk of the laws' own Keep.Apart. The walk of the laws' own Keep.Apart: no two lists that were answered share memory. The walks of the document's own Valid, Answer, Turned, Scale, Sig. The walks of the document's own Answer, Turned, Scale, Sig. The walk of the laws' own 'is'. What Neg, Sign, Scale tell of any number; and the document's own Scale beside it. The document's own numbers of any size: Norm, Plus, Minus, Times. The document's own Plus. The document's own Plus, Minus, Times and Order of any two numbers. The document's own Minus, Times and Order of any two numbers. What exact's Add, Sub, Mul and Cmp tell is what the document's own Plus, Minus, Times and Order tell. exact's Add, Sub, Mul and Cmp where a number is none. What is kept of answers, one after another; the laws' own 'is'. exact's Add, Sub, Mul and Cmp of whatever is handed in, beside the document's own answers. The walk of the laws' own 'twos'. The walk of the statement on sums, differences, products and the order of any two. What is none of what is kept stays: blocks of another type. -/
import Derived.Test.YtoflafgbbjinpaaGreatDoorZm25
import Derived.Test.YtoflafgbbjinpaaGreatDoorZm35
import Derived.Test.YtoflafgbbjinpaaGreatDoorZm24
import Derived.Test.YtoflafgbbjinpaaGreatDoorZm12
import Derived.Test.YtoflafgbbjinpaaGreatDoorZm26
import Derived.Test.YtoflafgbbjinpaaGreatDoorZm32
import Derived.Deep.Cut
import Derived.Test.YtoflafgbbjinpaaGreatDoorZm28
namespace Go.Proofs.YtoflafgbbjinpaaGreatDoor
open Go.ChangeShapes Go.WideShapes Go.ChangeAt Go.RowKit
set_option linter.unusedVariables false
set_option linter.unusedSimpArgs false
set_option maxHeartbeats 16000000
set_option maxRecDepth 100000
theorem lk_fe (n : Int) (v : Bool) : lkE n v [] = FE n 0 v := by
 unfold lkE FE
 by_cases hn : n = 64 ∨ n = 32
 ·rcases hn with rfl | rfl <;> cases v <;> rfl
 ·rw [if_neg hn, if_pos (by simp [val]; omega)]
theorem nf_ok (iv nv gv : Int) (p m z : Bool) : (nfE iv nv gv p m z).2 = (p || m || z) := by
 cases p <;> cases m <;> cases z <;> rfl
/-- What is turned between two worlds is in the listed blocks, or new. -/
structure GrwS (S : List Nat) (w w' : World) : Prop where
 os : w'.os = w.os
 tape : w'.tape = w.tape
 output : w'.output = w.output
 size : w.heap.size ≤ w'.heap.size
 block : ∀ i, i < w.heap.size → i ∉ S → w'.heap[i]? = w.heap[i]?
 frozen : ∀ a, w'.frozen? a = w.frozen? a
theorem GrwS.refl (S : List Nat) (w : World) : GrwS S w w := ⟨rfl, rfl, rfl, Nat.le_refl _, fun _ _ _ => rfl, fun _ => rfl⟩
theorem GrwS.trans {S : List Nat} {a b c : World} (h : GrwS S a b) (k : GrwS S b c) : GrwS S a c :=
 ⟨k.os.trans h.os, k.tape.trans h.tape, k.output.trans h.output, Nat.le_trans h.size k.size, fun i hi hn => (k.block i (Nat.lt_of_lt_of_le hi h.size) hn).trans (h.block i hi hn), fun x => (k.frozen x).trans (h.frozen x)⟩
theorem GrwS.mono {S S' : List Nat} {a b : World} (h : GrwS S a b) (hs : ∀ i ∈ S, i ∈ S') : GrwS S' a b :=
 ⟨h.os, h.tape, h.output, h.size, fun i hi hn => h.block i hi (fun hm => hn (hs i hm)), h.frozen⟩
/-- What is turned besides is new to the first world. -/
theorem GrwS.then {S S' : List Nat} {a b c : World} (h : GrwS S a b) (k : GrwS S' b c) (hs : ∀ i ∈ S', i ∈ S ∨ a.heap.size ≤ i) : GrwS S a c :=
 ⟨k.os.trans h.os, k.tape.trans h.tape, k.output.trans h.output, Nat.le_trans h.size k.size, fun i hi hn => (k.block i (Nat.lt_of_lt_of_le hi h.size) (fun hm => by rcases hs i hm with h1 | h1; exact hn h1; omega)).trans (h.block i hi hn), fun x => (k.frozen x).trans (h.frozen x)⟩
theorem Kept.toS {a b : World} (S : List Nat) (h : Kept a b) : GrwS S a b := ⟨h.below.os, h.below.tape, h.below.output, h.below.size, fun i hi _ => h.below.block i hi, h.frozen⟩
theorem Grw.toS {g : Nat} {a b : World} (h : Grw g a b) : GrwS [g] a b := ⟨h.grown.os, h.grown.tape, h.grown.output, h.grown.size, fun i hi hn => h.grown.block i hi (by simpa using hn), h.frozen⟩
theorem Kept.grwS {S : List Nat} {a b c : World} (h : Kept a b) (hS : ∀ i ∈ S, a.heap.size ≤ i) (k : GrwS S b c) : Kept a c :=
 ⟨⟨k.os.trans h.below.os, k.tape.trans h.below.tape, k.output.trans h.below.output, Nat.le_trans h.below.size k.size, fun i hi => (k.block i (Nat.lt_of_lt_of_le hi h.below.size) (fun hm => by have := hS i hm; omega)).trans (h.below.block i hi)⟩, fun x => (k.frozen x).trans (h.frozen x)⟩
theorem GrwS.setCell {S : List Nat} {a b : World} (h : GrwS S a b) {p : Addr} (hp : p.block ∈ S ∨ a.heap.size ≤ p.block) (u : Value) : GrwS S a (b.setCell p u) :=
 ⟨h.os, h.tape, h.output, by simpa using h.size, fun i hi hn => (Below.heap_setCell b p u i (fun e => by subst e; rcases hp with h1 | h1; exact hn h1; omega)).trans (h.block i hi hn), fun x => (World.frozen?_setCell _ _ _ _).trans (h.frozen x)⟩
def blk (v : Value) : List Nat := match v with
 | .slice (some a) _ _ => [a.block]
 | _ => []
theorem OwnV.grwS {S : List Nat} {w w' : World} {g cap : Nat} {e : TypeId} {V : List Value} (h : OwnV w g cap e V) (k : GrwS S w w') (hne : g ∉ S) : OwnV w' g cap e V := by
 have hl := h.lt
 obtain ⟨cur, hg, r⟩ := h
 exact ⟨cur, (k.block g hl hne).trans hg, r⟩
theorem Rw.lt {w : World} {v : Value} {e : TypeId} {V : List Value} (h : Rw w v e V) : ∀ b ∈ blk v, b < w.heap.size := by
 rcases h with ⟨-, rfl⟩ | ⟨g, cap, rfl, ho⟩
 ·intro b hb; cases hb
 ·intro b hb
  obtain rfl : b = g := by simpa [blk] using hb
  exact ho.lt
theorem Rw.grwS {S : List Nat} {w w' : World} {v : Value} {e : TypeId} {V : List Value} (h : Rw w v e V) (k : GrwS S w w') (hn : ∀ b ∈ blk v, b ∉ S) : Rw w' v e V := by
 rcases h with h | ⟨g, cap, rfl, ho⟩
 ·exact .inl h
 ·exact .inr ⟨g, cap, rfl, ho.grwS k (hn g (by simp [blk]))⟩
theorem Rw.kept {w w' : World} {v : Value} {e : TypeId} {V : List Value} (h : Rw w v e V) (k : Kept w w') : Rw w' v e V := h.grwS (k.toS []) (fun _ _ h => by cases h)
theorem Rw.sl {w : World} {v : Value} {L : List Int} (h : Rw w v 3 (L.map (Value.int .i64))) : Sl w v L := by
 rcases h with ⟨e, rfl⟩ | ⟨g, cap, rfl, ho⟩
 ·obtain rfl : L = [] := by simpa using e
  exact ⟨none, 0, rfl, Nat.le_refl _, by simp [maxLen], fun h => absurd rfl h⟩
 ·have := (own_v.2 ho).sl
  rw [List.length_map]
  exact this
theorem Rw.shape {w : World} {v : Value} {e : TypeId} {V : List Value} (h : Rw w v e V) : ∃ ao c, v = .slice ao V.length c := by
 rcases h with ⟨rfl, rfl⟩ | ⟨g, cap, rfl, ho⟩
 ·exact ⟨_, _, rfl⟩
 ·exact ⟨_, _, rfl⟩
structure Ent where
 v : Value
 u : Value
 L : List Int
def blks (kb : Nat) (vL vW : Value) (E : List Ent) : List Nat := kb :: (blk vL ++ blk vW ++ E.flatMap fun x => blk x.v ++ blk x.u)
abbrev ints (L : List Int) : List Value := L.map (Value.int .i64)
structure KeepAt (w0 w : World) (kb : Nat) (vL vW : Value) (E : List Ent) : Prop where
 kept : Kept w0 w
 cells : w.heap[kb]? = some (.cells #[vL, vW] 30 (0, 0))
 rows : Rw w vL 22 (E.map Ent.v)
 was : Rw w vW 22 (E.map Ent.u)
 each : ∀ x ∈ E, Rw w x.v 3 (ints x.L) ∧ Rw w x.u 3 (ints x.L) ∧ x.L.length < 10000000
 apart : (blks kb vL vW E).Nodup
 new : ∀ b ∈ blks kb vL vW E, w0.heap.size ≤ b
theorem KeepAt.lt {w0 w : World} {kb : Nat} {vL vW : Value} {E : List Ent} (h : KeepAt w0 w kb vL vW E) : ∀ b ∈ blks kb vL vW E, b < w.heap.size := by
 intro b hb
 unfold blks at hb
 rcases List.mem_cons.1 hb with rfl | hb
 ·exact lt_of_block h.cells
 ·rcases List.mem_append.1 hb with hb | hb
  ·rcases List.mem_append.1 hb with hb | hb
   ·exact h.rows.lt b hb
   ·exact h.was.lt b hb
  ·obtain ⟨x, hx, hb⟩ := List.mem_flatMap.1 hb
   obtain ⟨h1, h2, -⟩ := h.each x hx
   rcases List.mem_append.1 hb with hb | hb
   ·exact h1.lt b hb
   ·exact h2.lt b hb
/-- What lies elsewhere may be turned. -/
theorem KeepAt.grwS {w0 w w' : World} {kb : Nat} {vL vW : Value} {E : List Ent} {S : List Nat} (h : KeepAt w0 w kb vL vW E) (k : GrwS S w w') (hS : ∀ b ∈ blks kb vL vW E, b ∉ S) (hn : ∀ b ∈ S, w0.heap.size ≤ b) : KeepAt w0 w' kb vL vW E := by
 have hl := h.lt
 refine ⟨h.kept.grwS hn k, (k.block kb (hl kb (by simp [blks])) (hS kb (by simp [blks]))).trans h.cells, h.rows.grwS k (fun b hb => hS b (by simp [blks, hb])), h.was.grwS k (fun b hb => hS b (by simp [blks, hb])), fun x hx => ?_, h.apart, h.new⟩
 obtain ⟨h1, h2, h3⟩ := h.each x hx
 exact ⟨h1.grwS k (fun b hb => hS b (by simp only [blks, List.mem_cons, List.mem_append, List.mem_flatMap]; exact .inr (.inr ⟨x, hx, .inl hb⟩))), h2.grwS k (fun b hb => hS b (by simp only [blks, List.mem_cons, List.mem_append, List.mem_flatMap]; exact .inr (.inr ⟨x, hx, .inr hb⟩))), h3⟩
theorem KeepAt.keptOn {w0 w w' : World} {kb : Nat} {vL vW : Value} {E : List Ent} (h : KeepAt w0 w kb vL vW E) (k : Kept w w') : KeepAt w0 w' kb vL vW E := h.grwS (k.toS []) (fun _ _ h => by cases h) (fun _ h => by cases h)
theorem Sl.shape {w : World} {v : Value} {L : List Int} (h : Sl w v L) : ∃ ao c, v = .slice ao L.length c := by
 obtain ⟨ao, c, e, -⟩ := h
 exact ⟨ao, c, e⟩
/-- The lists that were answered, whatever has been written into them since. -/
structure KeepM (w0 : World) (kb : Nat) (vL : Value) (E : List Ent) (w : World) (M : Nat → List Int) : Prop where
 kept : Kept w0 w
 cells : ∃ x, w.heap[kb]? = some (.cells #[vL, x] 30 (0, 0))
 rows : Rw w vL 22 (E.map Ent.v)
 each : ∀ i (h : i < E.length), Rw w (E[i]).v 3 (ints (M i))
def updM (M : Nat → List Int) (i : Nat) (L : List Int) : Nat → List Int := fun j => if j = i then L else M j
theorem KeepM.keptOn {w0 w w' : World} {kb : Nat} {vL : Value} {E : List Ent} {M : Nat → List Int} (h : KeepM w0 kb vL E w M) (k : Kept w w') : KeepM w0 kb vL E w' M := by
 obtain ⟨x, hx⟩ := h.cells
 exact ⟨h.kept.trans k, ⟨x, (k.below.block kb (lt_of_block hx)).trans hx⟩, h.rows.kept k, fun j hj => (h.each j hj).kept k⟩
def Mk (n : Nat → Nat) (M : Nat → List Int) (k j : Nat) : Prop := (∀ i, i < k → ∀ t, t < n i → (M i).getD t 0 = -2 - (i : Int)) ∧ ∀ t, t < j → (M k).getD t 0 = -2 - (k : Int)
theorem Mk.start (n : Nat → Nat) (M : Nat → List Int) : Mk n M 0 0 := ⟨fun i h => by omega, fun t h => by omega⟩
theorem Mk.step {n : Nat → Nat} {M : Nat → List Int} {k j : Nat} (h : Mk n M k j) (hj : j < (M k).length) : Mk n (updM M k ((M k).set j (-2 - (k : Int)))) k (j + 1) := by
 refine ⟨fun i hi t ht => ?_, fun t ht => ?_⟩
 ·unfold updM
  rw [if_neg (by omega)]
  exact h.1 i hi t ht
 ·unfold updM
  rw [if_pos rfl, List.getD_eq_getElem?_getD, List.getElem?_set]
  split
  ·rfl
  ·rw [← List.getD_eq_getElem?_getD]
   exact h.2 t (by omega)
theorem Mk.next {n : Nat → Nat} {M : Nat → List Int} {k : Nat} (h : Mk n M k (n k)) : Mk n M (k + 1) 0 := by
 refine ⟨fun i hi t ht => ?_, fun t ht => by omega⟩
 by_cases e : i = k
 ·subst e; exact h.2 t ht
 ·exact h.1 i (by omega) t ht
theorem NumAt.shape {w : World} {v : Value} {x : Nm} (h : NumAt w v x) : ∃ ao c, v = .agg #[.bool x.neg, .slice ao x.mag.length c, .int .i64 x.exp] := by
 obtain ⟨s, rfl, ao, c, rfl, -⟩ := h
 exact ⟨ao, c, rfl⟩
theorem new_zero (w w' : World) : New w w' zeroNum ⟨false, [], 0⟩ := .inl ⟨rfl, rfl⟩
theorem wrap64_small (y : Int) (h1 : -1048576 ≤ y) (h2 : y ≤ 1048576) : wrap64 y = y := by unfold wrap64; omega
theorem neg_all (neg : Bool) (L : List Int) (x : Int) (hR : Rg L) (hlen : L.length < 60000000) : ∃ (rp : Nm) (pe : Int),
  (∀ u (ao : Option Addr) (cap : Nat), (ao = none → cap = 0) → Sl u (.slice ao L.length cap) L → Tab u → Calls Tryz.prog 85 #[.agg #[.bool neg, .slice ao L.length cap, .int .i64 x]] u fun e w' => ∃ v, e = .returned (.tuple #[v, .int .i64 pe]) ∧ New u w' v rp ∧ Kept u w') ∧
  (vld ⟨neg, L, x⟩ = false → rp = ⟨false, [], 0⟩ ∧ pe = 7) ∧ (vld ⟨neg, L, x⟩ = true → pe = 0 ∧ rp = ⟨if L.length = 0 then neg else !neg, L, x⟩) := by
 cases hv : vld ⟨neg, L, x⟩ with
 | false =>
  refine ⟨⟨false, [], 0⟩, 7, fun u ao cap hc hs hT => ?_, fun _ => ⟨rfl, rfl⟩, fun h => (by cases h)⟩
  refine (neg_bad neg L hR hlen ao cap hc x hv u hs hT).mono ?_
  rintro e w' ⟨rfl, k⟩
  exact ⟨_, rfl, new_zero _ _, k⟩
 | true =>
  by_cases hne : L = []
  ·subst hne
   obtain ⟨rfl, rfl⟩ := vld_nil neg x hv
   exact ⟨⟨false, [], 0⟩, 0, fun u ao cap hc hs hT => neg_ok false [] hR hlen ao cap hc 0 hv _ (frm_nil _ _) u hs hT, fun h => (by cases h), fun _ => ⟨rfl, rfl⟩⟩
  ·obtain ⟨p1, p2, p3, p4, p5, p6⟩ := vld_some neg L x hne hv
   have hw := wrap64_small x p5 p6
   refine ⟨⟨!neg, L, x⟩, 0, fun u ao cap hc hs hT => neg_ok neg L hR hlen ao cap hc x hv _ (by rw [frm_odd neg (!neg) L x x hne hv, hw, if_pos ⟨p5, p6⟩]) u hs hT, fun h => (by cases h), fun _ => ⟨rfl, ?_⟩⟩
   rw [if_neg (by simpa using hne)]
/-- A number that can be read, with what is known of where its digits lie. -/
def RNp (P : Nat → Prop) (w : World) (v : Value) (r : Nm) : Prop := ∃ s, v = .agg #[.bool r.neg, s, .int .i64 r.exp] ∧ RLp P w s r.mag
theorem RNp.kept {P : Nat → Prop} {w w' : World} {v : Value} {r : Nm} (h : RNp P w v r) (k : Kept w w') : RNp P w' v r := by
 obtain ⟨s, e, hs⟩ := h
 exact ⟨s, e, hs.kept k⟩
theorem RNp.shape {P : Nat → Prop} {w : World} {v : Value} {r : Nm} (h : RNp P w v r) : ∃ ao c, v = .agg #[.bool r.neg, .slice ao r.mag.length c, .int .i64 r.exp] ∧ RLp P w (.slice ao r.mag.length c) r.mag := by
 obtain ⟨s, rfl, h⟩ := h
 have h' := h
 obtain ⟨ao, c, rfl, -⟩ := h'
 exact ⟨ao, c, rfl, h⟩
theorem RNp.numAt {P : Nat → Prop} {w : World} {v : Value} {r : Nm} (h : RNp P w v r) : NumAt w v r := by
 obtain ⟨s, rfl, ao, c, rfl, -, hs, -⟩ := h
 exact ⟨_, rfl, hs⟩
theorem RLp.shape {P : Nat → Prop} {w : World} {v : Value} {M : List Int} (h : RLp P w v M) : ∃ ao c, v = .slice ao M.length c := by
 obtain ⟨ao, c, e, -⟩ := h
 exact ⟨ao, c, e⟩
theorem RLp.set {P : Nat → Prop} {w : World} {v : Value} {M : List Int} (h : RLp P w v M) (p : Addr) (hp : ∀ b, P b → b ≠ p.block) (u : Value) : RLp P (w.setCell p u) v M := by
 obtain ⟨ao, c, rfl, hc, ⟨ao', c', e, h1, h2, hr⟩, hP⟩ := h
 cases e
 refine ⟨ao, c, rfl, hc, ⟨ao, c, rfl, h1, h2, fun hne => ?_⟩, hP⟩
 obtain ⟨b, off, rfl, hb, hr⟩ := hr hne
 have hbp := hp b (hP b off hne rfl)
 refine ⟨b, off, rfl, by simpa using hb, fun i hi => ?_⟩
 exact (World.cell?_of_block (a := ⟨b, off + i, none⟩) (Below.heap_setCell w p u b hbp)).trans (hr i hi)
/-- What a function leaves in its result's block. -/
theorem RNp.done {P : Nat → Prop} {w : World} {v : Value} {r : Nm} (h : RNp P w v r) (p : Nat) (hp : ∀ b, P b → b ≠ p) (x y z : Value) : RNp P (((w.setCell ⟨p, 0, none⟩ x).setCell ⟨p, 1, none⟩ y).setCell ⟨p, 2, none⟩ z) v r := by
 obtain ⟨s, e, hs⟩ := h
 exact ⟨s, e, ((hs.set ⟨p, 0, none⟩ hp x).set ⟨p, 1, none⟩ hp y).set ⟨p, 2, none⟩ hp z⟩
def nrm (neg : Bool) (v : Nat) (x : Int) : Nm := if v = 0 then ⟨false, [], 0⟩ else ⟨neg, digs (v / 2 ^ tzn v), wrap64 (x + (tzn v : Int))⟩
theorem nrm_rg (neg : Bool) (v : Nat) (x : Int) : Rg (nrm neg v x).mag ∧ (nrm neg v x).mag = digs (v / 2 ^ tzn v) := by
 unfold nrm
 split
 ·rename_i h
  subst h
  rw [Nat.zero_div, digs_zero]
  exact ⟨Dg.nil.rg, rfl⟩
 ·exact ⟨(dg_digs _).rg, rfl⟩
/-! ### The calls -/
def Frn (w0 x : World) (kb : Nat) (vL vW : Value) (E : List Ent) (D : List Nat) (N : Nat) (u : World) : Prop := ∃ vL' vW' E', KeepAt w0 u kb vL' vW' E' ∧ E'.length ≤ N ∧ GrwS (kb :: (blk vL ++ blk vW)) x u ∧ (∀ b ∈ blks kb vL' vW' E', b ∈ blks kb vL vW E ∨ b ∈ D ∨ x.heap.size ≤ b) ∧ ∀ b ∈ kb :: (blk vL' ++ blk vW'), b ∈ kb :: (blk vL ++ blk vW) ∨ x.heap.size ≤ b
theorem Frn.start {w0 x : World} {kb : Nat} {vL vW : Value} {E : List Ent} (h : KeepAt w0 x kb vL vW E) : Frn w0 x kb vL vW E [] E.length x :=
 ⟨vL, vW, E, h, Nat.le_refl _, GrwS.refl _ _, fun b hb => .inl hb, fun b hb => .inl hb⟩
theorem Frn.on {w0 x u u' : World} {kb : Nat} {vL vW : Value} {E : List Ent} {D : List Nat} {N : Nat} (h : Frn w0 x kb vL vW E D N u) (k : Kept u u') : Frn w0 x kb vL vW E D N u' := by
 obtain ⟨vL', vW', E', h1, h0, h2, h3, h4⟩ := h
 exact ⟨vL', vW', E', h1.keptOn k, h0, h2.trans (k.toS _), h3, h4⟩
theorem Frn.kept {w0 x u : World} {kb : Nat} {vL vW : Value} {E : List Ent} {D : List Nat} {N : Nat} (h : Frn w0 x kb vL vW E D N u) : Kept w0 u := by
 obtain ⟨vL', vW', E', h1, -⟩ := h
 exact h1.kept
theorem Frn.grw {w0 x u : World} {kb : Nat} {vL vW : Value} {E : List Ent} {D : List Nat} {N : Nat} (h : Frn w0 x kb vL vW E D N u) : GrwS (kb :: (blk vL ++ blk vW)) x u := by
 obtain ⟨vL', vW', E', h1, h0, h2, -⟩ := h
 exact h2
theorem RLp.grwS {P : Nat → Prop} {S : List Nat} {w w' : World} {v : Value} {M : List Int} (h : RLp P w v M) (k : GrwS S w w') (hP : ∀ b, P b → b ∉ S) : RLp P w' v M := by
 obtain ⟨ao, c, rfl, hc, ⟨ao', c', e, h1, h2, hr⟩, hp⟩ := h
 cases e
 refine ⟨ao, c, rfl, hc, ⟨ao, c, rfl, h1, h2, fun hne => ?_⟩, hp⟩
 obtain ⟨b, off, rfl, hb, hr⟩ := hr hne
 refine ⟨b, off, rfl, Nat.lt_of_lt_of_le hb k.size, fun i hi => ?_⟩
 exact (World.cell?_of_block (a := ⟨b, off + i, none⟩) (k.block b hb (hP b (hp b off hne rfl)))).trans (hr i hi)
theorem RLp.sl {P : Nat → Prop} {w : World} {v : Value} {M : List Int} (h : RLp P w v M) : Sl w v M := by
 obtain ⟨ao, c, rfl, -, hs, -⟩ := h
 exact hs
/-- Three cells that stay as long as their block is none of those that are turned. -/
def Tri (X : World) (p : Nat) (v0 v1 v2 : Value) : Prop := p < X.heap.size ∧ ∀ S u, p ∉ S → GrwS S X u → (u.cell? ⟨p, 0, none⟩ = some v0 ∧ u.cell? ⟨p, 1, none⟩ = some v1) ∧ u.cell? ⟨p, 2, none⟩ = some v2
theorem Tri.grw {S : List Nat} {X X' : World} {p : Nat} {v0 v1 v2 : Value} (h : Tri X p v0 v1 v2) (k : GrwS S X X') (hp : p ∉ S) : Tri X' p v0 v1 v2 :=
 ⟨Nat.lt_of_lt_of_le h.1 k.size, fun S' u hp' k' => h.2 (S ++ S') u (fun hm => (List.mem_append.1 hm).elim hp hp') ((k.mono (fun i hi => List.mem_append.2 (.inl hi))).trans (k'.mono (fun i hi => List.mem_append.2 (.inr hi))))⟩
theorem Tri.kept {X X' : World} {p : Nat} {v0 v1 v2 : Value} (h : Tri X p v0 v1 v2) (k : Kept X X') : Tri X' p v0 v1 v2 := h.grw (k.toS []) (by simp)
theorem Tri.new (X : World) (v0 v1 v2 : Value) (t : TypeId) : Tri (X.alloc (.cells #[v0, v1, v2] t)) X.heap.size v0 v1 v2 :=
 ⟨by simp, fun S u hp k => by
  have hb := k.block X.heap.size (by simp) hp
  refine ⟨⟨?_, ?_⟩, ?_⟩
  ·rw [World.cell?_of_block (a := ⟨X.heap.size, 0, none⟩) hb]; simp [go_sem]
  ·rw [World.cell?_of_block (a := ⟨X.heap.size, 1, none⟩) hb]; simp [go_sem]
  ·rw [World.cell?_of_block (a := ⟨X.heap.size, 2, none⟩) hb]; simp [go_sem]⟩
end Go.Proofs.YtoflafgbbjinpaaGreatDoor
