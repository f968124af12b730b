/- Lists that were answered, kept: the walk of the laws' own Keep.Add. The walk of the laws' own Keep.Add. Append of noughts; the lists that were answered, marked and grown. The walk of the laws' own Keep.Apart. The walk of the laws' own Keep.Apart: no two lists that were answered share memory. The walks of the document's own Valid, Answer, Turned, Scale, Sig. The walks of the document's own Answer, Turned, Scale, Sig. The walk of the laws' own 'is'. What Neg, Sign, Scale tell of any number; and the document's own Scale beside it. -/
import Derived.Test.YtdpccifhhencgaaGreatDoorZr42
namespace Go.Proofs.YtdpccifhhencgaaGreatDoor
open Go.ChangeShapes Go.WideShapes Go.ChangeAt Go.RowKit
set_option linter.unusedVariables false
set_option linter.unusedSimpArgs false
set_option maxHeartbeats 16000000
set_option maxRecDepth 100000
/-- What is turned between two worlds is in the listed blocks, or new. -/
structure GrwS (S : List Nat) (w w' : World) : Prop where
 os : w'.os = w.os
 tape : w'.tape = w.tape
 output : w'.output = w.output
 size : w.heap.size ≤ w'.heap.size
 block : ∀ i, i < w.heap.size → i ∉ S → w'.heap[i]? = w.heap[i]?
 frozen : ∀ a, w'.frozen? a = w.frozen? a
theorem GrwS.refl (S : List Nat) (w : World) : GrwS S w w := ⟨rfl, rfl, rfl, Nat.le_refl _, fun _ _ _ => rfl, fun _ => rfl⟩
theorem GrwS.trans {S : List Nat} {a b c : World} (h : GrwS S a b) (k : GrwS S b c) : GrwS S a c :=
 ⟨k.os.trans h.os, k.tape.trans h.tape, k.output.trans h.output, Nat.le_trans h.size k.size, fun i hi hn => (k.block i (Nat.lt_of_lt_of_le hi h.size) hn).trans (h.block i hi hn), fun x => (k.frozen x).trans (h.frozen x)⟩
theorem GrwS.mono {S S' : List Nat} {a b : World} (h : GrwS S a b) (hs : ∀ i ∈ S, i ∈ S') : GrwS S' a b :=
 ⟨h.os, h.tape, h.output, h.size, fun i hi hn => h.block i hi (fun hm => hn (hs i hm)), h.frozen⟩
/-- What is turned besides is new to the first world. -/
theorem GrwS.then {S S' : List Nat} {a b c : World} (h : GrwS S a b) (k : GrwS S' b c) (hs : ∀ i ∈ S', i ∈ S ∨ a.heap.size ≤ i) : GrwS S a c :=
 ⟨k.os.trans h.os, k.tape.trans h.tape, k.output.trans h.output, Nat.le_trans h.size k.size, fun i hi hn => (k.block i (Nat.lt_of_lt_of_le hi h.size) (fun hm => by rcases hs i hm with h1 | h1; exact hn h1; omega)).trans (h.block i hi hn), fun x => (k.frozen x).trans (h.frozen x)⟩
theorem Kept.toS {a b : World} (S : List Nat) (h : Kept a b) : GrwS S a b := ⟨h.below.os, h.below.tape, h.below.output, h.below.size, fun i hi _ => h.below.block i hi, h.frozen⟩
theorem Grw.toS {g : Nat} {a b : World} (h : Grw g a b) : GrwS [g] a b := ⟨h.grown.os, h.grown.tape, h.grown.output, h.grown.size, fun i hi hn => h.grown.block i hi (by simpa using hn), h.frozen⟩
theorem Kept.grwS {S : List Nat} {a b c : World} (h : Kept a b) (hS : ∀ i ∈ S, a.heap.size ≤ i) (k : GrwS S b c) : Kept a c :=
 ⟨⟨k.os.trans h.below.os, k.tape.trans h.below.tape, k.output.trans h.below.output, Nat.le_trans h.below.size k.size, fun i hi => (k.block i (Nat.lt_of_lt_of_le hi h.below.size) (fun hm => by have := hS i hm; omega)).trans (h.below.block i hi)⟩, fun x => (k.frozen x).trans (h.frozen x)⟩
theorem GrwS.setCell {S : List Nat} {a b : World} (h : GrwS S a b) {p : Addr} (hp : p.block ∈ S ∨ a.heap.size ≤ p.block) (u : Value) : GrwS S a (b.setCell p u) :=
 ⟨h.os, h.tape, h.output, by simpa using h.size, fun i hi hn => (Below.heap_setCell b p u i (fun e => by subst e; rcases hp with h1 | h1; exact hn h1; omega)).trans (h.block i hi hn), fun x => (World.frozen?_setCell _ _ _ _).trans (h.frozen x)⟩
def blk (v : Value) : List Nat := match v with
 | .slice (some a) _ _ => [a.block]
 | _ => []
theorem OwnV.grwS {S : List Nat} {w w' : World} {g cap : Nat} {e : TypeId} {V : List Value} (h : OwnV w g cap e V) (k : GrwS S w w') (hne : g ∉ S) : OwnV w' g cap e V := by
 have hl := h.lt
 obtain ⟨cur, hg, r⟩ := h
 exact ⟨cur, (k.block g hl hne).trans hg, r⟩
theorem Rw.lt {w : World} {v : Value} {e : TypeId} {V : List Value} (h : Rw w v e V) : ∀ b ∈ blk v, b < w.heap.size := by
 rcases h with ⟨-, rfl⟩ | ⟨g, cap, rfl, ho⟩
 ·intro b hb; cases hb
 ·intro b hb
  obtain rfl : b = g := by simpa [blk] using hb
  exact ho.lt
theorem Rw.grwS {S : List Nat} {w w' : World} {v : Value} {e : TypeId} {V : List Value} (h : Rw w v e V) (k : GrwS S w w') (hn : ∀ b ∈ blk v, b ∉ S) : Rw w' v e V := by
 rcases h with h | ⟨g, cap, rfl, ho⟩
 ·exact .inl h
 ·exact .inr ⟨g, cap, rfl, ho.grwS k (hn g (by simp [blk]))⟩
theorem Rw.kept {w w' : World} {v : Value} {e : TypeId} {V : List Value} (h : Rw w v e V) (k : Kept w w') : Rw w' v e V := h.grwS (k.toS []) (fun _ _ h => by cases h)
theorem Rw.sl {w : World} {v : Value} {L : List Int} (h : Rw w v 3 (L.map (Value.int .i64))) : Sl w v L := by
 rcases h with ⟨e, rfl⟩ | ⟨g, cap, rfl, ho⟩
 ·obtain rfl : L = [] := by simpa using e
  exact ⟨none, 0, rfl, Nat.le_refl _, by simp [maxLen], fun h => absurd rfl h⟩
 ·have := (own_v.2 ho).sl
  rw [List.length_map]
  exact this
theorem Rw.shape {w : World} {v : Value} {e : TypeId} {V : List Value} (h : Rw w v e V) : ∃ ao c, v = .slice ao V.length c := by
 rcases h with ⟨rfl, rfl⟩ | ⟨g, cap, rfl, ho⟩
 ·exact ⟨_, _, rfl⟩
 ·exact ⟨_, _, rfl⟩
structure Ent where
 v : Value
 u : Value
 L : List Int
def blks (kb : Nat) (vL vW : Value) (E : List Ent) : List Nat := kb :: (blk vL ++ blk vW ++ E.flatMap fun x => blk x.v ++ blk x.u)
abbrev ints (L : List Int) : List Value := L.map (Value.int .i64)
structure KeepAt (w0 w : World) (kb : Nat) (vL vW : Value) (E : List Ent) : Prop where
 kept : Kept w0 w
 cells : w.heap[kb]? = some (.cells #[vL, vW] 30 (0, 0))
 rows : Rw w vL 22 (E.map Ent.v)
 was : Rw w vW 22 (E.map Ent.u)
 each : ∀ x ∈ E, Rw w x.v 3 (ints x.L) ∧ Rw w x.u 3 (ints x.L) ∧ x.L.length < 10000000
 apart : (blks kb vL vW E).Nodup
 new : ∀ b ∈ blks kb vL vW E, w0.heap.size ≤ b
theorem KeepAt.lt {w0 w : World} {kb : Nat} {vL vW : Value} {E : List Ent} (h : KeepAt w0 w kb vL vW E) : ∀ b ∈ blks kb vL vW E, b < w.heap.size := by
 intro b hb
 unfold blks at hb
 rcases List.mem_cons.1 hb with rfl | hb
 ·exact lt_of_block h.cells
 ·rcases List.mem_append.1 hb with hb | hb
  ·rcases List.mem_append.1 hb with hb | hb
   ·exact h.rows.lt b hb
   ·exact h.was.lt b hb
  ·obtain ⟨x, hx, hb⟩ := List.mem_flatMap.1 hb
   obtain ⟨h1, h2, -⟩ := h.each x hx
   rcases List.mem_append.1 hb with hb | hb
   ·exact h1.lt b hb
   ·exact h2.lt b hb
/-- What lies elsewhere may be turned. -/
theorem KeepAt.grwS {w0 w w' : World} {kb : Nat} {vL vW : Value} {E : List Ent} {S : List Nat} (h : KeepAt w0 w kb vL vW E) (k : GrwS S w w') (hS : ∀ b ∈ blks kb vL vW E, b ∉ S) (hn : ∀ b ∈ S, w0.heap.size ≤ b) : KeepAt w0 w' kb vL vW E := by
 have hl := h.lt
 refine ⟨h.kept.grwS hn k, (k.block kb (hl kb (by simp [blks])) (hS kb (by simp [blks]))).trans h.cells, h.rows.grwS k (fun b hb => hS b (by simp [blks, hb])), h.was.grwS k (fun b hb => hS b (by simp [blks, hb])), fun x hx => ?_, h.apart, h.new⟩
 obtain ⟨h1, h2, h3⟩ := h.each x hx
 exact ⟨h1.grwS k (fun b hb => hS b (by simp only [blks, List.mem_cons, List.mem_append, List.mem_flatMap]; exact .inr (.inr ⟨x, hx, .inl hb⟩))), h2.grwS k (fun b hb => hS b (by simp only [blks, List.mem_cons, List.mem_append, List.mem_flatMap]; exact .inr (.inr ⟨x, hx, .inr hb⟩))), h3⟩
theorem KeepAt.keptOn {w0 w w' : World} {kb : Nat} {vL vW : Value} {E : List Ent} (h : KeepAt w0 w kb vL vW E) (k : Kept w w') : KeepAt w0 w' kb vL vW E := h.grwS (k.toS []) (fun _ _ h => by cases h) (fun _ h => by cases h)
theorem Sl.shape {w : World} {v : Value} {L : List Int} (h : Sl w v L) : ∃ ao c, v = .slice ao L.length c := by
 obtain ⟨ao, c, e, -⟩ := h
 exact ⟨ao, c, e⟩
/-- The lists that were answered, whatever has been written into them since. -/
structure KeepM (w0 : World) (kb : Nat) (vL : Value) (E : List Ent) (w : World) (M : Nat → List Int) : Prop where
 kept : Kept w0 w
 cells : ∃ x, w.heap[kb]? = some (.cells #[vL, x] 30 (0, 0))
 rows : Rw w vL 22 (E.map Ent.v)
 each : ∀ i (h : i < E.length), Rw w (E[i]).v 3 (ints (M i))
def updM (M : Nat → List Int) (i : Nat) (L : List Int) : Nat → List Int := fun j => if j = i then L else M j
theorem KeepM.keptOn {w0 w w' : World} {kb : Nat} {vL : Value} {E : List Ent} {M : Nat → List Int} (h : KeepM w0 kb vL E w M) (k : Kept w w') : KeepM w0 kb vL E w' M := by
 obtain ⟨x, hx⟩ := h.cells
 exact ⟨h.kept.trans k, ⟨x, (k.below.block kb (lt_of_block hx)).trans hx⟩, h.rows.kept k, fun j hj => (h.each j hj).kept k⟩
def Mk (n : Nat → Nat) (M : Nat → List Int) (k j : Nat) : Prop := (∀ i, i < k → ∀ t, t < n i → (M i).getD t 0 = -2 - (i : Int)) ∧ ∀ t, t < j → (M k).getD t 0 = -2 - (k : Int)
theorem Mk.step {n : Nat → Nat} {M : Nat → List Int} {k j : Nat} (h : Mk n M k j) (hj : j < (M k).length) : Mk n (updM M k ((M k).set j (-2 - (k : Int)))) k (j + 1) := by
 refine ⟨fun i hi t ht => ?_, fun t ht => ?_⟩
 ·unfold updM
  rw [if_neg (by omega)]
  exact h.1 i hi t ht
 ·unfold updM
  rw [if_pos rfl, List.getD_eq_getElem?_getD, List.getElem?_set]
  split
  ·rfl
  ·rw [← List.getD_eq_getElem?_getD]
   exact h.2 t (by omega)
def natV (n : Nat) (d : Int) (g : Bool) : Bool := decide ((n : Int) ≤ 2000) && (d != 0) && g
theorem natValid_some (L : List Int) (hR : Rg L) (b off cap : Nat) (w : World) (hlen : L.length < 100000000) (hne : L ≠ []) (hr : Reads w b off L) : Calls Tryz.prog 131 #[.slice (some ⟨b, off, none⟩) L.length cap] w fun e w' => e = .returned (.bool (natV L.length (L.getD (L.length - 1) 0) (dgb L))) ∧ w = w' := by
 have hpos := List.length_pos_iff.2 hne
 have hlast := hr (L.length - 1) (by omega)
 obtain ⟨n, hn⟩ : ∃ n, n + 1 = L.length := ⟨L.length - 1, by omega⟩
 have HN : Hid (n + 1 = L.length) := hn
 have HR : Hid (Reads w b off L) := hr
 rw [← hn] at hlen hlast ⊢
 rw [Nat.add_sub_cancel] at hlast ⊢
 obtain ⟨dl, hdl⟩ : ∃ d, d = L.getD n 0 := ⟨_, rfl⟩
 rw [← hdl] at hlast ⊢
 have HD0 : Hid (dl = L.getD n 0) := hdl
 clear hr hn hpos hdl
 by_cases hbig : 2000 < n + 1
 ·have e1 : natV (n + 1) dl (dgb L) = false := by unfold natV; rw [decide_eq_false (by omega)]; rfl
  rw [e1]
  go_enter Tryz.func131, Tryz.ntmps131
  go_wp2
  go_ret
  exact ⟨rfl, rfl⟩
 ·by_cases hz : dl = 0
  ·have e1 : natV (n + 1) dl (dgb L) = false := by unfold natV; simp [hz]
   rw [e1]
   have hz' : (dl == 0) = true := by simp [hz]
   go_enter Tryz.func131, Tryz.ntmps131
   go_wp2
   go_ret
   exact ⟨rfl, rfl⟩
  ·have e1 : natV (n + 1) dl (dgb L) = dgb L := by unfold natV; rw [decide_eq_true (by omega)]; simp [hz]
   rw [e1]
   have hz' : (dl == 0) = false := by simp [hz]
   clear e1
   go_enter Tryz.func131, Tryz.ntmps131
   go_wp2
   go_loop [3] (fun i => ∃ k : Nat, k ≤ n + 1 ∧ i = .int .i64 k ∧ ∀ j, j < k → 0 ≤ L.getD j 0 ∧ L.getD j 0 < 1073741824) (fun i => n + 1 - (intOf i).toNat)
   case atStart => exact ⟨0, Nat.zero_le _, rfl, fun j h => by omega⟩
   case round =>
    obtain ⟨k, hk, rfl, hd⟩ := hrel
    have HD : Hid (∀ j, j < k → 0 ≤ L.getD j 0 ∧ L.getD j 0 < 1073741824) := hd
    clear hd
    by_cases hkn : k < n + 1
    ·have hcell := HR.out k (by rw [← HN.out]; exact hkn)
     obtain ⟨d, hd⟩ : ∃ d, d = L.getD k 0 := ⟨_, rfl⟩
     have HE : Hid (d = L.getD k 0) := hd
     rw [← hd] at hcell
     clear hd
     by_cases hz2 : 0 ≤ d
     ·by_cases hz3 : d < 1073741824
      ·go_wp2
       go_round
       case rel =>
        refine ⟨k + 1, by omega, by go_num, fun j hj => ?_⟩
        by_cases hjk : j = k
        ·subst hjk; rw [← HE.out]; exact ⟨hz2, hz3⟩
        ·exact HD.out j (by omega)
       case measure => simp [intOf]; omega
      ·go_wp2
       go_ret
       refine ⟨?_, rfl⟩
       rw [dgb_false L k (by rw [← HN.out]; exact hkn) (by rw [← HE.out]; omega)]
       rfl
     ·go_wp2
      go_ret
      refine ⟨?_, rfl⟩
      rw [dgb_false L k (by rw [← HN.out]; exact hkn) (by rw [← HE.out]; omega)]
      rfl
    ·go_wp2
     go_ret
     refine ⟨?_, rfl⟩
     rw [dgb_true L (fun j hj => HD.out j (by rw [← HN.out] at hj; omega))]
     rfl
theorem rvalid_nil (neg : Bool) (ao : Option Addr) (cap : Nat) (x : Int) (w : World) : Calls Tryz.prog 83 #[.agg #[.bool neg, .slice ao 0 cap, .int .i64 x]] w fun e w' => e = .returned (.bool (!neg && x == 0)) ∧ Kept w w' := by
 cases neg
 all_goals
  go_enter Tryz.func83, Tryz.ntmps83
  go_wp2
  go_ret
  exact ⟨by simp, (Kept.refl _).alloc _ _⟩
theorem rvalid_no (neg : Bool) (n b off cap : Nat) (hn : n < 100000000) (x : Int) (w : World)
  (K : Hid (∀ w' : World, Kept w w' → Calls Tryz.prog 131 #[.slice (some ⟨b, off, none⟩) (n + 1) cap] w' fun e w'' => e = .returned (.bool false) ∧ w' = w'')) :
  Calls Tryz.prog 83 #[.agg #[.bool neg, .slice (some ⟨b, off, none⟩) (n + 1) cap, .int .i64 x]] w fun e w' => e = .returned (.bool false) ∧ Kept w w' := by
 have hK := (Kept.refl w).alloc #[.bool neg, .slice (some ⟨b, off, none⟩) (n + 1) cap, .int .i64 x] 24
 go_enter Tryz.func83, Tryz.ntmps83
 go_wp2_with (first | (go_at_call 131; refine (K.out _ hK).mono ?_; rintro e w1 ⟨rfl, rfl⟩))
 go_ret
 exact ⟨rfl, hK⟩
theorem rvalid_yes (neg : Bool) (n b off cap : Nat) (hn : n < 100000000) (d0 x : Int) (h0 : 0 ≤ d0) (w : World) (hb : b < w.heap.size) (hc : w.cell? ⟨b, off, none⟩ = some (.int .i64 d0))
  (K : Hid (∀ w' : World, Kept w w' → Calls Tryz.prog 131 #[.slice (some ⟨b, off, none⟩) (n + 1) cap] w' fun e w'' => e = .returned (.bool true) ∧ w' = w'')) :
  Calls Tryz.prog 83 #[.agg #[.bool neg, .slice (some ⟨b, off, none⟩) (n + 1) cap, .int .i64 x]] w fun e w' => e = .returned (.bool ((d0 % 2 == 1) && decide (-1048576 ≤ x) && decide (x ≤ 1048576))) ∧ Kept w w' := by
 have hK := (Kept.refl w).alloc #[.bool neg, .slice (some ⟨b, off, none⟩) (n + 1) cap, .int .i64 x] 24
 have c0 := (hK.below.cell (p := ⟨b, off, none⟩) hb).trans hc
 clear hc
 obtain ⟨r, hr⟩ : ∃ r, r = ((d0 % 2 == 1) && decide (-1048576 ≤ x) && decide (x ≤ 1048576)) := ⟨_, rfl⟩
 rw [← hr]
 have HR : Hid (r = ((d0 % 2 == 1) && decide (-1048576 ≤ x) && decide (x ≤ 1048576))) := hr
 clear hr
 go_enter Tryz.func83, Tryz.ntmps83
 go_wp2_with (first | (go_at_call 131; refine (K.out _ hK).mono ?_; rintro e w1 ⟨rfl, rfl⟩))
 all_goals
  go_ret
  refine ⟨?_, hK⟩
  rw [HR.out]
  clear HR c0 K hK
  simp_all
  try omega
theorem rvalid_any (x : Nm) (hR : Rg x.mag) (hlen : x.mag.length < 100000000) (v : Value) (w : World) (h : NumAt w v x) : Calls Tryz.prog 83 #[v] w fun e w' => e = .returned (.bool (vld x)) ∧ Kept w w' := by
 obtain ⟨neg, L, ex⟩ := x
 dsimp only at hR hlen
 obtain ⟨s, rfl, ao, cap, rfl, hc, hm, hr⟩ := h
 dsimp only at hc hr
 unfold vld
 by_cases hne : L = []
 ·subst hne; exact rvalid_nil neg ao cap ex w
 ·obtain ⟨b, off, rfl, hb, hr⟩ := hr hne
  have hpos := List.length_pos_iff.2 hne
  simp only [hne, if_false]
  have K : ∀ w' : World, Kept w w' → Calls Tryz.prog 131 #[.slice (some ⟨b, off, none⟩) L.length cap] w' fun e w'' => e = .returned (.bool (natV L.length (L.getD (L.length - 1) 0) (dgb L))) ∧ w' = w'' := fun w' k => natValid_some L hR b off cap w' hlen hne (hr.kept hb k)
  have h0 := hr 0 hpos
  obtain ⟨n, hn⟩ : ∃ n, L.length = n + 1 := ⟨L.length - 1, by omega⟩
  cases hv : natV L.length (L.getD (L.length - 1) 0) (dgb L) with
  | false =>
   rw [hv] at K
   have : vldN L.length (dgb L) (L.getD (L.length - 1) 0) (L.getD 0 0) ex = false := by
    unfold natV at hv
    unfold vldN
    cases h1 : decide ((L.length : Int) ≤ 2000)
    ·simp
    ·rw [h1] at hv
     cases h2 : (L.getD (L.length - 1) 0 != 0)
     ·simp
     ·rw [h2] at hv
      have : dgb L = false := by simpa using hv
      rw [this]
      simp
   rw [this]
   rw [hn] at K ⊢
   exact rvalid_no neg n b off cap (by omega) ex w K
  | true =>
   rw [hv] at K
   unfold natV at hv
   simp only [Bool.and_eq_true] at hv
   obtain ⟨⟨h1, h2⟩, h3⟩ := hv
   have hd := ((dgb_iff L).1 h3).getD 0
   have : vldN L.length (dgb L) (L.getD (L.length - 1) 0) (L.getD 0 0) ex = ((L.getD 0 0 % 2 == 1) && decide (-1048576 ≤ ex) && decide (ex ≤ 1048576)) := by
    unfold vldN
    rw [h1, h2, h3, and_one]
    simp
   rw [this]
   rw [hn] at K ⊢
   exact rvalid_yes neg n b off cap (by omega) _ ex (by omega) w hb h0 K
theorem NumAt.shape {w : World} {v : Value} {x : Nm} (h : NumAt w v x) : ∃ ao c, v = .agg #[.bool x.neg, .slice ao x.mag.length c, .int .i64 x.exp] := by
 obtain ⟨s, rfl, ao, c, rfl, -⟩ := h
 exact ⟨ao, c, rfl⟩
theorem rvalid2_any (x : Nm) (hR : Rg x.mag) (hlen : x.mag.length < 100000000) (v : Value) (w : World) (h : NumAt w v x) : Calls Tryz.prog 40 #[v] w fun e w' => e = .returned (.bool (vld x)) ∧ Kept w w' := by
 obtain ⟨ao, c, rfl⟩ := h.shape
 have K : Hid (∀ u, Kept w u → Calls Tryz.prog 83 #[.agg #[.bool x.neg, .slice ao x.mag.length c, .int .i64 x.exp]] u fun e w' => e = .returned (.bool (vld x)) ∧ Kept u w') := fun u k => rvalid_any x hR hlen _ u (h.kept k)
 have hK := (Kept.refl w).alloc #[.bool x.neg, .slice ao x.mag.length c, .int .i64 x.exp] 24
 generalize vld x = b at *
 generalize x.mag.length = n at *
 generalize x.neg = ng at *
 generalize x.exp = ex at *
 clear h
 go_enter Tryz.func40, Tryz.ntmps40
 go_wp2_with (first | (go_at_call 83; refine (K.out _ hK).mono ?_; rintro e w1 ⟨rfl, k1⟩))
 go_ret
 exact ⟨rfl, hK.trans k1⟩
end Go.Proofs.YtdpccifhhencgaaGreatDoor
