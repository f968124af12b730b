/- The document's own numbers of any size: Norm, Plus, Minus, Times. The document's own Plus. The document's own Plus, Minus, Times and Order of any two numbers. The document's own Minus, Times and Order of any two numbers. What exact's Add, Sub, Mul and Cmp tell is what the document's own Plus, Minus, Times and Order tell. exact's Add, Sub, Mul and Cmp where a number is none. What is kept of answers, one after another; the laws' own 'is'. exact's Add, Sub, Mul and Cmp of whatever is handed in, beside the document's own answers. The walk of the laws' own 'twos'. The walk of the statement on sums, differences, products and the order of any two. What is none of what is kept stays: blocks of another type. exact's Int below 0; the document's own Whole and Make, Finite and Exact; exact's Make and Int of whatever is handed in; the walk of the laws' own 'made'. -/
import Derived.Test.YtdpccifhhencgaaGreatDoorZr33
import Derived.Test.YtdpccifhhencgaaGreatDoorZr43
import Derived.Test.YtdpccifhhencgaaGreatDoorZr23
import Derived.Test.YtdpccifhhencgaaGreatDoorZr29
import Derived.Deep.Cut
import Derived.Test.YtdpccifhhencgaaGreatDoorZr25
import Derived.Test.YtdpccifhhencgaaGreatDoorZr21
import Derived.Test.YtdpccifhhencgaaGreatDoorZr42
namespace Go.Proofs.YtdpccifhhencgaaGreatDoor
open Go.ChangeShapes Go.WideShapes Go.ChangeAt Go.RowKit
set_option linter.unusedVariables false
set_option linter.unusedSimpArgs false
set_option maxHeartbeats 16000000
set_option maxRecDepth 100000
/-- A number that can be read, with what is known of where its digits lie. -/
def RNp (P : Nat → Prop) (w : World) (v : Value) (r : Nm) : Prop := ∃ s, v = .agg #[.bool r.neg, s, .int .i64 r.exp] ∧ RLp P w s r.mag
theorem RNp.kept {P : Nat → Prop} {w w' : World} {v : Value} {r : Nm} (h : RNp P w v r) (k : Kept w w') : RNp P w' v r := by
 obtain ⟨s, e, hs⟩ := h
 exact ⟨s, e, hs.kept k⟩
theorem RNp.imp {P Q : Nat → Prop} {w : World} {v : Value} {r : Nm} (h : RNp P w v r) (hpq : ∀ b, P b → Q b) : RNp Q w v r := by
 obtain ⟨s, e, hs⟩ := h
 exact ⟨s, e, hs.imp hpq⟩
theorem RNp.shape {P : Nat → Prop} {w : World} {v : Value} {r : Nm} (h : RNp P w v r) : ∃ ao c, v = .agg #[.bool r.neg, .slice ao r.mag.length c, .int .i64 r.exp] ∧ RLp P w (.slice ao r.mag.length c) r.mag := by
 obtain ⟨s, rfl, h⟩ := h
 have h' := h
 obtain ⟨ao, c, rfl, -⟩ := h'
 exact ⟨ao, c, rfl, h⟩
theorem RNp.numAt {P : Nat → Prop} {w : World} {v : Value} {r : Nm} (h : RNp P w v r) : NumAt w v r := by
 obtain ⟨s, rfl, ao, c, rfl, -, hs, -⟩ := h
 exact ⟨_, rfl, hs⟩
theorem RLp.shape {P : Nat → Prop} {w : World} {v : Value} {M : List Int} (h : RLp P w v M) : ∃ ao c, v = .slice ao M.length c := by
 obtain ⟨ao, c, e, -⟩ := h
 exact ⟨ao, c, e⟩
theorem RLp.set {P : Nat → Prop} {w : World} {v : Value} {M : List Int} (h : RLp P w v M) (p : Addr) (hp : ∀ b, P b → b ≠ p.block) (u : Value) : RLp P (w.setCell p u) v M := by
 obtain ⟨ao, c, rfl, hc, ⟨ao', c', e, h1, h2, hr⟩, hP⟩ := h
 cases e
 refine ⟨ao, c, rfl, hc, ⟨ao, c, rfl, h1, h2, fun hne => ?_⟩, hP⟩
 obtain ⟨b, off, rfl, hb, hr⟩ := hr hne
 have hbp := hp b (hP b off hne rfl)
 refine ⟨b, off, rfl, by simpa using hb, fun i hi => ?_⟩
 exact (World.cell?_of_block (a := ⟨b, off + i, none⟩) (Below.heap_setCell w p u b hbp)).trans (hr i hi)
/-- What a function leaves in its result's block. -/
theorem RNp.done {P : Nat → Prop} {w : World} {v : Value} {r : Nm} (h : RNp P w v r) (p : Nat) (hp : ∀ b, P b → b ≠ p) (x y z : Value) : RNp P (((w.setCell ⟨p, 0, none⟩ x).setCell ⟨p, 1, none⟩ y).setCell ⟨p, 2, none⟩ z) v r := by
 obtain ⟨s, e, hs⟩ := h
 exact ⟨s, e, ((hs.set ⟨p, 0, none⟩ hp x).set ⟨p, 1, none⟩ hp y).set ⟨p, 2, none⟩ hp z⟩
theorem tzn_le_len (M : List Int) (hD : Dg M) : nv M ≠ 0 → tzn (nv M) < 30 * M.length := fun h => by
 obtain ⟨h1, h2⟩ := bl_sub (nv M) h
 have h3 := bl_le _ _ (nv_lt M hD)
 have h4 := bl_pos _ h2
 omega
def nrm (neg : Bool) (v : Nat) (x : Int) : Nm := if v = 0 then ⟨false, [], 0⟩ else ⟨neg, digs (v / 2 ^ tzn v), wrap64 (x + (tzn v : Int))⟩
theorem nrm_rg (neg : Bool) (v : Nat) (x : Int) : Rg (nrm neg v x).mag ∧ (nrm neg v x).mag = digs (v / 2 ^ tzn v) := by
 unfold nrm
 split
 ·rename_i h
  subst h
  rw [Nat.zero_div, digs_zero]
  exact ⟨Dg.nil.rg, rfl⟩
 ·exact ⟨(dg_digs _).rg, rfl⟩
theorem norm_any (w : World) (neg : Bool) (M : List Int) (va : Value) (ha : RL w va M) (hD : Dg M) (la : M.length < 1000000) (x : Int) : Calls Tryz.prog 122 #[.bool neg, va, .int .i64 x] w fun e w' => (∃ v, e = .returned v ∧ RNp (Fresh w.heap.size) w' v (nrm neg (nv M) x)) ∧ Kept w w' := by
 have hK : Kept w (numW w) := (Kept.refl w).alloc _ _
 have KL : Hid (Calls Tryz.prog 162 #[va] (numW w) fun e w' => e = .returned (.int .i64 (lowz (nv M))) ∧ numW w = w') := natLow_any (numW w) va M (ha.kept hK) hD (by omega)
 have hlen := tzn_le_len M hD
 have hlow : nv M ≠ 0 → lowz (nv M) = (tzn (nv M) : Int) := fun h => by rw [lowz, if_neg h]
 have KS : Hid (nv M ≠ 0 → ∀ k : Nat, k = tzn (nv M) → Calls Tryz.prog 163 #[va, .int .i64 (k : Int)] (numW w) fun e w' => (∃ r, e = .returned r ∧ RLp (Fresh (numW w).heap.size) w' r (digs (nv M / 2 ^ k))) ∧ Kept (numW w) w') := fun h0 k hk => natShr_any (numW w) M k va (ha.kept hK) hD la (by have := hlen h0; omega)
 obtain ⟨ao, c, rfl, -, -⟩ := ha
 by_cases h0 : nv M = 0
 ·have e : nrm neg (nv M) x = ⟨false, [], 0⟩ := by rw [nrm, if_pos h0]
  have hl : lowz (nv M) = -1 := by rw [lowz, if_pos h0]
  rw [e]
  rw [hl] at KL
  clear KS hlow hlen hl e h0
  generalize M.length = n at *
  go_enter Tryz.func122, Tryz.ntmps122
  go_wp2_with (first | (go_at_call 162; refine KL.out.mono ?_; rintro e w1 ⟨rfl, rfl⟩))
  refine bodyPost_ret (v := zeroNum) (by simp [results, Tryz.results122, go_sem]) rfl ⟨⟨_, rfl, ⟨_, rfl, RLp.nil _ _⟩⟩, hK⟩
 ·obtain ⟨k, hk⟩ : ∃ k, tzn (nv M) = k := ⟨_, rfl⟩
  have hkb := hlen h0
  have e : nrm neg (nv M) x = ⟨neg, digs (nv M / 2 ^ k), wrap64 (x + (k : Int))⟩ := by rw [nrm, if_neg h0, hk]
  have KS2 : Hid (Calls Tryz.prog 163 #[.slice ao M.length c, .int .i64 (k : Int)] (numW w) fun e w' => (∃ r, e = .returned r ∧ RLp (Fresh (numW w).heap.size) w' r (digs (nv M / 2 ^ k))) ∧ Kept (numW w) w') := KS.out h0 k hk.symm
  rw [hlow h0, hk] at KL
  rw [e]
  obtain ⟨Q, hQ⟩ : ∃ Q, digs (nv M / 2 ^ k) = Q := ⟨_, rfl⟩
  rw [hQ] at KS2 ⊢
  have hkb2 : k < 100000000 := by omega
  clear KS hlow hlen e hk h0 hQ hkb
  generalize M.length = n at *
  go_enter Tryz.func122, Tryz.ntmps122
  go_wp2_with (first | (go_at_call 162; refine KL.out.mono ?_; rintro e w1 ⟨rfl, rfl⟩) | (go_at_call 163; refine KS2.out.mono ?_; rintro e w2 ⟨⟨r, rfl, hr⟩, hk1⟩; obtain ⟨ra, rc, rfl⟩ := hr.shape; obtain ⟨f0, f1, f2, f3⟩ := num_cells hk1))
  have hR : RNp (Fresh (numW w).heap.size) w2 (.agg #[.bool neg, .slice ra Q.length rc, .int .i64 (wrap64 (x + (k : Int)))]) ⟨neg, Q, wrap64 (x + (k : Int))⟩ := ⟨_, rfl, hr⟩
  have hd := (hR.done w.heap.size (fun b hb => by simp [Fresh] at hb; omega) (.bool neg) (.slice ra Q.length rc) (.int .i64 (wrap64 (x + (k : Int))))).imp (Q := Fresh w.heap.size) (fun b hb => by simp [Fresh] at hb ⊢; omega)
  have hkk := (hK.trans hk1).setCell (p := ⟨w.heap.size, 0, none⟩) (Nat.le_refl _) (.bool neg) |>.setCell (p := ⟨w.heap.size, 1, none⟩) (Nat.le_refl _) (.slice ra Q.length rc) |>.setCell (p := ⟨w.heap.size, 2, none⟩) (Nat.le_refl _) (.int .i64 (wrap64 (x + (k : Int))))
  refine bodyPost_ret (v := .agg #[.bool neg, .slice ra Q.length rc, .int .i64 (wrap64 (x + (k : Int)))]) (by simp [results, Tryz.results122, go_sem, f0, f1, f2]) rfl ⟨⟨_, rfl, hd⟩, hkk⟩
theorem RNp.shape5 {P : Nat → Prop} {w : World} {v : Value} {r : Nm} (h : RNp P w v r) : ∃ n ao l c x, v = .agg #[.bool n, .slice ao l c, .int .i64 x] := by
 obtain ⟨ao, c, e, -⟩ := h.shape
 exact ⟨_, _, _, _, _, e⟩
/-! ### The calls -/
def Frn (w0 x : World) (kb : Nat) (vL vW : Value) (E : List Ent) (D : List Nat) (N : Nat) (u : World) : Prop := ∃ vL' vW' E', KeepAt w0 u kb vL' vW' E' ∧ E'.length ≤ N ∧ GrwS (kb :: (blk vL ++ blk vW)) x u ∧ (∀ b ∈ blks kb vL' vW' E', b ∈ blks kb vL vW E ∨ b ∈ D ∨ x.heap.size ≤ b) ∧ ∀ b ∈ kb :: (blk vL' ++ blk vW'), b ∈ kb :: (blk vL ++ blk vW) ∨ x.heap.size ≤ b
theorem Frn.on {w0 x u u' : World} {kb : Nat} {vL vW : Value} {E : List Ent} {D : List Nat} {N : Nat} (h : Frn w0 x kb vL vW E D N u) (k : Kept u u') : Frn w0 x kb vL vW E D N u' := by
 obtain ⟨vL', vW', E', h1, h0, h2, h3, h4⟩ := h
 exact ⟨vL', vW', E', h1.keptOn k, h0, h2.trans (k.toS _), h3, h4⟩
theorem Frn.kept {w0 x u : World} {kb : Nat} {vL vW : Value} {E : List Ent} {D : List Nat} {N : Nat} (h : Frn w0 x kb vL vW E D N u) : Kept w0 u := by
 obtain ⟨vL', vW', E', h1, -⟩ := h
 exact h1.kept
theorem Frn.grw {w0 x u : World} {kb : Nat} {vL vW : Value} {E : List Ent} {D : List Nat} {N : Nat} (h : Frn w0 x kb vL vW E D N u) : GrwS (kb :: (blk vL ++ blk vW)) x u := by
 obtain ⟨vL', vW', E', h1, h0, h2, -⟩ := h
 exact h2
theorem RLp.grwS {P : Nat → Prop} {S : List Nat} {w w' : World} {v : Value} {M : List Int} (h : RLp P w v M) (k : GrwS S w w') (hP : ∀ b, P b → b ∉ S) : RLp P w' v M := by
 obtain ⟨ao, c, rfl, hc, ⟨ao', c', e, h1, h2, hr⟩, hp⟩ := h
 cases e
 refine ⟨ao, c, rfl, hc, ⟨ao, c, rfl, h1, h2, fun hne => ?_⟩, hp⟩
 obtain ⟨b, off, rfl, hb, hr⟩ := hr hne
 refine ⟨b, off, rfl, Nat.lt_of_lt_of_le hb k.size, fun i hi => ?_⟩
 exact (World.cell?_of_block (a := ⟨b, off + i, none⟩) (k.block b hb (hP b (hp b off hne rfl)))).trans (hr i hi)
theorem RLp.sl {P : Nat → Prop} {w : World} {v : Value} {M : List Int} (h : RLp P w v M) : Sl w v M := by
 obtain ⟨ao, c, rfl, -, hs, -⟩ := h
 exact hs
/-- Three cells that stay as long as their block is none of those that are turned. -/
def Tri (X : World) (p : Nat) (v0 v1 v2 : Value) : Prop := p < X.heap.size ∧ ∀ S u, p ∉ S → GrwS S X u → (u.cell? ⟨p, 0, none⟩ = some v0 ∧ u.cell? ⟨p, 1, none⟩ = some v1) ∧ u.cell? ⟨p, 2, none⟩ = some v2
theorem Tri.grw {S : List Nat} {X X' : World} {p : Nat} {v0 v1 v2 : Value} (h : Tri X p v0 v1 v2) (k : GrwS S X X') (hp : p ∉ S) : Tri X' p v0 v1 v2 :=
 ⟨Nat.lt_of_lt_of_le h.1 k.size, fun S' u hp' k' => h.2 (S ++ S') u (fun hm => (List.mem_append.1 hm).elim hp hp') ((k.mono (fun i hi => List.mem_append.2 (.inl hi))).trans (k'.mono (fun i hi => List.mem_append.2 (.inr hi))))⟩
theorem Tri.kept {X X' : World} {p : Nat} {v0 v1 v2 : Value} (h : Tri X p v0 v1 v2) (k : Kept X X') : Tri X' p v0 v1 v2 := h.grw (k.toS []) (by simp)
theorem Tri.new (X : World) (v0 v1 v2 : Value) (t : TypeId) : Tri (X.alloc (.cells #[v0, v1, v2] t)) X.heap.size v0 v1 v2 :=
 ⟨by simp, fun S u hp k => by
  have hb := k.block X.heap.size (by simp) hp
  refine ⟨⟨?_, ?_⟩, ?_⟩
  ·rw [World.cell?_of_block (a := ⟨X.heap.size, 0, none⟩) hb]; simp [go_sem]
  ·rw [World.cell?_of_block (a := ⟨X.heap.size, 1, none⟩) hb]; simp [go_sem]
  ·rw [World.cell?_of_block (a := ⟨X.heap.size, 2, none⟩) hb]; simp [go_sem]⟩
theorem tzn_lt64 (v : Nat) (hv : v ≠ 0) (h : v ≤ 9223372036854775808) : tzn v ≤ 63 := by
 obtain ⟨h1, h2⟩ := bl_sub v hv
 have h3 : bl v ≤ 64 := bl_le v 64 (by omega)
 have h4 := bl_pos _ h2
 omega
theorem whole_pos (w : World) (v : Nat) (hv : v ≤ 9223372036854775807) : Calls Tryz.prog 90 #[.int .i64 (v : Int)] w fun e w' => (∃ r, e = .returned r ∧ RNp (Fresh w.heap.size) w' r (nrm false v 0)) ∧ Kept w w' := by
 have hK : Kept w (numW w) := (Kept.refl w).alloc _ _
 have hl : (digs v).length ≤ 3 := digs_length_le v 3 (by omega)
 have KF : Hid (Calls Tryz.prog 127 #[.int .i64 (v : Int)] (numW w) fun e w' => (∃ r, e = .returned r ∧ RLp (Fresh (numW w).heap.size) w' r (digs v)) ∧ Kept (numW w) w') := natFrom_any (numW w) v hv
 have KN : Hid (∀ u va, Kept (numW w) u → RLp (Fresh (numW w).heap.size) u va (digs v) → Calls Tryz.prog 122 #[.bool false, va, .int .i64 0] u fun e w' => (∃ r, e = .returned r ∧ RNp (Fresh (numW w).heap.size) w' r (nrm false v 0)) ∧ Kept u w') := fun u va k h => by
  have := norm_any u false (digs v) va h.rl (dg_digs v) (by omega) 0
  rw [nv_digs] at this
  refine this.mono ?_
  rintro e w' ⟨⟨r, rfl, hr⟩, kk⟩
  exact ⟨⟨r, rfl, hr.imp (fun b hb => Nat.le_trans k.below.size hb)⟩, kk⟩
 have hv0 : ¬ (v : Int) < 0 := by omega
 go_enter Tryz.func90, Tryz.ntmps90
 go_wp2_with (first | (go_at_call 127; refine KF.out.mono ?_; rintro e w1 ⟨⟨va, rfl, hva⟩, k1⟩) | (go_at_call 122; refine (KN.out _ _ k1 hva).mono ?_; rintro e w2 ⟨⟨r, rfl, hN⟩, k2⟩; obtain ⟨vn, ao, vl, vc, vx, rfl⟩ := hN.shape5; obtain ⟨f0, f1, f2, f3⟩ := num_cells (k1.trans k2)))
 have hd := (hN.done w.heap.size (fun b hb => by simp [Fresh] at hb; omega) (.bool vn) (.slice ao vl vc) (.int .i64 vx)).imp (Q := Fresh w.heap.size) (fun b hb => by simp [Fresh] at hb ⊢; omega)
 have hkk := (hK.trans (k1.trans k2)).setCell (p := ⟨w.heap.size, 0, none⟩) (Nat.le_refl _) (.bool vn) |>.setCell (p := ⟨w.heap.size, 1, none⟩) (Nat.le_refl _) (.slice ao vl vc) |>.setCell (p := ⟨w.heap.size, 2, none⟩) (Nat.le_refl _) (.int .i64 vx)
 refine bodyPost_ret (v := .agg #[.bool vn, .slice ao vl vc, .int .i64 vx]) (by simp [results, Tryz.results90, go_sem, f0, f1, f2]) rfl ⟨⟨_, rfl, hd⟩, hkk⟩
/-! ### Make: what both tell -/
end Go.Proofs.YtdpccifhhencgaaGreatDoor
