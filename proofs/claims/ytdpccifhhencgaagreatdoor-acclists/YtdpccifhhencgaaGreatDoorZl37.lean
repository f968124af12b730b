/- The document's own Minus, Times and Order of any two numbers. What exact's Add, Sub, Mul and Cmp tell is what the document's own Plus, Minus, Times and Order tell. exact's Add, Sub, Mul and Cmp where a number is none. What is kept of answers, one after another; the laws' own 'is'. exact's Add, Sub, Mul and Cmp of whatever is handed in, beside the document's own answers. The walk of the laws' own 'twos'. The walk of the statement on sums, differences, products and the order of any two. What is none of what is kept stays: blocks of another type. exact's Int below 0; the document's own Whole and Make, Finite and Exact; exact's Make and Int of whatever is handed in; the walk of the laws' own 'made'. Round and Mean of any sum: what the program answers, and that the document says so. -/
import Derived.Test.YtdpccifhhencgaaGreatDoorZl36
import Derived.Test.YtdpccifhhencgaaGreatDoorZl22
import Derived.Test.YtdpccifhhencgaaGreatDoorZl25
import Derived.Deep.Cut
import Derived.Test.YtdpccifhhencgaaGreatDoorZl35
import Derived.Test.YtdpccifhhencgaaGreatDoorZl23
import Derived.Test.YtdpccifhhencgaaGreatDoorZl20
import Derived.Test.YtdpccifhhencgaaGreatDoorZl21
import Derived.Test.YtdpccifhhencgaaGreatDoorZl34
namespace Go.Proofs.YtdpccifhhencgaaGreatDoor
open Go.ChangeShapes Go.WideShapes Go.ChangeAt Go.RowKit
set_option linter.unusedVariables false
set_option linter.unusedSimpArgs false
set_option maxHeartbeats 16000000
set_option maxRecDepth 100000
def tms (a b : Nm) : Nm := nrm (a.neg != b.neg) (nv a.mag * nv b.mag) (a.exp + b.exp)
theorem times_walk (P : Nat → Prop) (w : World) (n1 n2 : Bool) (a1 a2 : Option Addr) (l1 c1 l2 c2 : Nat) (x1 x2 : Int) (r : Nm) (z : Nat) (y : Int) (hy : IntKind.i64.wrap (x1 + x2) = y)
  (KM : Hid (∀ u, Kept w u → Calls Tryz.prog 128 #[.slice a1 l1 c1, .slice a2 l2 c2] u fun e w' => (∃ s, e = .returned s ∧ RLp (Fresh u.heap.size) w' s (digs z)) ∧ Kept u w'))
  (hz : (digs z).length < 1000000) (hr : nrm (!(n1 == n2)) z y = r) :
  Calls Tryz.prog 78 #[.agg #[.bool n1, .slice a1 l1 c1, .int .i64 x1], .agg #[.bool n2, .slice a2 l2 c2, .int .i64 x2]] w fun e w' => (∃ v, e = .returned v ∧ RNp (fun c => P c ∨ w.heap.size ≤ c) w' v r) ∧ Kept w w' := by
 obtain ⟨W, hW⟩ : ∃ W, W = (((w.alloc (.cells #[.bool n1, .slice a1 l1 c1, .int .i64 x1] 24)).alloc (.cells #[.bool n2, .slice a2 l2 c2, .int .i64 x2] 24)).alloc nilNum) := ⟨_, rfl⟩
 have hK : Kept w W := by rw [hW]; exact (((Kept.refl w).alloc _ _).alloc _ _).alloc _ _
 have hWs : W.heap.size = w.heap.size + 3 := by rw [hW]; simp
 have HS : Hid (∀ u, Kept W u → ((u.cell? ⟨w.heap.size, 0, none⟩ = some (.bool n1) ∧ u.cell? ⟨w.heap.size, 1, none⟩ = some (.slice a1 l1 c1)) ∧ u.cell? ⟨w.heap.size, 2, none⟩ = some (.int .i64 x1)) ∧ (u.cell? ⟨w.heap.size + 1, 0, none⟩ = some (.bool n2) ∧ u.cell? ⟨w.heap.size + 1, 1, none⟩ = some (.slice a2 l2 c2)) ∧ u.cell? ⟨w.heap.size + 1, 2, none⟩ = some (.int .i64 x2)) := fun u k => ⟨⟨⟨((k.below.cell (p := ⟨w.heap.size, 0, none⟩) (by show w.heap.size < W.heap.size; omega)).trans (by rw [hW]; simp [go_sem])), ((k.below.cell (p := ⟨w.heap.size, 1, none⟩) (by show w.heap.size < W.heap.size; omega)).trans (by rw [hW]; simp [go_sem]))⟩, ((k.below.cell (p := ⟨w.heap.size, 2, none⟩) (by show w.heap.size < W.heap.size; omega)).trans (by rw [hW]; simp [go_sem]))⟩, ⟨((k.below.cell (p := ⟨w.heap.size + 1, 0, none⟩) (by show w.heap.size + 1 < W.heap.size; omega)).trans (by rw [hW]; simp [go_sem])), ((k.below.cell (p := ⟨w.heap.size + 1, 1, none⟩) (by show w.heap.size + 1 < W.heap.size; omega)).trans (by rw [hW]; simp [go_sem]))⟩, ((k.below.cell (p := ⟨w.heap.size + 1, 2, none⟩) (by show w.heap.size + 1 < W.heap.size; omega)).trans (by rw [hW]; simp [go_sem]))⟩
 have HC : Hid (W.cell? ⟨w.heap.size + 1 + 1, 0, none⟩ = some (.bool false) ∧ W.cell? ⟨w.heap.size + 1 + 1, 1, none⟩ = some (.slice none 0 0) ∧ W.cell? ⟨w.heap.size + 1 + 1, 2, none⟩ = some (.int .i64 0) ∧ ∀ o, W.frozen? ⟨w.heap.size + 1 + 1, o, none⟩ = false) := by rw [hW]; exact ⟨by simp [go_sem], by simp [go_sem], by simp [go_sem], fun o => by simp [go_sem]⟩
 have KN : Hid (∀ u0 u {vs : Value}, RLp (Fresh u0.heap.size) u vs (digs z) → Kept W u0 → Kept W u → Calls Tryz.prog 122 #[.bool (!(n1 == n2)), vs, .int .i64 y] u fun e w' => (∃ v, e = .returned v ∧ RNp (Fresh W.heap.size) w' v r) ∧ Kept u w') := fun u0 u vs h k0 k => by
  have := norm_any u (!(n1 == n2)) (digs z) vs h.rl (dg_digs z) hz y
  rw [nv_digs, hr] at this
  refine this.mono ?_
  rintro e w' ⟨⟨v, rfl, hv⟩, kk⟩
  exact ⟨⟨v, rfl, hv.imp (fun b hb => Nat.le_trans k.below.size hb)⟩, kk⟩
 clear hr
 go_enter Tryz.func78, Tryz.ntmps78
 go_upto_region 1 with fail
 rw [← hW]
 clear hW
 have kr0 := (Kept.refl W).drew
 refine wp_region_held_drew (S := fun u => Kept w u ∧ ((u.cell? ⟨w.heap.size, 0, none⟩ = some (.bool n1) ∧ u.cell? ⟨w.heap.size, 1, none⟩ = some (.slice a1 l1 c1)) ∧ u.cell? ⟨w.heap.size, 2, none⟩ = some (.int .i64 x1)) ∧ (u.cell? ⟨w.heap.size + 1, 0, none⟩ = some (.bool n2) ∧ u.cell? ⟨w.heap.size + 1, 1, none⟩ = some (.slice a2 l2 c2)) ∧ u.cell? ⟨w.heap.size + 1, 2, none⟩ = some (.int .i64 x2)) (by kernel_rfl) ⟨hK.trans kr0, HS.out _ kr0⟩ (fun hHeld0 => ?_)
 refine tk (i := 0) (v := ?_) rfl ?_
 simp only [Act.put, zA, zB, zC, zD, zE, zF]
 refine tk (i := 1) (v := ?_) rfl ?_
 simp only [Act.put, zA, zB, zC, zD, zE, zF]
 refine tk (i := 2) (v := ?_) rfl ?_
 simp only [Act.put, zA, zB, zC, zD, zE, zF]
 refine tk (i := 3) (v := ?_) rfl ?_
 simp only [Act.put, zA, zB, zC, zD, zE, zF]
 refine tk (i := 4) (v := ?_) rfl ?_
 simp only [Act.put, zA, zB, zC, zD, zE, zF]
 refine tk (i := 5) (v := ?_) rfl ?_
 simp only [Act.put, zA, zB, zC, zD, zE, zF]
 refine tk (i := 6) (v := ?_) rfl ?_
 simp only [Act.put, zA, zB, zC, zD, zE, zF]
 refine tk (i := 7) (v := ?_) rfl ?_
 simp only [Act.put, zA, zB, zC, zD, zE, zF]
 refine tk (i := 8) (v := ?_) rfl ?_
 simp only [Act.put, zA, zB, zC, zD, zE, zF]
 refine tk (i := 10) (v := ?_) rfl ?_
 simp only [Act.put, zA, zB, zC, zD, zE, zF]
 refine tk (i := 11) (v := ?_) rfl ?_
 simp only [Act.put, zA, zB, zC, zD, zE, zF]
 refine tk (i := 12) (v := ?_) rfl ?_
 simp only [Act.put, zA, zB, zC, zD, zE, zF]
 refine tk (i := 13) (v := ?_) rfl ?_
 simp only [Act.put, zA, zB, zC, zD, zE, zF]
 refine tk (i := 14) (v := ?_) rfl ?_
 simp only [Act.put, zA, zB, zC, zD, zE, zF]
 refine wpAnyH_ready (rs := [9]) (by kernel_rfl) (by simp) ?_
 refine AllReadyH.cons rfl (fun K hK9 => ?_) AllReadyH.nil
 go_simp
 go_wp2_with fail
 refine (KM.out _ (hK.trans kr0)).mono ?_
 rintro e x1 ⟨⟨vs, rfl, hs⟩, qq⟩
 have kr1 := kr0.trans qq
 refine hK9.out _ _ ⟨hK.trans kr1, HS.out _ kr1⟩ (fun hHeld1 => ?_)
 clear hK9 K
 refine wpAnyH_ready (rs := [15]) (by kernel_rfl) (by simp) ?_
 refine AllReadyH.cons rfl (fun K hK9 => ?_) AllReadyH.nil
 go_simp
 go_wp2_with fail
 refine (KN.out _ _ hs kr0 kr1).mono ?_
 rintro e x2 ⟨⟨v, rfl, hN⟩, qq2⟩
 obtain ⟨vn, va, vl, vc, vx, rfl⟩ := hN.shape5
 have kr2 := kr1.trans qq2
 refine hK9.out _ _ ⟨hK.trans kr2, HS.out _ kr2⟩ (fun hHeld2 => ?_)
 clear hK9 K
 have hc := HC.out
 obtain ⟨f0, f1, f2, f3⟩ := res_cells (w.heap.size + 1 + 1) (by omega) kr2 hc.1 hc.2.1 hc.2.2.1 hc.2.2.2
 have kF := (hK.trans kr2).setCell (p := ⟨w.heap.size + 1 + 1, 0, none⟩) (by show w.heap.size ≤ w.heap.size + 1 + 1; omega) (.bool vn) |>.setCell (p := ⟨w.heap.size + 1 + 1, 1, none⟩) (by show w.heap.size ≤ w.heap.size + 1 + 1; omega) (.slice va vl vc) |>.setCell (p := ⟨w.heap.size + 1 + 1, 2, none⟩) (by show w.heap.size ≤ w.heap.size + 1 + 1; omega) (.int .i64 vx)
 refine wpAnyH_ready (rs := [16]) (by kernel_rfl) (by simp) ?_
 refine AllReadyH.cons rfl (fun K hK9 => ?_) AllReadyH.nil
 go_simp
 refine hK9.out _ _ ⟨kF, by have q := HS.out _ kr2; obtain ⟨⟨⟨q0, q1⟩, q2⟩, ⟨q3, q4⟩, q5⟩ := q; refine ⟨⟨⟨?_, ?_⟩, ?_⟩, ⟨?_, ?_⟩, ?_⟩ <;> simp [go_sem, q0, q1, q2, q3, q4, q5]⟩ (fun hHeld9 => ?_)
 clear hK9 K
 refine wpAnyH_done (by kernel_rfl) ?_ _
 clear hHeld0 hHeld1 hHeld2 hHeld9
 have hd := hN.done (w.heap.size + 1 + 1) (fun b hb => by simp [Fresh] at hb; omega) (.bool vn) (.slice va vl vc) (.int .i64 vx)
 go_wp2
 refine bodyPost_ret (v := .agg #[.bool vn, .slice va vl vc, .int .i64 vx]) (by simp [results, Tryz.results78, go_sem, f0, f1, f2]) rfl ⟨⟨_, rfl, hd.imp (fun b hb => Or.inr (by simp [Fresh] at hb; omega))⟩, kF⟩
theorem vld_cn (a : Nm) (h : vld a = true) : Cn a.mag ∧ a.mag.length ≤ 2000 ∧ -1048576 ≤ a.exp ∧ a.exp ≤ 1048576 := by
 obtain ⟨n, L, x⟩ := a
 by_cases e : L = []
 ·subst e
  obtain ⟨-, rfl⟩ := vld_nil _ _ h
  exact ⟨⟨Dg.nil, fun h => absurd rfl h⟩, by simp, by dsimp only; omega, by dsimp only; omega⟩
 ·obtain ⟨p1, p2, p3, p4, p5, p6⟩ := vld_some n L x e h
  exact ⟨⟨p2, fun _ => p3⟩, p1, p5, p6⟩
theorem bl_ge_mul (a b : Nat) (ha : a ≠ 0) (hb : b ≠ 0) : bl a + bl b - 1 ≤ bl (a * b) := by
 have h1 := bl_pos a ha
 have h2 := bl_pos b hb
 have h3 : 2 ^ (bl a - 1) * 2 ^ (bl b - 1) ≤ a * b := Nat.mul_le_mul h1.1 h2.1
 rw [← Nat.pow_add] at h3
 have := le_bl _ _ h3
 omega
theorem mul_ans (a b : Nm) (ha : vld a = true) (hb : vld b = true) : mulN a b = if vld (tms a b) = true then some (tms a b) else none := by
 obtain ⟨n1, L1, x1⟩ := a
 obtain ⟨n2, L2, x2⟩ := b
 have q1 := vld_cn _ ha
 have q2 := vld_cn _ hb
 unfold mulN tms
 dsimp only at *
 have b1 : bl (nv L1) ≤ 60000 := Nat.le_trans (bl_le _ _ (nv_lt L1 q1.1.1)) (by omega)
 have b2 : bl (nv L2) ≤ 60000 := Nat.le_trans (bl_le _ _ (nv_lt L2 q2.1.1)) (by omega)
 rw [← frm_nrm]
 by_cases hfit : (bl (nv L1) : Int) + (bl (nv L2) : Int) - 1 ≤ 60000 ∧ -1048576 ≤ x1 + x2 ∧ x1 + x2 ≤ 1048576
 ·rw [if_pos hfit]
 ·rw [if_neg hfit]
  by_cases e1 : L1 = []
  ·subst e1
   obtain ⟨-, rfl⟩ := vld_nil _ _ ha
   exfalso
   apply hfit
   refine ⟨?_, by omega, by omega⟩
   have : bl (nv []) = 0 := by simp [nv, bl]
   rw [this]
   omega
  by_cases e2 : L2 = []
  ·subst e2
   obtain ⟨-, rfl⟩ := vld_nil _ _ hb
   exfalso
   apply hfit
   refine ⟨?_, by omega, by omega⟩
   have : bl (nv []) = 0 := by simp [nv, bl]
   rw [this]
   omega
  obtain ⟨p1, p2, p3, p4, p5, p6⟩ := vld_some n1 L1 x1 e1 ha
  obtain ⟨r1, r2, r3, r4, r5, r6⟩ := vld_some n2 L2 x2 e2 hb
  have o1 := nv_odd L1 p2 p4
  have o2 := nv_odd L2 r2 r4
  have o3 : nv L1 * nv L2 % 2 = 1 := by rw [Nat.mul_mod, o1, o2]
  have hz := tzn_odd _ o3
  have hge := bl_ge_mul (nv L1) (nv L2) (by omega) (by omega)
  unfold frm
  rw [if_neg (by omega), hz, if_neg]
  rintro ⟨g1, g2, g3⟩
  apply hfit
  simp only [Int.natCast_zero, Int.add_zero] at g2 g3
  have hw : wrap64 (x1 + x2) = x1 + x2 := by unfold wrap64; omega
  rw [hw] at g2 g3
  exact ⟨by omega, g2, g3⟩
/-- A sum that reaches too far has no valid Num. -/
theorem far_none (n1 n2 : Bool) (L1 L2 : List Int) (x1 x2 : Int) (h1 : L1 ≠ []) (h2 : L2 ≠ []) (hv1 : vld ⟨n1, L1, x1⟩ = true) (hv2 : vld ⟨n2, L2, x2⟩ = true) (hlt : x1 < x2) (hfar : 60001 < x2 + (bl (nv L2) : Int) - x1) (neg : Bool) (T : Int) (hT : T = sg n1 ((nv L1 : Nat) : Int) + sg n2 ((nv L2 * 2 ^ (x2 - x1).toNat : Nat) : Int)) : frm neg T.natAbs x1 = none := by
 obtain ⟨p1, p2, p3, p4, p5, p6⟩ := vld_some n1 L1 x1 h1 hv1
 obtain ⟨r1, r2, r3, r4, r5, r6⟩ := vld_some n2 L2 x2 h2 hv2
 have o1 := nv_odd L1 p2 p4
 have v2 := nv_pos_of n2 L2 x2 h2 hv2
 obtain ⟨k, hk⟩ : ∃ k, (x2 - x1).toNat = k := ⟨_, rfl⟩
 rw [hk] at hT
 have hk1 : 0 < k := by omega
 obtain ⟨N, hN⟩ : ∃ N : Nat, N = 60000 := ⟨_, rfl⟩
 have lt1 : nv L1 < 2 ^ N := Nat.lt_of_lt_of_le (nv_lt L1 p2) (Nat.pow_le_pow_right (by decide) (by omega))
 have hb := bl_mul (nv L2) k (by omega)
 have hge : 2 ^ (N + 1) ≤ nv L2 * 2 ^ k := by
  have := (bl_pos (nv L2 * 2 ^ k) (by have := Nat.mul_pos v2 (Nat.two_pow_pos k); omega)).1
  refine Nat.le_trans (Nat.pow_le_pow_right (by decide) ?_) this
  rw [hb]
  omega
 have hev : nv L2 * 2 ^ k % 2 = 0 := by
  obtain ⟨j, rfl⟩ : ∃ j, k = j + 1 := ⟨k - 1, by omega⟩
  rw [Nat.pow_succ, ← Nat.mul_assoc]
  omega
 generalize nv L2 * 2 ^ k = Y at *
 rw [Nat.pow_succ] at hge
 have habs : 2 ^ N ≤ T.natAbs := by
  rw [hT]
  cases n1 <;> cases n2 <;> simp only [sg, Bool.false_eq_true, if_false, if_true] <;> omega
 have hodd : T.natAbs % 2 = 1 := by
  rw [hT]
  cases n1 <;> cases n2 <;> simp only [sg, Bool.false_eq_true, if_false, if_true] <;> omega
 have hz := tzn_odd _ hodd
 have hbl := le_bl _ _ habs
 unfold frm
 rw [if_neg (by omega), hz, if_neg]
 rintro ⟨g1, -, -⟩
 omega
theorem add_ans (a b : Nm) (ha : vld a = true) (hb : vld b = true) : addZ a b = if vld (pls a b) = true then some (pls a b) else none := by
 obtain ⟨n1, L1, x1⟩ := a
 obtain ⟨n2, L2, x2⟩ := b
 unfold addZ pls
 dsimp only
 by_cases e1 : L1 = []
 ·rw [if_pos e1, if_pos e1, if_pos hb]
  by_cases e2 : L2 = []
  ·subst e2
   obtain ⟨rfl, rfl⟩ := vld_nil _ _ hb
   rw [if_pos rfl]
  ·rw [if_neg e2]
 ·rw [if_neg e1, if_neg e1]
  by_cases e2 : L2 = []
  ·rw [if_pos e2, if_pos e2, if_pos ha]
  ·rw [if_neg e2, if_neg e2, ← frm_nrm]
   unfold addN
   dsimp only
   by_cases hr : max (tp ⟨n1, L1, x1⟩) (tp ⟨n2, L2, x2⟩) - min x1 x2 ≤ 60001
   ·rw [if_pos hr]
   ·rw [if_neg hr]
    have q1 := vld_cn _ ha
    have q2 := vld_cn _ hb
    have b1 : bl (nv L1) ≤ 60000 := Nat.le_trans (bl_le _ _ (nv_lt L1 q1.1.1)) (by have := q1.2.1; dsimp only at this; omega)
    have b2 : bl (nv L2) ≤ 60000 := Nat.le_trans (bl_le _ _ (nv_lt L2 q2.1.1)) (by have := q2.2.1; dsimp only at this; omega)
    unfold tp at hr
    dsimp only at hr
    rcases Int.lt_trichotomy x1 x2 with h | h | h
    ·have hm : min x1 x2 = x1 := by omega
     rw [hm] at hr ⊢
     refine (far_none n1 n2 L1 L2 x1 x2 e1 e2 ha hb h (by omega) _ _ ?_).symm
     rw [tot_nat n1 n2 L1 L2 x1 x2 x1 0 (x2 - x1).toNat (by omega) rfl, Nat.pow_zero, Nat.mul_one]
    ·exfalso
     omega
    ·have hm : min x1 x2 = x2 := by omega
     rw [hm] at hr ⊢
     refine (far_none n2 n1 L2 L1 x2 x1 e2 e1 hb ha h (by omega) _ _ ?_).symm
     rw [tot_nat n1 n2 L1 L2 x1 x2 x2 (x1 - x2).toNat 0 rfl (by omega), Nat.pow_zero, Nat.mul_one, Int.add_comm]
/-! ### The calls -/
abbrev PL (P : Nat → Prop) (w : World) : Nat → Prop := fun c => P c ∨ w.heap.size ≤ c
theorem times_any (P : Nat → Prop) (w : World) (a b : Nm) (va vb : Value) (ha : RNp P w va a) (hb : RNp P w vb b) (ca : vld a = true) (cb : vld b = true) :
  Calls Tryz.prog 78 #[va, vb] w fun e w' => (∃ v, e = .returned v ∧ RNp (PL P w) w' v (tms a b)) ∧ Kept w w' := by
 have qa := vld_cn a ca
 have qb := vld_cn b cb
 obtain ⟨n1, L1, x1⟩ := a
 obtain ⟨n2, L2, x2⟩ := b
 obtain ⟨a1, c1, rfl, hra⟩ := ha.shape
 obtain ⟨a2, c2, rfl, hrb⟩ := hb.shape
 dsimp only at *
 have d1 := cn_digs qa.1
 have d2 := cn_digs qb.1
 refine times_walk P w n1 n2 a1 a2 L1.length c1 L2.length c2 x1 x2 _ (nv L1 * nv L2) (x1 + x2) (by rw [wrap_i64]; omega) (fun u k => ?_) ?_ rfl
 ·have := natMul_any u (nv L1) (nv L2) (.slice a1 L1.length c1) (.slice a2 L2.length c2) (by rw [d1]; exact hra.rl.kept k) (by rw [d2]; exact hrb.rl.kept k) (by rw [d1]; omega) (by rw [d2]; omega)
  exact this
 ·obtain ⟨N, hN⟩ : ∃ N : Nat, N = 4000 := ⟨_, rfl⟩
  have h1 := nv_lt L1 qa.1.1
  have h2 := nv_lt L2 qb.1.1
  have h3 : nv L1 * nv L2 < 2 ^ (30 * N) := by
   have := Nat.mul_lt_mul'' h1 h2
   rw [← Nat.pow_add] at this
   exact Nat.lt_of_lt_of_le this (Nat.pow_le_pow_right (by decide) (by omega))
  have := digs_length_le _ _ h3
  omega
def Frn (w0 x : World) (kb : Nat) (vL vW : Value) (E : List Ent) (D : List Nat) (N : Nat) (u : World) : Prop := ∃ vL' vW' E', KeepAt w0 u kb vL' vW' E' ∧ E'.length ≤ N ∧ GrwS (kb :: (blk vL ++ blk vW)) x u ∧ (∀ b ∈ blks kb vL' vW' E', b ∈ blks kb vL vW E ∨ b ∈ D ∨ x.heap.size ≤ b) ∧ ∀ b ∈ kb :: (blk vL' ++ blk vW'), b ∈ kb :: (blk vL ++ blk vW) ∨ x.heap.size ≤ b
theorem Frn.start {w0 x : World} {kb : Nat} {vL vW : Value} {E : List Ent} (h : KeepAt w0 x kb vL vW E) : Frn w0 x kb vL vW E [] E.length x :=
 ⟨vL, vW, E, h, Nat.le_refl _, GrwS.refl _ _, fun b hb => .inl hb, fun b hb => .inl hb⟩
theorem Frn.on {w0 x u u' : World} {kb : Nat} {vL vW : Value} {E : List Ent} {D : List Nat} {N : Nat} (h : Frn w0 x kb vL vW E D N u) (k : Kept u u') : Frn w0 x kb vL vW E D N u' := by
 obtain ⟨vL', vW', E', h1, h0, h2, h3, h4⟩ := h
 exact ⟨vL', vW', E', h1.keptOn k, h0, h2.trans (k.toS _), h3, h4⟩
theorem Frn.kept {w0 x u : World} {kb : Nat} {vL vW : Value} {E : List Ent} {D : List Nat} {N : Nat} (h : Frn w0 x kb vL vW E D N u) : Kept w0 u := by
 obtain ⟨vL', vW', E', h1, -⟩ := h
 exact h1.kept
theorem Frn.grw {w0 x u : World} {kb : Nat} {vL vW : Value} {E : List Ent} {D : List Nat} {N : Nat} (h : Frn w0 x kb vL vW E D N u) : GrwS (kb :: (blk vL ++ blk vW)) x u := by
 obtain ⟨vL', vW', E', h1, h0, h2, -⟩ := h
 exact h2
theorem RLp.grwS {P : Nat → Prop} {S : List Nat} {w w' : World} {v : Value} {M : List Int} (h : RLp P w v M) (k : GrwS S w w') (hP : ∀ b, P b → b ∉ S) : RLp P w' v M := by
 obtain ⟨ao, c, rfl, hc, ⟨ao', c', e, h1, h2, hr⟩, hp⟩ := h
 cases e
 refine ⟨ao, c, rfl, hc, ⟨ao, c, rfl, h1, h2, fun hne => ?_⟩, hp⟩
 obtain ⟨b, off, rfl, hb, hr⟩ := hr hne
 refine ⟨b, off, rfl, Nat.lt_of_lt_of_le hb k.size, fun i hi => ?_⟩
 exact (World.cell?_of_block (a := ⟨b, off + i, none⟩) (k.block b hb (hP b (hp b off hne rfl)))).trans (hr i hi)
theorem RLp.sl {P : Nat → Prop} {w : World} {v : Value} {M : List Int} (h : RLp P w v M) : Sl w v M := by
 obtain ⟨ao, c, rfl, -, hs, -⟩ := h
 exact hs
/-- Three cells that stay as long as their block is none of those that are turned. -/
def Tri (X : World) (p : Nat) (v0 v1 v2 : Value) : Prop := p < X.heap.size ∧ ∀ S u, p ∉ S → GrwS S X u → (u.cell? ⟨p, 0, none⟩ = some v0 ∧ u.cell? ⟨p, 1, none⟩ = some v1) ∧ u.cell? ⟨p, 2, none⟩ = some v2
theorem Tri.grw {S : List Nat} {X X' : World} {p : Nat} {v0 v1 v2 : Value} (h : Tri X p v0 v1 v2) (k : GrwS S X X') (hp : p ∉ S) : Tri X' p v0 v1 v2 :=
 ⟨Nat.lt_of_lt_of_le h.1 k.size, fun S' u hp' k' => h.2 (S ++ S') u (fun hm => (List.mem_append.1 hm).elim hp hp') ((k.mono (fun i hi => List.mem_append.2 (.inl hi))).trans (k'.mono (fun i hi => List.mem_append.2 (.inr hi))))⟩
theorem Tri.kept {X X' : World} {p : Nat} {v0 v1 v2 : Value} (h : Tri X p v0 v1 v2) (k : Kept X X') : Tri X' p v0 v1 v2 := h.grw (k.toS []) (by simp)
theorem Tri.new (X : World) (v0 v1 v2 : Value) (t : TypeId) : Tri (X.alloc (.cells #[v0, v1, v2] t)) X.heap.size v0 v1 v2 :=
 ⟨by simp, fun S u hp k => by
  have hb := k.block X.heap.size (by simp) hp
  refine ⟨⟨?_, ?_⟩, ?_⟩
  ·rw [World.cell?_of_block (a := ⟨X.heap.size, 0, none⟩) hb]; simp [go_sem]
  ·rw [World.cell?_of_block (a := ⟨X.heap.size, 1, none⟩) hb]; simp [go_sem]
  ·rw [World.cell?_of_block (a := ⟨X.heap.size, 2, none⟩) hb]; simp [go_sem]⟩
theorem rexact_any (b n : Int) (hb1 : -9223372036854775808 ≤ b) (hb2 : b ≤ 9223372036854775807) (hn : n = 64 ∨ n = 32) (hc : cls b n < 3) (w : World) : Calls Tryz.prog 76 #[.int .i64 b, .int .i64 n] w fun e w' => (∃ v, e = .returned v ∧ RNp (Fresh w.heap.size) w' v (nrm (pneg b n) (pmag b n).toNat (pexp b n))) ∧ Kept w w' := by
 have hK : Kept w (numW w) := (Kept.refl w).alloc _ _
 have hf := fl_any b n hn hc
 have KP : Hid (∀ u, Calls Tryz.prog 126 #[.int .i64 b, .int .i64 n] u fun e w' => e = .returned (.tuple #[.bool (pneg b n), .int .i64 (pmag b n), .int .i64 (pexp b n), .bool true]) ∧ Kept u w') := fun u => by
  have := rparts_any b n hb1 hb2 u
  rw [fin_of b n hn hc] at this
  exact this
 have hm53 : pmag b n < 9223372036854775807 := by
  have h1 := hf.2.1
  have h2 : (2 : Int) ^ (kprec n).toNat ≤ 9007199254740992 := by rcases hn with rfl | rfl <;> decide
  omega
 obtain ⟨v, hv⟩ : ∃ v : Nat, pmag b n = (v : Int) := ⟨(pmag b n).toNat, by have := hf.1; omega⟩
 have hv2 : (pmag b n).toNat = v := by omega
 have hv9 : v ≤ 9223372036854775807 := by omega
 rw [hv] at KP
 rw [hv2]
 have KF : Hid (∀ u, Kept (numW w) u → Calls Tryz.prog 127 #[.int .i64 (v : Int)] u fun e w' => (∃ r, e = .returned r ∧ RLp (Fresh (numW w).heap.size) w' r (digs v)) ∧ Kept u w') := fun u k => (natFrom_any u v hv9).mono (by
  rintro e w' ⟨⟨r, rfl, hr⟩, kk⟩
  exact ⟨⟨r, rfl, hr.imp (fun b hb => Nat.le_trans k.below.size hb)⟩, kk⟩)
 have hl : (digs v).length ≤ 3 := digs_length_le v 3 (by omega)
 have KN : Hid (∀ u va, Kept (numW w) u → RLp (Fresh (numW w).heap.size) u va (digs v) → Calls Tryz.prog 122 #[.bool (pneg b n), va, .int .i64 (pexp b n)] u fun e w' => (∃ r, e = .returned r ∧ RNp (Fresh (numW w).heap.size) w' r (nrm (pneg b n) v (pexp b n))) ∧ Kept u w') := fun u va k h => by
  have := norm_any u (pneg b n) (digs v) va h.rl (dg_digs v) (by omega) (pexp b n)
  rw [nv_digs] at this
  refine this.mono ?_
  rintro e w' ⟨⟨r, rfl, hr⟩, kk⟩
  exact ⟨⟨r, rfl, hr.imp (fun b hb => Nat.le_trans k.below.size hb)⟩, kk⟩
 clear hf hm53 hv hv2 hl
 generalize nrm (pneg b n) v (pexp b n) = NR at *
 generalize pneg b n = pn at *
 generalize pexp b n = px at *
 go_enter Tryz.func76, Tryz.ntmps76
 go_wp2_with (first | (go_at_call 126; refine (KP.out _).mono ?_; rintro e w1 ⟨rfl, k1⟩) | (go_at_call 127; refine (KF.out _ k1).mono ?_; rintro e w2 ⟨⟨va, rfl, hva⟩, k2⟩) | (go_at_call 122; refine (KN.out _ _ (k1.trans k2) hva).mono ?_; rintro e w3 ⟨⟨r, rfl, hN⟩, k3⟩; obtain ⟨vn, ao, vl, vc, vx, rfl⟩ := hN.shape5; obtain ⟨f0, f1, f2, f3⟩ := num_cells (k1.trans (k2.trans k3))))
 have hd := (hN.done w.heap.size (fun b hb => by simp [Fresh] at hb; omega) (.bool vn) (.slice ao vl vc) (.int .i64 vx)).imp (Q := Fresh w.heap.size) (fun b hb => by simp [Fresh] at hb ⊢; omega)
 have hkk := (hK.trans (k1.trans (k2.trans k3))).setCell (p := ⟨w.heap.size, 0, none⟩) (Nat.le_refl _) (.bool vn) |>.setCell (p := ⟨w.heap.size, 1, none⟩) (Nat.le_refl _) (.slice ao vl vc) |>.setCell (p := ⟨w.heap.size, 2, none⟩) (Nat.le_refl _) (.int .i64 vx)
 refine bodyPost_ret (v := .agg #[.bool vn, .slice ao vl vc, .int .i64 vx]) (by simp [results, Tryz.results76, go_sem, f0, f1, f2]) rfl ⟨⟨_, rfl, hd⟩, hkk⟩
/-! ### Make: what both tell -/
theorem ofN_nrm (b n : Int) (hn : n = 64 ∨ n = 32) (hc : cls b n < 3) : vld (nrm (pneg b n) (pmag b n).toNat (pexp b n)) = true ∧ ofN b n = nrm (pneg b n) (pmag b n).toNat (pexp b n) := by
 have h1 := of_frm b n hn hc
 rw [frm_nrm] at h1
 by_cases h : vld (nrm (pneg b n) (pmag b n).toNat (pexp b n)) = true
 ·rw [if_pos h] at h1
  exact ⟨h, (Option.some.inj h1).symm⟩
 ·rw [if_neg h] at h1
  cases h1
theorem sl_none (w : World) : Sl w (.slice none 0 0) [] := ⟨none, 0, rfl, Nat.le_refl _, by simp [maxLen], fun h => absurd rfl h⟩
theorem lookA (n : Int) (a : Nm) (ra : Rg a.mag) (la : a.mag.length < 60000000) (p m z : Bool) (ao : Option Addr) (c : Nat) (u : World) (h : Sl u (.slice ao a.mag.length c) a.mag) (f : Int) (hf : f = FE n 0 (vld a)) : Calls Tryz.prog 58 #[.int .i64 n, accV a.neg (.slice ao a.mag.length c) a.exp p m z, .slice none 0 0] u fun e w' => e = .returned (.int .i64 f) ∧ Kept u w' := by
 have := look_any n a.neg a.mag a.exp ra (by omega) ao c p m z [] (by simp) u h (.slice none 0 0) (sl_none u)
 rw [lk_fe] at this
 rw [hf]
 exact this
theorem accRound_full (n : Int) (a : Nm) (ra : Rg a.mag) (la : a.mag.length < 60000000) (p m z : Bool) (g : Int) (hg : g = FE n 0 (vld a)) : ∃ q : Int,
  (∀ (ao : Option Addr) (c : Nat) (w : World), Tab w → Sl w (.slice ao a.mag.length c) a.mag → Calls Tryz.prog 45 #[accV a.neg (.slice ao a.mag.length c) a.exp p m z, .int .i64 n] w fun e w' => e = .returned (.tuple #[.int .i64 q, .int .i64 g]) ∧ Kept w w') ∧ (g ≠ 0 → q = 0) ∧
  (g = 0 → ∀ (ao : Option Addr) (c : Nat) (w : World), (ao = none → c = 0) → Sl w (.slice ao a.mag.length c) a.mag → Calls Tryz.prog 46 #[accV a.neg (.slice ao a.mag.length c) a.exp p m z, .int .i64 n] w fun e w' => e = .returned (.int .i64 q) ∧ Kept w w') := by
 obtain ⟨q0, o, hP, hno, hD⟩ := round_full n 0 a ra la g hg
 by_cases h0 : g = 0
 ·subst h0
  obtain ⟨hn, -, hv⟩ := fe_ok hg.symm
  refine ⟨bif (nfE (ivn n) (nvn n) (gvn n) p m z).2 then (nfE (ivn n) (nvn n) (gvn n) p m z).1 else q0, fun ao c w hT h => ?_, fun h => absurd rfl h, fun _ ao c w hc h => ?_⟩
  ·have := accRound_ok n a.neg ao a.mag.length c a.exp p m z w (nfE (ivn n) (nvn n) (gvn n) p m z).1 (nfE (ivn n) (nvn n) (gvn n) p m z).2 q0 0 o (fun u k => lookA n a ra la p m z ao c u (h.kept k) 0 hg) (fun u k => notFin n hn a.neg ao a.mag.length c a.exp p m z u) (fun u k => hP ao c u (hT.kept k) (h.kept k))
   rw [show (bif (nfE (ivn n) (nvn n) (gvn n) p m z).2 then (0 : Int) else 0) = 0 by cases (nfE (ivn n) (nvn n) (gvn n) p m z).2 <;> rfl] at this
   exact this
  ·exact rround3 n a.neg ao a.mag.length c a.exp p m z w _ _ q0 (fun u => rspecial n hn a.neg ao a.mag.length c a.exp p m z u) (fun u k => rnear n a.neg ao a.mag.length c a.exp q0 o u (fun v k2 => hD rfl ao c v hc (h.kept (k.trans k2))))
 ·exact ⟨0, fun ao c w hT h => accRound_no n a.neg ao a.mag.length c a.exp p m z w g h0 (fun u k => lookA n a ra la p m z ao c u (h.kept k) g hg), fun _ => rfl, fun h => absurd h h0⟩
end Go.Proofs.YtdpccifhhencgaaGreatDoor
