/- The document's own Minus,Times and Order of any two numbers. What exact's Add,Sub,Mul and Cmp tell is what the document's own Plus,Minus,Times and Order tell. exact's Add,Sub,Mul and Cmp where a number is none. What is kept of answers,one after another; the laws' own 'is'. exact's Add,Sub,Mul and Cmp of whatever is handed in,beside the document's own answers. The walk of the laws' own 'twos'. The walk of the statement on sums,differences,products and the order of any two. What is none of what is kept stays: blocks of another type. -/
import Derived.Test.YtoflafgbbjinpaaGreatDoorX33
import Derived.Test.YtoflafgbbjinpaaGreatDoorX22
import Derived.Test.YtoflafgbbjinpaaGreatDoorX25
import Derived.Deep.Cut
import Derived.Test.YtoflafgbbjinpaaGreatDoorX32
import Derived.Test.YtoflafgbbjinpaaGreatDoorX24
import Derived.Test.YtoflafgbbjinpaaGreatDoorX31
namespace Go.Proofs.YtoflafgbbjinpaaGreatDoor
open Go.ChangeShapes Go.WideShapes Go.ChangeAt Go.RowKit
set_option linter.unusedVariables false
set_option linter.unusedSimpArgs false
set_option maxHeartbeats 16000000
set_option maxRecDepth 100000
def tms (a b : Nm) : Nm:=nrm (a.neg != b.neg) (nv a.mag * nv b.mag) (a.exp + b.exp)
theorem times_walk (P : Nat → Prop) (w : World) (n1 n2 : Bool) (a1 a2 : Option Addr) (l1 c1 l2 c2 : Nat) (x1 x2 : Int) (r : Nm) (z : Nat) (y : Int) (hy : IntKind.i64.wrap (x1 + x2) = y)
  (KM : Hid (∀ u,Kept w u → Calls Tryz.prog 144 #[.slice a1 l1 c1,.slice a2 l2 c2] u fun e w' => (∃ s,e = .returned s ∧ RLp (Fresh u.heap.size) w' s (digs z)) ∧ Kept u w'))
  (hz : (digs z).length < 1000000) (hr : nrm (!(n1 == n2)) z y = r) :
  Calls Tryz.prog 97 #[.agg #[.bool n1,.slice a1 l1 c1,.int .i64 x1],.agg #[.bool n2,.slice a2 l2 c2,.int .i64 x2]] w fun e w' => (∃ v,e = .returned v ∧ RNp (fun c => P c ∨ w.heap.size ≤ c) w' v r) ∧ Kept w w':=by
 obtain ⟨W,hW⟩ : ∃ W,W = (((w.alloc (.cells #[.bool n1,.slice a1 l1 c1,.int .i64 x1] 24)).alloc (.cells #[.bool n2,.slice a2 l2 c2,.int .i64 x2] 24)).alloc nilNum):=⟨_,rfl⟩
 have hK : Kept w W:=by rw [hW]; exact (((Kept.refl w).alloc _ _).alloc _ _).alloc _ _
 have hWs : W.heap.size = w.heap.size + 3:=by rw [hW]; simp
 have HS : Hid (∀ u,Kept W u → ((u.cell? ⟨w.heap.size,0,none⟩ = some (.bool n1) ∧ u.cell? ⟨w.heap.size,1,none⟩ = some (.slice a1 l1 c1)) ∧ u.cell? ⟨w.heap.size,2,none⟩ = some (.int .i64 x1)) ∧ (u.cell? ⟨w.heap.size + 1,0,none⟩ = some (.bool n2) ∧ u.cell? ⟨w.heap.size + 1,1,none⟩ = some (.slice a2 l2 c2)) ∧ u.cell? ⟨w.heap.size + 1,2,none⟩ = some (.int .i64 x2)):=fun u k => ⟨⟨⟨((k.below.cell (p:=⟨w.heap.size,0,none⟩) (by show w.heap.size < W.heap.size; omega)).trans (by rw [hW]; simp [go_sem])),((k.below.cell (p:=⟨w.heap.size,1,none⟩) (by show w.heap.size < W.heap.size; omega)).trans (by rw [hW]; simp [go_sem]))⟩,((k.below.cell (p:=⟨w.heap.size,2,none⟩) (by show w.heap.size < W.heap.size; omega)).trans (by rw [hW]; simp [go_sem]))⟩,⟨((k.below.cell (p:=⟨w.heap.size + 1,0,none⟩) (by show w.heap.size + 1 < W.heap.size; omega)).trans (by rw [hW]; simp [go_sem])),((k.below.cell (p:=⟨w.heap.size + 1,1,none⟩) (by show w.heap.size + 1 < W.heap.size; omega)).trans (by rw [hW]; simp [go_sem]))⟩,((k.below.cell (p:=⟨w.heap.size + 1,2,none⟩) (by show w.heap.size + 1 < W.heap.size; omega)).trans (by rw [hW]; simp [go_sem]))⟩
 have HC : Hid (W.cell? ⟨w.heap.size + 1 + 1,0,none⟩ = some (.bool false) ∧ W.cell? ⟨w.heap.size + 1 + 1,1,none⟩ = some (.slice none 0 0) ∧ W.cell? ⟨w.heap.size + 1 + 1,2,none⟩ = some (.int .i64 0) ∧ ∀ o,W.frozen? ⟨w.heap.size + 1 + 1,o,none⟩ = false):=by rw [hW]; exact ⟨by simp [go_sem],by simp [go_sem],by simp [go_sem],fun o => by simp [go_sem]⟩
 have KN : Hid (∀ u0 u {vs : Value},RLp (Fresh u0.heap.size) u vs (digs z) → Kept W u0 → Kept W u → Calls Tryz.prog 138 #[.bool (!(n1 == n2)),vs,.int .i64 y] u fun e w' => (∃ v,e = .returned v ∧ RNp (Fresh W.heap.size) w' v r) ∧ Kept u w'):=fun u0 u vs h k0 k => by
  have:=norm_any u (!(n1 == n2)) (digs z) vs h.rl (dg_digs z) hz y
  rw [nv_digs,hr] at this
  refine this.mono ?_
  rintro e w' ⟨⟨v,rfl,hv⟩,kk⟩
  exact ⟨⟨v,rfl,hv.imp (fun b hb => Nat.le_trans k.below.size hb)⟩,kk⟩
 clear hr
 go_enter Tryz.func97,Tryz.ntmps97
 go_upto_region 1 with fail
 rw [← hW]
 clear hW
 have kr0:=(Kept.refl W).drew
 refine wp_region_held_drew (S:=fun u => Kept w u ∧ ((u.cell? ⟨w.heap.size,0,none⟩ = some (.bool n1) ∧ u.cell? ⟨w.heap.size,1,none⟩ = some (.slice a1 l1 c1)) ∧ u.cell? ⟨w.heap.size,2,none⟩ = some (.int .i64 x1)) ∧ (u.cell? ⟨w.heap.size + 1,0,none⟩ = some (.bool n2) ∧ u.cell? ⟨w.heap.size + 1,1,none⟩ = some (.slice a2 l2 c2)) ∧ u.cell? ⟨w.heap.size + 1,2,none⟩ = some (.int .i64 x2)) (by kernel_rfl) ⟨hK.trans kr0,HS.out _ kr0⟩ (fun hHeld0 => ?_)
 refine tk (i:=0) (v:=?_) rfl ?_
 simp only [Act.put,zA,zB,zC,zD,zE,zF]
 refine tk (i:=1) (v:=?_) rfl ?_
 simp only [Act.put,zA,zB,zC,zD,zE,zF]
 refine tk (i:=2) (v:=?_) rfl ?_
 simp only [Act.put,zA,zB,zC,zD,zE,zF]
 refine tk (i:=3) (v:=?_) rfl ?_
 simp only [Act.put,zA,zB,zC,zD,zE,zF]
 refine tk (i:=4) (v:=?_) rfl ?_
 simp only [Act.put,zA,zB,zC,zD,zE,zF]
 refine tk (i:=5) (v:=?_) rfl ?_
 simp only [Act.put,zA,zB,zC,zD,zE,zF]
 refine tk (i:=6) (v:=?_) rfl ?_
 simp only [Act.put,zA,zB,zC,zD,zE,zF]
 refine tk (i:=7) (v:=?_) rfl ?_
 simp only [Act.put,zA,zB,zC,zD,zE,zF]
 refine tk (i:=8) (v:=?_) rfl ?_
 simp only [Act.put,zA,zB,zC,zD,zE,zF]
 refine tk (i:=10) (v:=?_) rfl ?_
 simp only [Act.put,zA,zB,zC,zD,zE,zF]
 refine tk (i:=11) (v:=?_) rfl ?_
 simp only [Act.put,zA,zB,zC,zD,zE,zF]
 refine tk (i:=12) (v:=?_) rfl ?_
 simp only [Act.put,zA,zB,zC,zD,zE,zF]
 refine tk (i:=13) (v:=?_) rfl ?_
 simp only [Act.put,zA,zB,zC,zD,zE,zF]
 refine tk (i:=14) (v:=?_) rfl ?_
 simp only [Act.put,zA,zB,zC,zD,zE,zF]
 refine wpAnyH_ready (rs:=[9]) (by kernel_rfl) (by simp) ?_
 refine AllReadyH.cons rfl (fun K hK9 => ?_) AllReadyH.nil
 go_simp
 go_wp2_with fail
 refine (KM.out _ (hK.trans kr0)).mono ?_
 rintro e x1 ⟨⟨vs,rfl,hs⟩,qq⟩
 have kr1:=kr0.trans qq
 refine hK9.out _ _ ⟨hK.trans kr1,HS.out _ kr1⟩ (fun hHeld1 => ?_)
 clear hK9 K
 refine wpAnyH_ready (rs:=[15]) (by kernel_rfl) (by simp) ?_
 refine AllReadyH.cons rfl (fun K hK9 => ?_) AllReadyH.nil
 go_simp
 go_wp2_with fail
 refine (KN.out _ _ hs kr0 kr1).mono ?_
 rintro e x2 ⟨⟨v,rfl,hN⟩,qq2⟩
 obtain ⟨vn,va,vl,vc,vx,rfl⟩:=hN.shape5
 have kr2:=kr1.trans qq2
 refine hK9.out _ _ ⟨hK.trans kr2,HS.out _ kr2⟩ (fun hHeld2 => ?_)
 clear hK9 K
 have hc:=HC.out
 obtain ⟨f0,f1,f2,f3⟩:=res_cells (w.heap.size + 1 + 1) (by omega) kr2 hc.1 hc.2.1 hc.2.2.1 hc.2.2.2
 have kF:=(hK.trans kr2).setCell (p:=⟨w.heap.size + 1 + 1,0,none⟩) (by show w.heap.size ≤ w.heap.size + 1 + 1; omega) (.bool vn) |>.setCell (p:=⟨w.heap.size + 1 + 1,1,none⟩) (by show w.heap.size ≤ w.heap.size + 1 + 1; omega) (.slice va vl vc) |>.setCell (p:=⟨w.heap.size + 1 + 1,2,none⟩) (by show w.heap.size ≤ w.heap.size + 1 + 1; omega) (.int .i64 vx)
 refine wpAnyH_ready (rs:=[16]) (by kernel_rfl) (by simp) ?_
 refine AllReadyH.cons rfl (fun K hK9 => ?_) AllReadyH.nil
 go_simp
 refine hK9.out _ _ ⟨kF,by have q:=HS.out _ kr2; obtain ⟨⟨⟨q0,q1⟩,q2⟩,⟨q3,q4⟩,q5⟩:=q; refine ⟨⟨⟨?_,?_⟩,?_⟩,⟨?_,?_⟩,?_⟩ <;> simp [go_sem,q0,q1,q2,q3,q4,q5]⟩ (fun hHeld9 => ?_)
 clear hK9 K
 refine wpAnyH_done (by kernel_rfl) ?_ _
 clear hHeld0 hHeld1 hHeld2 hHeld9
 have hd:=hN.done (w.heap.size + 1 + 1) (fun b hb => by simp [Fresh] at hb; omega) (.bool vn) (.slice va vl vc) (.int .i64 vx)
 go_wp2
 refine bodyPost_ret (v:=.agg #[.bool vn,.slice va vl vc,.int .i64 vx]) (by simp [results,Tryz.results97,go_sem,f0,f1,f2]) rfl ⟨⟨_,rfl,hd.imp (fun b hb => Or.inr (by simp [Fresh] at hb; omega))⟩,kF⟩
theorem vld_cn (a : Nm) (h : vld a = true) : Cn a.mag ∧ a.mag.length ≤ 2000 ∧ -1048576 ≤ a.exp ∧ a.exp ≤ 1048576:=by
 obtain ⟨n,L,x⟩:=a
 by_cases e : L = []
 ·subst e
  obtain ⟨-,rfl⟩:=vld_nil _ _ h
  exact ⟨⟨Dg.nil,fun h => absurd rfl h⟩,by simp,by dsimp only; omega,by dsimp only; omega⟩
 ·obtain ⟨p1,p2,p3,p4,p5,p6⟩:=vld_some n L x e h
  exact ⟨⟨p2,fun _ => p3⟩,p1,p5,p6⟩
theorem bl_ge_mul (a b : Nat) (ha : a ≠ 0) (hb : b ≠ 0) : bl a + bl b - 1 ≤ bl (a * b):=by
 have h1:=bl_pos a ha
 have h2:=bl_pos b hb
 have h3 : 2 ^ (bl a - 1) * 2 ^ (bl b - 1) ≤ a * b:=Nat.mul_le_mul h1.1 h2.1
 rw [← Nat.pow_add] at h3
 have:=le_bl _ _ h3
 omega
theorem mul_ans (a b : Nm) (ha : vld a = true) (hb : vld b = true) : mulN a b = if vld (tms a b) = true then some (tms a b) else none:=by
 obtain ⟨n1,L1,x1⟩:=a
 obtain ⟨n2,L2,x2⟩:=b
 have q1:=vld_cn _ ha
 have q2:=vld_cn _ hb
 unfold mulN tms
 dsimp only at *
 have b1 : bl (nv L1) ≤ 60000:=Nat.le_trans (bl_le _ _ (nv_lt L1 q1.1.1)) (by omega)
 have b2 : bl (nv L2) ≤ 60000:=Nat.le_trans (bl_le _ _ (nv_lt L2 q2.1.1)) (by omega)
 rw [← frm_nrm]
 by_cases hfit : (bl (nv L1) : Int) + (bl (nv L2) : Int) - 1 ≤ 60000 ∧ -1048576 ≤ x1 + x2 ∧ x1 + x2 ≤ 1048576
 ·rw [if_pos hfit]
 ·rw [if_neg hfit]
  by_cases e1 : L1 = []
  ·subst e1
   obtain ⟨-,rfl⟩:=vld_nil _ _ ha
   exfalso
   apply hfit
   refine ⟨?_,by omega,by omega⟩
   have : bl (nv []) = 0:=by simp [nv,bl]
   rw [this]
   omega
  by_cases e2 : L2 = []
  ·subst e2
   obtain ⟨-,rfl⟩:=vld_nil _ _ hb
   exfalso
   apply hfit
   refine ⟨?_,by omega,by omega⟩
   have : bl (nv []) = 0:=by simp [nv,bl]
   rw [this]
   omega
  obtain ⟨p1,p2,p3,p4,p5,p6⟩:=vld_some n1 L1 x1 e1 ha
  obtain ⟨r1,r2,r3,r4,r5,r6⟩:=vld_some n2 L2 x2 e2 hb
  have o1:=nv_odd L1 p2 p4
  have o2:=nv_odd L2 r2 r4
  have o3 : nv L1 * nv L2 % 2 = 1:=by rw [Nat.mul_mod,o1,o2]
  have hz:=tzn_odd _ o3
  have hge:=bl_ge_mul (nv L1) (nv L2) (by omega) (by omega)
  unfold frm
  rw [if_neg (by omega),hz,if_neg]
  rintro ⟨g1,g2,g3⟩
  apply hfit
  simp only [Int.natCast_zero,Int.add_zero] at g2 g3
  have hw : wrap64 (x1 + x2) = x1 + x2:=by unfold wrap64; omega
  rw [hw] at g2 g3
  exact ⟨by omega,g2,g3⟩
/-- A sum that reaches too far has no valid Num. -/
theorem far_none (n1 n2 : Bool) (L1 L2 : List Int) (x1 x2 : Int) (h1 : L1 ≠ []) (h2 : L2 ≠ []) (hv1 : vld ⟨n1,L1,x1⟩ = true) (hv2 : vld ⟨n2,L2,x2⟩ = true) (hlt : x1 < x2) (hfar : 60001 < x2 + (bl (nv L2) : Int) - x1) (neg : Bool) (T : Int) (hT : T = sg n1 ((nv L1 : Nat) : Int) + sg n2 ((nv L2 * 2 ^ (x2 - x1).toNat : Nat) : Int)) : frm neg T.natAbs x1 = none:=by
 obtain ⟨p1,p2,p3,p4,p5,p6⟩:=vld_some n1 L1 x1 h1 hv1
 obtain ⟨r1,r2,r3,r4,r5,r6⟩:=vld_some n2 L2 x2 h2 hv2
 have o1:=nv_odd L1 p2 p4
 have v2:=nv_pos_of n2 L2 x2 h2 hv2
 obtain ⟨k,hk⟩ : ∃ k,(x2 - x1).toNat = k:=⟨_,rfl⟩
 rw [hk] at hT
 have hk1 : 0 < k:=by omega
 obtain ⟨N,hN⟩ : ∃ N : Nat,N = 60000:=⟨_,rfl⟩
 have lt1 : nv L1 < 2 ^ N:=Nat.lt_of_lt_of_le (nv_lt L1 p2) (Nat.pow_le_pow_right (by decide) (by omega))
 have hb:=bl_mul (nv L2) k (by omega)
 have hge : 2 ^ (N + 1) ≤ nv L2 * 2 ^ k:=by
  have:=(bl_pos (nv L2 * 2 ^ k) (by have:=Nat.mul_pos v2 (Nat.two_pow_pos k); omega)).1
  refine Nat.le_trans (Nat.pow_le_pow_right (by decide) ?_) this
  rw [hb]
  omega
 have hev : nv L2 * 2 ^ k % 2 = 0:=by
  obtain ⟨j,rfl⟩ : ∃ j,k = j + 1:=⟨k - 1,by omega⟩
  rw [Nat.pow_succ,← Nat.mul_assoc]
  omega
 generalize nv L2 * 2 ^ k = Y at *
 rw [Nat.pow_succ] at hge
 have habs : 2 ^ N ≤ T.natAbs:=by
  rw [hT]
  cases n1 <;> cases n2 <;> simp only [sg,Bool.false_eq_true,if_false,if_true] <;> omega
 have hodd : T.natAbs % 2 = 1:=by
  rw [hT]
  cases n1 <;> cases n2 <;> simp only [sg,Bool.false_eq_true,if_false,if_true] <;> omega
 have hz:=tzn_odd _ hodd
 have hbl:=le_bl _ _ habs
 unfold frm
 rw [if_neg (by omega),hz,if_neg]
 rintro ⟨g1,-,-⟩
 omega
theorem add_ans (a b : Nm) (ha : vld a = true) (hb : vld b = true) : addZ a b = if vld (pls a b) = true then some (pls a b) else none:=by
 obtain ⟨n1,L1,x1⟩:=a
 obtain ⟨n2,L2,x2⟩:=b
 unfold addZ pls
 dsimp only
 by_cases e1 : L1 = []
 ·rw [if_pos e1,if_pos e1,if_pos hb]
  by_cases e2 : L2 = []
  ·subst e2
   obtain ⟨rfl,rfl⟩:=vld_nil _ _ hb
   rw [if_pos rfl]
  ·rw [if_neg e2]
 ·rw [if_neg e1,if_neg e1]
  by_cases e2 : L2 = []
  ·rw [if_pos e2,if_pos e2,if_pos ha]
  ·rw [if_neg e2,if_neg e2,← frm_nrm]
   unfold addN
   dsimp only
   by_cases hr : max (tp ⟨n1,L1,x1⟩) (tp ⟨n2,L2,x2⟩) - min x1 x2 ≤ 60001
   ·rw [if_pos hr]
   ·rw [if_neg hr]
    have q1:=vld_cn _ ha
    have q2:=vld_cn _ hb
    have b1 : bl (nv L1) ≤ 60000:=Nat.le_trans (bl_le _ _ (nv_lt L1 q1.1.1)) (by have:=q1.2.1; dsimp only at this; omega)
    have b2 : bl (nv L2) ≤ 60000:=Nat.le_trans (bl_le _ _ (nv_lt L2 q2.1.1)) (by have:=q2.2.1; dsimp only at this; omega)
    unfold tp at hr
    dsimp only at hr
    rcases Int.lt_trichotomy x1 x2 with h | h | h
    ·have hm : min x1 x2 = x1:=by omega
     rw [hm] at hr ⊢
     refine (far_none n1 n2 L1 L2 x1 x2 e1 e2 ha hb h (by omega) _ _ ?_).symm
     rw [tot_nat n1 n2 L1 L2 x1 x2 x1 0 (x2 - x1).toNat (by omega) rfl,Nat.pow_zero,Nat.mul_one]
    ·exfalso
     omega
    ·have hm : min x1 x2 = x2:=by omega
     rw [hm] at hr ⊢
     refine (far_none n2 n1 L2 L1 x2 x1 e2 e1 hb ha h (by omega) _ _ ?_).symm
     rw [tot_nat n1 n2 L1 L2 x1 x2 x2 (x1 - x2).toNat 0 rfl (by omega),Nat.pow_zero,Nat.mul_one,Int.add_comm]
/-! ### The calls -/
abbrev PL (P : Nat → Prop) (w : World) : Nat → Prop:=fun c => P c ∨ w.heap.size ≤ c
theorem times_any (P : Nat → Prop) (w : World) (a b : Nm) (va vb : Value) (ha : RNp P w va a) (hb : RNp P w vb b) (ca : vld a = true) (cb : vld b = true) :
  Calls Tryz.prog 97 #[va,vb] w fun e w' => (∃ v,e = .returned v ∧ RNp (PL P w) w' v (tms a b)) ∧ Kept w w':=by
 have qa:=vld_cn a ca
 have qb:=vld_cn b cb
 obtain ⟨n1,L1,x1⟩:=a
 obtain ⟨n2,L2,x2⟩:=b
 obtain ⟨a1,c1,rfl,hra⟩:=ha.shape
 obtain ⟨a2,c2,rfl,hrb⟩:=hb.shape
 dsimp only at *
 have d1:=cn_digs qa.1
 have d2:=cn_digs qb.1
 refine times_walk P w n1 n2 a1 a2 L1.length c1 L2.length c2 x1 x2 _ (nv L1 * nv L2) (x1 + x2) (by rw [wrap_i64]; omega) (fun u k => ?_) ?_ rfl
 ·have:=natMul_any u (nv L1) (nv L2) (.slice a1 L1.length c1) (.slice a2 L2.length c2) (by rw [d1]; exact hra.rl.kept k) (by rw [d2]; exact hrb.rl.kept k) (by rw [d1]; omega) (by rw [d2]; omega)
  exact this
 ·obtain ⟨N,hN⟩ : ∃ N : Nat,N = 4000:=⟨_,rfl⟩
  have h1:=nv_lt L1 qa.1.1
  have h2:=nv_lt L2 qb.1.1
  have h3 : nv L1 * nv L2 < 2 ^ (30 * N):=by
   have:=Nat.mul_lt_mul'' h1 h2
   rw [← Nat.pow_add] at this
   exact Nat.lt_of_lt_of_le this (Nat.pow_le_pow_right (by decide) (by omega))
  have:=digs_length_le _ _ h3
  omega
theorem add_bad (w : World) (n1 : Bool) (L1 : List Int) (x1 : Int) (hR1 : Rg L1) (hl1 : L1.length < 60000000) (a1 : Option Addr) (c1 : Nat) (n2 : Bool) (L2 : List Int) (x2 : Int) (hR2 : Rg L2) (hl2 : L2.length < 60000000) (a2 : Option Addr) (c2 : Nat)  (h1 : Sl w (.slice a1 L1.length c1) L1) (h2 : Sl w (.slice a2 L2.length c2) L2) (hbad : (vld ⟨n1,L1,x1⟩ && vld ⟨n2,L2,x2⟩) = false) : Calls Tryz.prog 18 #[.agg #[.bool n1,.slice a1 L1.length c1,.int .i64 x1],.agg #[.bool n2,.slice a2 L2.length c2,.int .i64 x2]] w fun e w' => e = .returned (.tuple #[zeroNum,.int .i64 7]) ∧ Kept w w':=by
 have hW:=addW_kept w #[.bool n1,.slice a1 L1.length c1,.int .i64 x1] #[.bool n2,.slice a2 L2.length c2,.int .i64 x2] (pairC n1 (.slice a1 L1.length c1) x1 n2 (.slice a2 L2.length c2) x2)
 have KV : Hid (∀ w',Kept (addW w #[.bool n1,.slice a1 L1.length c1,.int .i64 x1] #[.bool n2,.slice a2 L2.length c2,.int .i64 x2] (pairC n1 (.slice a1 L1.length c1) x1 n2 (.slice a2 L2.length c2) x2)) w' → Calls Tryz.prog 109 #[.slice (some ⟨w.heap.size + 3,0,none⟩) 2 2] w' fun e w'' => e = .returned (.bool false) ∧ Kept w' w''):=fun u k => by
  have hb : w.heap.size + 3 < (addW w #[.bool n1,.slice a1 L1.length c1,.int .i64 x1] #[.bool n2,.slice a2 L2.length c2,.int .i64 x2] (pairC n1 (.slice a1 L1.length c1) x1 n2 (.slice a2 L2.length c2) x2)).heap.size:=by simp
  have:=allValid_2 u (w.heap.size + 3) 2 n1 n2 a1 a2 L1.length c1 L2.length c2 x1 x2 (vld ⟨n1,L1,x1⟩) (vld ⟨n2,L2,x2⟩) (Nat.lt_of_lt_of_le hb k.below.size) ((k.below.cell (p:=⟨w.heap.size + 3,0,none⟩) hb).trans (by simp [go_sem])) ((k.below.cell (p:=⟨w.heap.size + 3,1,none⟩) hb).trans (by simp [go_sem])) ((k.below.cell (p:=⟨w.heap.size + 3,2,none⟩) hb).trans (by simp [go_sem])) ((k.below.cell (p:=⟨w.heap.size + 3,3,none⟩) hb).trans (by simp [go_sem])) ((k.below.cell (p:=⟨w.heap.size + 3,4,none⟩) hb).trans (by simp [go_sem])) ((k.below.cell (p:=⟨w.heap.size + 3,5,none⟩) hb).trans (by simp [go_sem])) (fun v kv => ?_) (fun v kv => ?_)
  ·rw [hbad] at this
   exact this
  ·exact xvalid_any ⟨n1,L1,x1⟩ hR1 (by dsimp only; omega) (.agg #[.bool n1,.slice a1 L1.length c1,.int .i64 x1]) v ⟨_,rfl,((h1.kept hW).kept k).kept kv⟩
  ·exact xvalid_any ⟨n2,L2,x2⟩ hR2 (by dsimp only; omega) (.agg #[.bool n2,.slice a2 L2.length c2,.int .i64 x2]) v ⟨_,rfl,((h2.kept hW).kept k).kept kv⟩
 have KT : Hid (Calls Tryz.prog 62 #[.func (.func 65) #[] #[.pointer (some ⟨w.heap.size,0,none⟩),.pointer (some ⟨w.heap.size + 1,0,none⟩)],.slice (some ⟨w.heap.size + 3,0,none⟩) 2 2] (addW w #[.bool n1,.slice a1 L1.length c1,.int .i64 x1] #[.bool n2,.slice a2 L2.length c2,.int .i64 x2] (pairC n1 (.slice a1 L1.length c1) x1 n2 (.slice a2 L2.length c2) x2)) fun e w' => e = .returned (.tuple #[zeroNum,.int .i64 7]) ∧ Kept (addW w #[.bool n1,.slice a1 L1.length c1,.int .i64 x1] #[.bool n2,.slice a2 L2.length c2,.int .i64 x2] (pairC n1 (.slice a1 L1.length c1) x1 n2 (.slice a2 L2.length c2) x2)) w'):=told_bad _ _ _ KV
 have hmf : ∀ (fn : Fn) (first cap : Array Value) (w : World),(Instr.makeFunc fn first cap).run Tryz.prog w = .ok (.func fn first cap) w:=fun _ _ _ _ => rfl
 clear h1 h2 KV hbad hR1 hR2 hl1 hl2
 generalize L1.length = l1 at *
 generalize L2.length = l2 at *
 go_enter Tryz.func18,Tryz.ntmps18
 go_wp2_with (first | (go_at_call 62; refine KT.out.mono ?_; rintro e w1 ⟨rfl,hk1⟩; obtain ⟨f0,f1,f2,f3⟩:=res_cells (w.heap.size + 2) (by simp <;> omega) hk1 (by simp [go_sem]) (by simp [go_sem]) (by simp [go_sem]) (fun o => by simp [go_sem])))
 refine bodyPost_ret (v:=.tuple #[zeroNum,.int .i64 7]) (by simp [results,Tryz.results18,go_sem,f0,f1,f2]) rfl ⟨rfl,res_kept (w.heap.size + 2) (by omega) hW hk1 _ _ _⟩
theorem mul_bad (w : World) (n1 : Bool) (L1 : List Int) (x1 : Int) (hR1 : Rg L1) (hl1 : L1.length < 60000000) (a1 : Option Addr) (c1 : Nat) (n2 : Bool) (L2 : List Int) (x2 : Int) (hR2 : Rg L2) (hl2 : L2.length < 60000000) (a2 : Option Addr) (c2 : Nat)  (h1 : Sl w (.slice a1 L1.length c1) L1) (h2 : Sl w (.slice a2 L2.length c2) L2) (hbad : (vld ⟨n1,L1,x1⟩ && vld ⟨n2,L2,x2⟩) = false) : Calls Tryz.prog 17 #[.agg #[.bool n1,.slice a1 L1.length c1,.int .i64 x1],.agg #[.bool n2,.slice a2 L2.length c2,.int .i64 x2]] w fun e w' => e = .returned (.tuple #[zeroNum,.int .i64 7]) ∧ Kept w w':=by
 have hW:=addW_kept w #[.bool n1,.slice a1 L1.length c1,.int .i64 x1] #[.bool n2,.slice a2 L2.length c2,.int .i64 x2] (pairC n1 (.slice a1 L1.length c1) x1 n2 (.slice a2 L2.length c2) x2)
 have KV : Hid (∀ w',Kept (addW w #[.bool n1,.slice a1 L1.length c1,.int .i64 x1] #[.bool n2,.slice a2 L2.length c2,.int .i64 x2] (pairC n1 (.slice a1 L1.length c1) x1 n2 (.slice a2 L2.length c2) x2)) w' → Calls Tryz.prog 109 #[.slice (some ⟨w.heap.size + 3,0,none⟩) 2 2] w' fun e w'' => e = .returned (.bool false) ∧ Kept w' w''):=fun u k => by
  have hb : w.heap.size + 3 < (addW w #[.bool n1,.slice a1 L1.length c1,.int .i64 x1] #[.bool n2,.slice a2 L2.length c2,.int .i64 x2] (pairC n1 (.slice a1 L1.length c1) x1 n2 (.slice a2 L2.length c2) x2)).heap.size:=by simp
  have:=allValid_2 u (w.heap.size + 3) 2 n1 n2 a1 a2 L1.length c1 L2.length c2 x1 x2 (vld ⟨n1,L1,x1⟩) (vld ⟨n2,L2,x2⟩) (Nat.lt_of_lt_of_le hb k.below.size) ((k.below.cell (p:=⟨w.heap.size + 3,0,none⟩) hb).trans (by simp [go_sem])) ((k.below.cell (p:=⟨w.heap.size + 3,1,none⟩) hb).trans (by simp [go_sem])) ((k.below.cell (p:=⟨w.heap.size + 3,2,none⟩) hb).trans (by simp [go_sem])) ((k.below.cell (p:=⟨w.heap.size + 3,3,none⟩) hb).trans (by simp [go_sem])) ((k.below.cell (p:=⟨w.heap.size + 3,4,none⟩) hb).trans (by simp [go_sem])) ((k.below.cell (p:=⟨w.heap.size + 3,5,none⟩) hb).trans (by simp [go_sem])) (fun v kv => ?_) (fun v kv => ?_)
  ·rw [hbad] at this
   exact this
  ·exact xvalid_any ⟨n1,L1,x1⟩ hR1 (by dsimp only; omega) (.agg #[.bool n1,.slice a1 L1.length c1,.int .i64 x1]) v ⟨_,rfl,((h1.kept hW).kept k).kept kv⟩
  ·exact xvalid_any ⟨n2,L2,x2⟩ hR2 (by dsimp only; omega) (.agg #[.bool n2,.slice a2 L2.length c2,.int .i64 x2]) v ⟨_,rfl,((h2.kept hW).kept k).kept kv⟩
 have KT : Hid (Calls Tryz.prog 62 #[.func (.func 63) #[] #[.pointer (some ⟨w.heap.size,0,none⟩),.pointer (some ⟨w.heap.size + 1,0,none⟩)],.slice (some ⟨w.heap.size + 3,0,none⟩) 2 2] (addW w #[.bool n1,.slice a1 L1.length c1,.int .i64 x1] #[.bool n2,.slice a2 L2.length c2,.int .i64 x2] (pairC n1 (.slice a1 L1.length c1) x1 n2 (.slice a2 L2.length c2) x2)) fun e w' => e = .returned (.tuple #[zeroNum,.int .i64 7]) ∧ Kept (addW w #[.bool n1,.slice a1 L1.length c1,.int .i64 x1] #[.bool n2,.slice a2 L2.length c2,.int .i64 x2] (pairC n1 (.slice a1 L1.length c1) x1 n2 (.slice a2 L2.length c2) x2)) w'):=told_bad _ _ _ KV
 have hmf : ∀ (fn : Fn) (first cap : Array Value) (w : World),(Instr.makeFunc fn first cap).run Tryz.prog w = .ok (.func fn first cap) w:=fun _ _ _ _ => rfl
 clear h1 h2 KV hbad hR1 hR2 hl1 hl2
 generalize L1.length = l1 at *
 generalize L2.length = l2 at *
 go_enter Tryz.func17,Tryz.ntmps17
 go_wp2_with (first | (go_at_call 62; refine KT.out.mono ?_; rintro e w1 ⟨rfl,hk1⟩; obtain ⟨f0,f1,f2,f3⟩:=res_cells (w.heap.size + 2) (by simp <;> omega) hk1 (by simp [go_sem]) (by simp [go_sem]) (by simp [go_sem]) (fun o => by simp [go_sem])))
 refine bodyPost_ret (v:=.tuple #[zeroNum,.int .i64 7]) (by simp [results,Tryz.results17,go_sem,f0,f1,f2]) rfl ⟨rfl,res_kept (w.heap.size + 2) (by omega) hW hk1 _ _ _⟩
def Frn (w0 x : World) (kb : Nat) (vL vW : Value) (E : List Ent) (D : List Nat) (N : Nat) (u : World) : Prop:=∃ vL' vW' E',KeepAt w0 u kb vL' vW' E' ∧ E'.length ≤ N ∧ GrwS (kb :: (blk vL ++ blk vW)) x u ∧ (∀ b ∈ blks kb vL' vW' E',b ∈ blks kb vL vW E ∨ b ∈ D ∨ x.heap.size ≤ b) ∧ ∀ b ∈ kb :: (blk vL' ++ blk vW'),b ∈ kb :: (blk vL ++ blk vW) ∨ x.heap.size ≤ b
theorem Frn.start {w0 x : World} {kb : Nat} {vL vW : Value} {E : List Ent} (h : KeepAt w0 x kb vL vW E) : Frn w0 x kb vL vW E [] E.length x :=
 ⟨vL,vW,E,h,Nat.le_refl _,GrwS.refl _ _,fun b hb => .inl hb,fun b hb => .inl hb⟩
theorem Frn.on {w0 x u u' : World} {kb : Nat} {vL vW : Value} {E : List Ent} {D : List Nat} {N : Nat} (h : Frn w0 x kb vL vW E D N u) (k : Kept u u') : Frn w0 x kb vL vW E D N u':=by
 obtain ⟨vL',vW',E',h1,h0,h2,h3,h4⟩:=h
 exact ⟨vL',vW',E',h1.keptOn k,h0,h2.trans (k.toS _),h3,h4⟩
theorem Frn.kept {w0 x u : World} {kb : Nat} {vL vW : Value} {E : List Ent} {D : List Nat} {N : Nat} (h : Frn w0 x kb vL vW E D N u) : Kept w0 u:=by
 obtain ⟨vL',vW',E',h1,-⟩:=h
 exact h1.kept
theorem Frn.grw {w0 x u : World} {kb : Nat} {vL vW : Value} {E : List Ent} {D : List Nat} {N : Nat} (h : Frn w0 x kb vL vW E D N u) : GrwS (kb :: (blk vL ++ blk vW)) x u:=by
 obtain ⟨vL',vW',E',h1,h0,h2,-⟩:=h
 exact h2
theorem head_blks {kb : Nat} {vL vW : Value} {E : List Ent} {b : Nat} (h : b ∈ kb :: (blk vL ++ blk vW)) : b ∈ blks kb vL vW E:=by
 unfold blks
 rcases List.mem_cons.1 h with rfl | h
 ·simp
 ·exact List.mem_cons.2 (.inr (List.mem_append.2 (.inl h)))
theorem RLp.grwS {P : Nat → Prop} {S : List Nat} {w w' : World} {v : Value} {M : List Int} (h : RLp P w v M) (k : GrwS S w w') (hP : ∀ b,P b → b ∉ S) : RLp P w' v M:=by
 obtain ⟨ao,c,rfl,hc,⟨ao',c',e,h1,h2,hr⟩,hp⟩:=h
 cases e
 refine ⟨ao,c,rfl,hc,⟨ao,c,rfl,h1,h2,fun hne => ?_⟩,hp⟩
 obtain ⟨b,off,rfl,hb,hr⟩:=hr hne
 refine ⟨b,off,rfl,Nat.lt_of_lt_of_le hb k.size,fun i hi => ?_⟩
 exact (World.cell?_of_block (a:=⟨b,off + i,none⟩) (k.block b hb (hP b (hp b off hne rfl)))).trans (hr i hi)
theorem RLp.sl {P : Nat → Prop} {w : World} {v : Value} {M : List Int} (h : RLp P w v M) : Sl w v M:=by
 obtain ⟨ao,c,rfl,-,hs,-⟩:=h
 exact hs
/-- Three cells that stay as long as their block is none of those that are turned. -/
def Tri (X : World) (p : Nat) (v0 v1 v2 : Value) : Prop:=p < X.heap.size ∧ ∀ S u,p ∉ S → GrwS S X u → (u.cell? ⟨p,0,none⟩ = some v0 ∧ u.cell? ⟨p,1,none⟩ = some v1) ∧ u.cell? ⟨p,2,none⟩ = some v2
theorem Tri.now {X : World} {p : Nat} {v0 v1 v2 : Value} (h : Tri X p v0 v1 v2) : (X.cell? ⟨p,0,none⟩ = some v0 ∧ X.cell? ⟨p,1,none⟩ = some v1) ∧ X.cell? ⟨p,2,none⟩ = some v2:=h.2 [] X (by simp) (GrwS.refl _ _)
theorem Tri.grw {S : List Nat} {X X' : World} {p : Nat} {v0 v1 v2 : Value} (h : Tri X p v0 v1 v2) (k : GrwS S X X') (hp : p ∉ S) : Tri X' p v0 v1 v2 :=
 ⟨Nat.lt_of_lt_of_le h.1 k.size,fun S' u hp' k' => h.2 (S ++ S') u (fun hm => (List.mem_append.1 hm).elim hp hp') ((k.mono (fun i hi => List.mem_append.2 (.inl hi))).trans (k'.mono (fun i hi => List.mem_append.2 (.inr hi))))⟩
theorem Tri.kept {X X' : World} {p : Nat} {v0 v1 v2 : Value} (h : Tri X p v0 v1 v2) (k : Kept X X') : Tri X' p v0 v1 v2:=h.grw (k.toS []) (by simp)
theorem Tri.new (X : World) (v0 v1 v2 : Value) (t : TypeId) : Tri (X.alloc (.cells #[v0,v1,v2] t)) X.heap.size v0 v1 v2 :=
 ⟨by simp,fun S u hp k => by
  have hb:=k.block X.heap.size (by simp) hp
  refine ⟨⟨?_,?_⟩,?_⟩
  ·rw [World.cell?_of_block (a:=⟨X.heap.size,0,none⟩) hb]; simp [go_sem]
  ·rw [World.cell?_of_block (a:=⟨X.heap.size,1,none⟩) hb]; simp [go_sem]
  ·rw [World.cell?_of_block (a:=⟨X.heap.size,2,none⟩) hb]; simp [go_sem]⟩
theorem add_all (a b : Nm) (ra : Rg a.mag) (rb : Rg b.mag) (la : a.mag.length < 60000000) (lb : b.mag.length < 60000000) : ∃ (rp : Nm) (pe : Int),(∀ (u : World) (a1 a2 : Option Addr) (c1 c2 : Nat),Tab u → Sl u (.slice a1 a.mag.length c1) a.mag → Sl u (.slice a2 b.mag.length c2) b.mag → Calls Tryz.prog 18 #[.agg #[.bool a.neg,.slice a1 a.mag.length c1,.int .i64 a.exp],.agg #[.bool b.neg,.slice a2 b.mag.length c2,.int .i64 b.exp]] u fun e w' => ∃ v,e = .returned (.tuple #[v,.int .i64 pe]) ∧ New u w' v rp ∧ Kept u w') ∧ ((vld a && vld b) = false → rp = ⟨false,[],0⟩ ∧ pe = 7) ∧ ((vld a && vld b) = true → if vld (pls a b) = true then rp = pls a b ∧ pe = 0 else rp = ⟨false,[],0⟩ ∧ pe = 2):=by
 cases hok : (vld a && vld b) with
 | false =>
  refine ⟨⟨false,[],0⟩,7,fun u a1 a2 c1 c2 hT h1 h2 => ?_,fun _ => ⟨rfl,rfl⟩,fun h => (by cases h)⟩
  refine (add_bad u a.neg a.mag a.exp ra la a1 c1 b.neg b.mag b.exp rb lb a2 c2 h1 h2 hok).mono ?_
  rintro e w' ⟨rfl,k⟩
  exact ⟨_,rfl,new_zero _ _,k⟩
 | true =>
  obtain ⟨va,vb⟩:=Bool.and_eq_true_iff.1 hok
  have hans:=add_ans a b va vb
  by_cases hv : vld (pls a b) = true
  ·rw [if_pos hv] at hans
   refine ⟨_,0,fun u a1 a2 c1 c2 hT h1 h2 => addz_ok u hT a.neg a.mag a.exp va a1 c1 b.neg b.mag b.exp vb a2 c2 h1 h2 _ hans,fun h => (by cases h),fun _ => ?_⟩
   rw [if_pos hv]
   exact ⟨rfl,rfl⟩
  ·rw [if_neg hv] at hans
   refine ⟨⟨false,[],0⟩,2,fun u a1 a2 c1 c2 hT h1 h2 => ?_,fun h => (by cases h),fun _ => ?_⟩
   ·refine (addz_no u hT a.neg a.mag a.exp va a1 c1 b.neg b.mag b.exp vb a2 c2 h1 h2 hans).mono ?_
    rintro e w' ⟨rfl,k⟩
    exact ⟨_,rfl,new_zero _ _,k⟩
   ·rw [if_neg hv]
    exact ⟨rfl,rfl⟩
theorem mul_all (a b : Nm) (ra : Rg a.mag) (rb : Rg b.mag) (la : a.mag.length < 60000000) (lb : b.mag.length < 60000000) : ∃ (rp : Nm) (pe : Int),(∀ (u : World) (a1 a2 : Option Addr) (c1 c2 : Nat),Tab u → Sl u (.slice a1 a.mag.length c1) a.mag → Sl u (.slice a2 b.mag.length c2) b.mag → Calls Tryz.prog 17 #[.agg #[.bool a.neg,.slice a1 a.mag.length c1,.int .i64 a.exp],.agg #[.bool b.neg,.slice a2 b.mag.length c2,.int .i64 b.exp]] u fun e w' => ∃ v,e = .returned (.tuple #[v,.int .i64 pe]) ∧ New u w' v rp ∧ Kept u w') ∧ ((vld a && vld b) = false → rp = ⟨false,[],0⟩ ∧ pe = 7) ∧ ((vld a && vld b) = true → if vld (tms a b) = true then rp = tms a b ∧ pe = 0 else rp = ⟨false,[],0⟩ ∧ pe = 2):=by
 cases hok : (vld a && vld b) with
 | false =>
  refine ⟨⟨false,[],0⟩,7,fun u a1 a2 c1 c2 hT h1 h2 => ?_,fun _ => ⟨rfl,rfl⟩,fun h => (by cases h)⟩
  refine (mul_bad u a.neg a.mag a.exp ra la a1 c1 b.neg b.mag b.exp rb lb a2 c2 h1 h2 hok).mono ?_
  rintro e w' ⟨rfl,k⟩
  exact ⟨_,rfl,new_zero _ _,k⟩
 | true =>
  obtain ⟨va,vb⟩:=Bool.and_eq_true_iff.1 hok
  have hans:=mul_ans a b va vb
  by_cases hv : vld (tms a b) = true
  ·rw [if_pos hv] at hans
   refine ⟨_,0,fun u a1 a2 c1 c2 hT h1 h2 => mulz_ok u hT a.neg a.mag a.exp va a1 c1 b.neg b.mag b.exp vb a2 c2 h1 h2 _ hans,fun h => (by cases h),fun _ => ?_⟩
   rw [if_pos hv]
   exact ⟨rfl,rfl⟩
  ·rw [if_neg hv] at hans
   refine ⟨⟨false,[],0⟩,2,fun u a1 a2 c1 c2 hT h1 h2 => ?_,fun h => (by cases h),fun _ => ?_⟩
   ·refine (mulz_no u hT a.neg a.mag a.exp va a1 c1 b.neg b.mag b.exp vb a2 c2 h1 h2 hans).mono ?_
    rintro e w' ⟨rfl,k⟩
    exact ⟨_,rfl,new_zero _ _,k⟩
   ·rw [if_neg hv]
    exact ⟨rfl,rfl⟩
theorem new_rw2 {w0 w : World} {v : Value} {r : Nm} (h : New w0 w v r) : ∃ pa pc,v = .agg #[.bool r.neg,.slice pa r.mag.length pc,.int .i64 r.exp] ∧ Rw w (.slice pa r.mag.length pc) 3 (ints r.mag) ∧ (∀ b ∈ blk (.slice pa r.mag.length pc),w0.heap.size ≤ b) ∧ (r.mag = [] → pa = none ∧ pc = 0):=by
 rcases h with ⟨rfl,rfl⟩ | ⟨g,cap,rfl,hg,ho,hne⟩
 ·exact ⟨none,0,rfl,.inl ⟨rfl,rfl⟩,fun b hb => (by cases hb),fun _ => ⟨rfl,rfl⟩⟩
 ·refine ⟨_,_,rfl,.inr ⟨g,cap,by rw [List.length_map],own_v.1 ho⟩,fun b hb => ?_,fun h => absurd h hne⟩
  obtain rfl : b = g:=by simpa [blk] using hb
  exact hg
theorem digs_div_len (v k : Nat) : (digs (v / 2 ^ k)).length ≤ (digs v).length:=digs_mono _ _ (Nat.div_le_self _ _)
theorem pls_ok (a b : Nm) (ha : vld a = true) (hb : vld b = true) : Rg (pls a b).mag ∧ (pls a b).mag.length < 10000000:=by
 have qa:=vld_cn a ha
 have qb:=vld_cn b hb
 unfold pls
 split
 ·exact ⟨qb.1.1.rg,by have:=qb.2.1; omega⟩
 ·split
  ·exact ⟨qa.1.1.rg,by have:=qa.2.1; omega⟩
  ·have hr:=nrm_rg (decide (tot a b (min a.exp b.exp) < 0)) (tot a b (min a.exp b.exp)).natAbs (min a.exp b.exp)
   refine ⟨hr.1,?_⟩
   rw [hr.2]
   refine Nat.lt_of_le_of_lt (digs_div_len _ _) ?_
   obtain ⟨N,hN⟩ : ∃ N : Nat,N = 80000:=⟨_,rfl⟩
   have h1:=nv_bl_mul a.mag (a.exp - min a.exp b.exp).toNat
   have h2:=nv_bl_mul b.mag (b.exp - min a.exp b.exp).toNat
   have b1 : bl (nv a.mag) ≤ 60000:=Nat.le_trans (bl_le _ _ (nv_lt a.mag qa.1.1)) (by omega)
   have b2 : bl (nv b.mag) ≤ 60000:=Nat.le_trans (bl_le _ _ (nv_lt b.mag qb.1.1)) (by omega)
   have p1:=pow_le_int (bl (nv a.mag) + (a.exp - min a.exp b.exp).toNat) (30 * N) (by omega)
   have p2:=pow_le_int (bl (nv b.mag) + (b.exp - min a.exp b.exp).toNat) (30 * N) (by omega)
   have s1:=sg_abs a.neg _ _ h1.1 h1.2
   have s2:=sg_abs b.neg _ _ h2.1 h2.2
   have hlt : (tot a b (min a.exp b.exp)).natAbs < 2 ^ (30 * (N + 1)):=by
    have e : ((2 ^ (30 * N) : Nat) : Int) = (2 : Int) ^ (30 * N):=by rw [Int.natCast_pow]; rfl
    have e2 : 2 ^ (30 * (N + 1)) = 2 ^ (30 * N) * 1073741824:=pow30m N
    unfold tot
    omega
   have:=digs_length_le _ _ hlt
   omega
theorem tms_ok (a b : Nm) (ha : vld a = true) (hb : vld b = true) : Rg (tms a b).mag ∧ (tms a b).mag.length < 10000000:=by
 have qa:=vld_cn a ha
 have qb:=vld_cn b hb
 have hr:=nrm_rg (a.neg != b.neg) (nv a.mag * nv b.mag) (a.exp + b.exp)
 refine ⟨hr.1,?_⟩
 show (nrm (a.neg != b.neg) (nv a.mag * nv b.mag) (a.exp + b.exp)).mag.length < _
 rw [hr.2]
 refine Nat.lt_of_le_of_lt (digs_div_len _ _) ?_
 obtain ⟨N,hN⟩ : ∃ N : Nat,N = 4000:=⟨_,rfl⟩
 have h3 : nv a.mag * nv b.mag < 2 ^ (30 * N):=by
  have:=Nat.mul_lt_mul'' (nv_lt a.mag qa.1.1) (nv_lt b.mag qb.1.1)
  rw [← Nat.pow_add] at this
  exact Nat.lt_of_lt_of_le this (Nat.pow_le_pow_right (by decide) (by omega))
 have:=digs_length_le _ _ h3
 omega
theorem keep_none2 (w u : World) (kb : Nat) (k : Kept w u) (hk : w.heap.size ≤ kb) (hc : u.heap[kb]? = some (.cells #[.slice none 0 0,.slice none 0 0] 30 (0,0))) : KeepAt w u kb (.slice none 0 0) (.slice none 0 0) [] :=
 ⟨k,hc,.inl ⟨rfl,rfl⟩,.inl ⟨rfl,rfl⟩,fun x hx => (by cases hx),by simp [blks,blk],fun b hb => by
  obtain rfl : b = kb:=by simpa [blks,blk] using hb
  exact hk⟩
end Go.Proofs.YtoflafgbbjinpaaGreatDoor
