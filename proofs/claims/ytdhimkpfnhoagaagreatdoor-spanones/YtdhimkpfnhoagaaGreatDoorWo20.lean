/- The walks of exact's pieces. The walk of exact's quotient at 1 by 3. The walk of exact's Quot at 1 by 3. A few values: 6 by 2,1,3,and 1 - 3. The walk of the laws' own test of life. The ring's laws by values; the laws' own num. The walk of the statement on the ring. The document's own Minus,Times and Order of any two numbers. What exact's Add,Sub,Mul and Cmp tell is what the document's own Plus,Minus,Times and Order tell. -/
import Derived.Test.YtdhimkpfnhoagaaGreatDoorWo08
import Derived.Laws.EntriesVeiled
import Derived.Test.YtdhimkpfnhoagaaGreatDoorWo18
import Derived.OwnWalk
import Derived.Laws.OwnMore
import Derived.Test.YtdhimkpfnhoagaaGreatDoorWo11
import Derived.Test.YtdhimkpfnhoagaaGreatDoorWo09
import Derived.Test.YtdhimkpfnhoagaaGreatDoorWo13
import Derived.Deep.Cut
import Derived.Test.YtdhimkpfnhoagaaGreatDoorWo19
import Derived.Test.YtdhimkpfnhoagaaGreatDoorWo14
import Derived.Test.YtdhimkpfnhoagaaGreatDoorWo17
namespace Go.Proofs.YtdhimkpfnhoagaaGreatDoor
open Go.ChangeShapes Go.WideShapes Go.ChangeAt Go.RowKit
set_option linter.unusedVariables false
set_option linter.unusedSimpArgs false
set_option maxHeartbeats 16000000
set_option maxRecDepth 100000
/-! ### pieces -/
theorem bl1 : bl 1 = 1:=by decide
abbrev third : Value:=.agg #[.bool false,.int .i64 768614336404564650,.int .i64 (-61),.bool true]
end Go.Proofs.YtdhimkpfnhoagaaGreatDoor
namespace Go.Proofs.YtdhimkpfnhoagaaGreatDoor
open Go.RowKit
set_option linter.unusedVariables false
set_option linter.unusedSimpArgs false
set_option maxHeartbeats 16000000
set_option maxRecDepth 100000
end Go.Proofs.YtdhimkpfnhoagaaGreatDoor
namespace Go.Proofs.YtdhimkpfnhoagaaGreatDoor
open Go.ChangeShapes Go.WideShapes Go.ChangeAt Go.RowKit
set_option linter.unusedVariables false
set_option linter.unusedSimpArgs false
set_option maxHeartbeats 16000000
set_option maxRecDepth 100000
theorem New.some {w0 w : World} {v : Value} {neg : Bool} {d : Int} {x : Int} (h : New w0 w v ⟨neg,[d],x⟩) : ∃ g cap,v = .agg #[.bool neg,.slice (some ⟨g,0,none⟩) 1 cap,.int .i64 x] ∧ w0.heap.size ≤ g ∧ Own w g cap [d]:=by
 rcases h with ⟨h,-⟩ | ⟨g,cap,e,hg,ho,-⟩
 ·cases h
 ·exact ⟨g,cap,e,hg,ho⟩
theorem Lies.mono {s : Int} {B C : Nat} {a : Nm} (h : Lies s B a) (hBC : B ≤ C) : Lies s C a:=⟨h.ok,h.low,Nat.lt_of_lt_of_le h.lt (Nat.pow_le_pow_right (by decide) hBC)⟩
theorem vz_ng (s : Int) (a : Nm) : vz s (ng a) = -vz s a:=by
 unfold vz ng
 dsimp only
 cases a.neg <;> simp [sg]
theorem frm_cfm (n : Bool) (v : Nat) (y : Int) : frm n v y = cfm (sg n (v : Int)) y:=by
 by_cases h : v = 0
 ·subst h
  rw [show sg n ((0 : Nat) : Int) = 0 by cases n <;> rfl,cfm_zero]
  simp [frm]
 ·have hsg:=sg_neg n (v : Int) (by omega)
  unfold cfm
  rw [hsg.1,hsg.2,Int.toNat_natCast]
theorem sgz_vz (s : Int) (r : Nm) (h : vld r = true) : sgz r.neg r.mag = cz (vz s r) 0:=by
 obtain ⟨n,L,x⟩:=r
 dsimp only
 by_cases e : L = []
 ·subst e
  rw [vz_nil,sgz_nil]
  rfl
 ·have p:=vz_pos s n L x e h
  rw [vz_nat,sgz_some n L e]
  generalize nv L * 2 ^ (x - s).toNat = y at *
  cases n <;> simp [sg,cz] <;> omega
theorem cz_sub (a b : Int) : cz (a - b) 0 = cz a b:=by
 unfold cz
 split <;> split <;> (try split) <;> (try split) <;> omega
/-! ### Calls whose numbers lie somewhere -/
def trn (b : Nm) : Nm:=⟨if b.mag.length = 0 then b.neg else !b.neg,b.mag,b.exp⟩
def tms (a b : Nm) : Nm:=nrm (a.neg != b.neg) (nv a.mag * nv b.mag) (a.exp + b.exp)
theorem minus_walk (P : Nat → Prop) (w : World) (n1 n2 : Bool) (a1 a2 : Option Addr) (l1 c1 l2 c2 : Nat) (x1 x2 : Int) (r : Nm) (m2 : Bool)
  (KT : Hid (∀ u,Kept w u → Calls Tryz.prog 145 #[.agg #[.bool n2,.slice a2 l2 c2,.int .i64 x2]] u fun e w' => e = .returned (.agg #[.bool m2,.slice a2 l2 c2,.int .i64 x2]) ∧ Kept u w'))
  (KP : Hid (∀ u,Kept w u → Calls Tryz.prog 149 #[.agg #[.bool n1,.slice a1 l1 c1,.int .i64 x1],.agg #[.bool m2,.slice a2 l2 c2,.int .i64 x2]] u fun e w' => (∃ v,e = .returned v ∧ RNp (fun c => (P c ∧ c < w.heap.size) ∨ u.heap.size ≤ c) w' v r) ∧ Kept u w')) :
  Calls Tryz.prog 173 #[.agg #[.bool n1,.slice a1 l1 c1,.int .i64 x1],.agg #[.bool n2,.slice a2 l2 c2,.int .i64 x2]] w fun e w' => (∃ v,e = .returned v ∧ RNp (fun c => P c ∨ w.heap.size ≤ c) w' v r) ∧ Kept w w':=by
 obtain ⟨W,hW⟩ : ∃ W,W = (((w.alloc (.cells #[.bool n1,.slice a1 l1 c1,.int .i64 x1] 26)).alloc (.cells #[.bool n2,.slice a2 l2 c2,.int .i64 x2] 26)).alloc nilNum):=⟨_,rfl⟩
 have hK : Kept w W:=by rw [hW]; exact (((Kept.refl w).alloc _ _).alloc _ _).alloc _ _
 have hWs : W.heap.size = w.heap.size + 3:=by rw [hW]; simp
 have HS : Hid (∀ u,Kept W u → ((u.cell? ⟨w.heap.size,0,none⟩ = some (.bool n1) ∧ u.cell? ⟨w.heap.size,1,none⟩ = some (.slice a1 l1 c1)) ∧ u.cell? ⟨w.heap.size,2,none⟩ = some (.int .i64 x1)) ∧ (u.cell? ⟨w.heap.size + 1,0,none⟩ = some (.bool n2) ∧ u.cell? ⟨w.heap.size + 1,1,none⟩ = some (.slice a2 l2 c2)) ∧ u.cell? ⟨w.heap.size + 1,2,none⟩ = some (.int .i64 x2)):=fun u k => ⟨⟨⟨((k.below.cell (p:=⟨w.heap.size,0,none⟩) (by show w.heap.size < W.heap.size; omega)).trans (by rw [hW]; simp [go_sem])),((k.below.cell (p:=⟨w.heap.size,1,none⟩) (by show w.heap.size < W.heap.size; omega)).trans (by rw [hW]; simp [go_sem]))⟩,((k.below.cell (p:=⟨w.heap.size,2,none⟩) (by show w.heap.size < W.heap.size; omega)).trans (by rw [hW]; simp [go_sem]))⟩,⟨((k.below.cell (p:=⟨w.heap.size + 1,0,none⟩) (by show w.heap.size + 1 < W.heap.size; omega)).trans (by rw [hW]; simp [go_sem])),((k.below.cell (p:=⟨w.heap.size + 1,1,none⟩) (by show w.heap.size + 1 < W.heap.size; omega)).trans (by rw [hW]; simp [go_sem]))⟩,((k.below.cell (p:=⟨w.heap.size + 1,2,none⟩) (by show w.heap.size + 1 < W.heap.size; omega)).trans (by rw [hW]; simp [go_sem]))⟩
 have HC : Hid (W.cell? ⟨w.heap.size + 1 + 1,0,none⟩ = some (.bool false) ∧ W.cell? ⟨w.heap.size + 1 + 1,1,none⟩ = some (.slice none 0 0) ∧ W.cell? ⟨w.heap.size + 1 + 1,2,none⟩ = some (.int .i64 0) ∧ ∀ o,W.frozen? ⟨w.heap.size + 1 + 1,o,none⟩ = false):=by rw [hW]; exact ⟨by simp [go_sem],by simp [go_sem],by simp [go_sem],fun o => by simp [go_sem]⟩
 go_enter Tryz.func173,Tryz.ntmps173
 go_upto_region 1 with fail
 rw [← hW]
 clear hW
 have kr0:=(Kept.refl W).drew
 refine wp_region_held_drew (S:=fun u => Kept w u ∧ ((u.cell? ⟨w.heap.size,0,none⟩ = some (.bool n1) ∧ u.cell? ⟨w.heap.size,1,none⟩ = some (.slice a1 l1 c1)) ∧ u.cell? ⟨w.heap.size,2,none⟩ = some (.int .i64 x1)) ∧ (u.cell? ⟨w.heap.size + 1,0,none⟩ = some (.bool n2) ∧ u.cell? ⟨w.heap.size + 1,1,none⟩ = some (.slice a2 l2 c2)) ∧ u.cell? ⟨w.heap.size + 1,2,none⟩ = some (.int .i64 x2)) (by kernel_rfl) ⟨hK.trans kr0,HS.out _ kr0⟩ (fun hHeld0 => ?_)
 refine tk (i:=0) (v:=?_) rfl ?_
 simp only [Act.put,zA,zB,zC,zD,zE,zF]
 refine tk (i:=1) (v:=?_) rfl ?_
 simp only [Act.put,zA,zB,zC,zD,zE,zF]
 refine wpAnyH_ready (rs:=[2]) (by kernel_rfl) (by simp) ?_
 refine AllReadyH.cons rfl (fun K hK9 => ?_) AllReadyH.nil
 go_simp
 go_wp2_with fail
 refine (KT.out _ (hK.trans kr0)).mono ?_
 rintro e x1 ⟨rfl,qq⟩
 have kr1:=kr0.trans qq
 refine hK9.out _ _ ⟨hK.trans kr1,HS.out _ kr1⟩ (fun hHeld1 => ?_)
 clear hK9 K
 refine wpAnyH_ready (rs:=[3]) (by kernel_rfl) (by simp) ?_
 refine AllReadyH.cons rfl (fun K hK9 => ?_) AllReadyH.nil
 go_simp
 go_wp2_with fail
 refine (KP.out _ (hK.trans kr1)).mono ?_
 rintro e x2 ⟨⟨v,rfl,hN⟩,qq2⟩
 obtain ⟨vn,va,vl,vc,vx,rfl⟩:=hN.shape5
 have kr2:=kr1.trans qq2
 refine hK9.out _ _ ⟨hK.trans kr2,HS.out _ kr2⟩ (fun hHeld2 => ?_)
 clear hK9 K
 have hc:=HC.out
 obtain ⟨f0,f1,f2,f3⟩:=res_cells (w.heap.size + 1 + 1) (by omega) kr2 hc.1 hc.2.1 hc.2.2.1 hc.2.2.2
 have kF:=(hK.trans kr2).setCell (p:=⟨w.heap.size + 1 + 1,0,none⟩) (by show w.heap.size ≤ w.heap.size + 1 + 1; omega) (.bool vn) |>.setCell (p:=⟨w.heap.size + 1 + 1,1,none⟩) (by show w.heap.size ≤ w.heap.size + 1 + 1; omega) (.slice va vl vc) |>.setCell (p:=⟨w.heap.size + 1 + 1,2,none⟩) (by show w.heap.size ≤ w.heap.size + 1 + 1; omega) (.int .i64 vx)
 refine wpAnyH_ready (rs:=[4]) (by kernel_rfl) (by simp) ?_
 refine AllReadyH.cons rfl (fun K hK9 => ?_) AllReadyH.nil
 go_simp
 refine hK9.out _ _ ⟨kF,by have q:=HS.out _ kr2; obtain ⟨⟨⟨q0,q1⟩,q2⟩,⟨q3,q4⟩,q5⟩:=q; refine ⟨⟨⟨?_,?_⟩,?_⟩,⟨?_,?_⟩,?_⟩ <;> simp [go_sem,q0,q1,q2,q3,q4,q5]⟩ (fun hHeld9 => ?_)
 clear hK9 K
 refine wpAnyH_done (by kernel_rfl) ?_ _
 clear hHeld0 hHeld1 hHeld2 hHeld9
 have hd:=(hN.imp (Q:=fun c => (P c ∧ c < w.heap.size) ∨ W.heap.size ≤ c) (fun b hb => hb.imp id (Nat.le_trans kr1.below.size))).done (w.heap.size + 1 + 1) (fun b hb => by rcases hb with h | h <;> omega) (.bool vn) (.slice va vl vc) (.int .i64 vx)
 go_wp2
 refine bodyPost_ret (v:=.agg #[.bool vn,.slice va vl vc,.int .i64 vx]) (by simp [results,Tryz.results173,go_sem,f0,f1,f2]) rfl ⟨⟨_,rfl,hd.imp (fun b hb => by rcases hb with h | h; exact Or.inl h.1; exact Or.inr (by omega))⟩,kF⟩
theorem times_walk (P : Nat → Prop) (w : World) (n1 n2 : Bool) (a1 a2 : Option Addr) (l1 c1 l2 c2 : Nat) (x1 x2 : Int) (r : Nm) (z : Nat) (y : Int) (hy : IntKind.i64.wrap (x1 + x2) = y)
  (KM : Hid (∀ u,Kept w u → Calls Tryz.prog 174 #[.slice a1 l1 c1,.slice a2 l2 c2] u fun e w' => (∃ s,e = .returned s ∧ RLp (Fresh u.heap.size) w' s (digs z)) ∧ Kept u w'))
  (hz : (digs z).length < 1000000) (hr : nrm (!(n1 == n2)) z y = r) :
  Calls Tryz.prog 141 #[.agg #[.bool n1,.slice a1 l1 c1,.int .i64 x1],.agg #[.bool n2,.slice a2 l2 c2,.int .i64 x2]] w fun e w' => (∃ v,e = .returned v ∧ RNp (fun c => P c ∨ w.heap.size ≤ c) w' v r) ∧ Kept w w':=by
 obtain ⟨W,hW⟩ : ∃ W,W = (((w.alloc (.cells #[.bool n1,.slice a1 l1 c1,.int .i64 x1] 26)).alloc (.cells #[.bool n2,.slice a2 l2 c2,.int .i64 x2] 26)).alloc nilNum):=⟨_,rfl⟩
 have hK : Kept w W:=by rw [hW]; exact (((Kept.refl w).alloc _ _).alloc _ _).alloc _ _
 have hWs : W.heap.size = w.heap.size + 3:=by rw [hW]; simp
 have HS : Hid (∀ u,Kept W u → ((u.cell? ⟨w.heap.size,0,none⟩ = some (.bool n1) ∧ u.cell? ⟨w.heap.size,1,none⟩ = some (.slice a1 l1 c1)) ∧ u.cell? ⟨w.heap.size,2,none⟩ = some (.int .i64 x1)) ∧ (u.cell? ⟨w.heap.size + 1,0,none⟩ = some (.bool n2) ∧ u.cell? ⟨w.heap.size + 1,1,none⟩ = some (.slice a2 l2 c2)) ∧ u.cell? ⟨w.heap.size + 1,2,none⟩ = some (.int .i64 x2)):=fun u k => ⟨⟨⟨((k.below.cell (p:=⟨w.heap.size,0,none⟩) (by show w.heap.size < W.heap.size; omega)).trans (by rw [hW]; simp [go_sem])),((k.below.cell (p:=⟨w.heap.size,1,none⟩) (by show w.heap.size < W.heap.size; omega)).trans (by rw [hW]; simp [go_sem]))⟩,((k.below.cell (p:=⟨w.heap.size,2,none⟩) (by show w.heap.size < W.heap.size; omega)).trans (by rw [hW]; simp [go_sem]))⟩,⟨((k.below.cell (p:=⟨w.heap.size + 1,0,none⟩) (by show w.heap.size + 1 < W.heap.size; omega)).trans (by rw [hW]; simp [go_sem])),((k.below.cell (p:=⟨w.heap.size + 1,1,none⟩) (by show w.heap.size + 1 < W.heap.size; omega)).trans (by rw [hW]; simp [go_sem]))⟩,((k.below.cell (p:=⟨w.heap.size + 1,2,none⟩) (by show w.heap.size + 1 < W.heap.size; omega)).trans (by rw [hW]; simp [go_sem]))⟩
 have HC : Hid (W.cell? ⟨w.heap.size + 1 + 1,0,none⟩ = some (.bool false) ∧ W.cell? ⟨w.heap.size + 1 + 1,1,none⟩ = some (.slice none 0 0) ∧ W.cell? ⟨w.heap.size + 1 + 1,2,none⟩ = some (.int .i64 0) ∧ ∀ o,W.frozen? ⟨w.heap.size + 1 + 1,o,none⟩ = false):=by rw [hW]; exact ⟨by simp [go_sem],by simp [go_sem],by simp [go_sem],fun o => by simp [go_sem]⟩
 have KN : Hid (∀ u0 u {vs : Value},RLp (Fresh u0.heap.size) u vs (digs z) → Kept W u0 → Kept W u → Calls Tryz.prog 147 #[.bool (!(n1 == n2)),vs,.int .i64 y] u fun e w' => (∃ v,e = .returned v ∧ RNp (Fresh W.heap.size) w' v r) ∧ Kept u w'):=fun u0 u vs h k0 k => by
  have:=norm_any u (!(n1 == n2)) (digs z) vs h.rl (dg_digs z) hz y
  rw [nv_digs,hr] at this
  refine this.mono ?_
  rintro e w' ⟨⟨v,rfl,hv⟩,kk⟩
  exact ⟨⟨v,rfl,hv.imp (fun b hb => Nat.le_trans k.below.size hb)⟩,kk⟩
 clear hr
 go_enter Tryz.func141,Tryz.ntmps141
 go_upto_region 1 with fail
 rw [← hW]
 clear hW
 have kr0:=(Kept.refl W).drew
 refine wp_region_held_drew (S:=fun u => Kept w u ∧ ((u.cell? ⟨w.heap.size,0,none⟩ = some (.bool n1) ∧ u.cell? ⟨w.heap.size,1,none⟩ = some (.slice a1 l1 c1)) ∧ u.cell? ⟨w.heap.size,2,none⟩ = some (.int .i64 x1)) ∧ (u.cell? ⟨w.heap.size + 1,0,none⟩ = some (.bool n2) ∧ u.cell? ⟨w.heap.size + 1,1,none⟩ = some (.slice a2 l2 c2)) ∧ u.cell? ⟨w.heap.size + 1,2,none⟩ = some (.int .i64 x2)) (by kernel_rfl) ⟨hK.trans kr0,HS.out _ kr0⟩ (fun hHeld0 => ?_)
 refine tk (i:=0) (v:=?_) rfl ?_
 simp only [Act.put,zA,zB,zC,zD,zE,zF]
 refine tk (i:=1) (v:=?_) rfl ?_
 simp only [Act.put,zA,zB,zC,zD,zE,zF]
 refine tk (i:=2) (v:=?_) rfl ?_
 simp only [Act.put,zA,zB,zC,zD,zE,zF]
 refine tk (i:=3) (v:=?_) rfl ?_
 simp only [Act.put,zA,zB,zC,zD,zE,zF]
 refine tk (i:=4) (v:=?_) rfl ?_
 simp only [Act.put,zA,zB,zC,zD,zE,zF]
 refine tk (i:=5) (v:=?_) rfl ?_
 simp only [Act.put,zA,zB,zC,zD,zE,zF]
 refine tk (i:=6) (v:=?_) rfl ?_
 simp only [Act.put,zA,zB,zC,zD,zE,zF]
 refine tk (i:=7) (v:=?_) rfl ?_
 simp only [Act.put,zA,zB,zC,zD,zE,zF]
 refine tk (i:=8) (v:=?_) rfl ?_
 simp only [Act.put,zA,zB,zC,zD,zE,zF]
 refine tk (i:=10) (v:=?_) rfl ?_
 simp only [Act.put,zA,zB,zC,zD,zE,zF]
 refine tk (i:=11) (v:=?_) rfl ?_
 simp only [Act.put,zA,zB,zC,zD,zE,zF]
 refine tk (i:=12) (v:=?_) rfl ?_
 simp only [Act.put,zA,zB,zC,zD,zE,zF]
 refine tk (i:=13) (v:=?_) rfl ?_
 simp only [Act.put,zA,zB,zC,zD,zE,zF]
 refine tk (i:=14) (v:=?_) rfl ?_
 simp only [Act.put,zA,zB,zC,zD,zE,zF]
 refine wpAnyH_ready (rs:=[9]) (by kernel_rfl) (by simp) ?_
 refine AllReadyH.cons rfl (fun K hK9 => ?_) AllReadyH.nil
 go_simp
 go_wp2_with fail
 refine (KM.out _ (hK.trans kr0)).mono ?_
 rintro e x1 ⟨⟨vs,rfl,hs⟩,qq⟩
 have kr1:=kr0.trans qq
 refine hK9.out _ _ ⟨hK.trans kr1,HS.out _ kr1⟩ (fun hHeld1 => ?_)
 clear hK9 K
 refine wpAnyH_ready (rs:=[15]) (by kernel_rfl) (by simp) ?_
 refine AllReadyH.cons rfl (fun K hK9 => ?_) AllReadyH.nil
 go_simp
 go_wp2_with fail
 refine (KN.out _ _ hs kr0 kr1).mono ?_
 rintro e x2 ⟨⟨v,rfl,hN⟩,qq2⟩
 obtain ⟨vn,va,vl,vc,vx,rfl⟩:=hN.shape5
 have kr2:=kr1.trans qq2
 refine hK9.out _ _ ⟨hK.trans kr2,HS.out _ kr2⟩ (fun hHeld2 => ?_)
 clear hK9 K
 have hc:=HC.out
 obtain ⟨f0,f1,f2,f3⟩:=res_cells (w.heap.size + 1 + 1) (by omega) kr2 hc.1 hc.2.1 hc.2.2.1 hc.2.2.2
 have kF:=(hK.trans kr2).setCell (p:=⟨w.heap.size + 1 + 1,0,none⟩) (by show w.heap.size ≤ w.heap.size + 1 + 1; omega) (.bool vn) |>.setCell (p:=⟨w.heap.size + 1 + 1,1,none⟩) (by show w.heap.size ≤ w.heap.size + 1 + 1; omega) (.slice va vl vc) |>.setCell (p:=⟨w.heap.size + 1 + 1,2,none⟩) (by show w.heap.size ≤ w.heap.size + 1 + 1; omega) (.int .i64 vx)
 refine wpAnyH_ready (rs:=[16]) (by kernel_rfl) (by simp) ?_
 refine AllReadyH.cons rfl (fun K hK9 => ?_) AllReadyH.nil
 go_simp
 refine hK9.out _ _ ⟨kF,by have q:=HS.out _ kr2; obtain ⟨⟨⟨q0,q1⟩,q2⟩,⟨q3,q4⟩,q5⟩:=q; refine ⟨⟨⟨?_,?_⟩,?_⟩,⟨?_,?_⟩,?_⟩ <;> simp [go_sem,q0,q1,q2,q3,q4,q5]⟩ (fun hHeld9 => ?_)
 clear hK9 K
 refine wpAnyH_done (by kernel_rfl) ?_ _
 clear hHeld0 hHeld1 hHeld2 hHeld9
 have hd:=hN.done (w.heap.size + 1 + 1) (fun b hb => by simp [Fresh] at hb; omega) (.bool vn) (.slice va vl vc) (.int .i64 vx)
 go_wp2
 refine bodyPost_ret (v:=.agg #[.bool vn,.slice va vl vc,.int .i64 vx]) (by simp [results,Tryz.results141,go_sem,f0,f1,f2]) rfl ⟨⟨_,rfl,hd.imp (fun b hb => Or.inr (by simp [Fresh] at hb; omega))⟩,kF⟩
theorem order_w (P : Nat → Prop) (w : World) (n1 n2 : Bool) (a1 a2 : Option Addr) (l1 c1 l2 c2 : Nat) (x1 x2 : Int) (r : Nm) (G : Int)
  (KM : Hid (∀ u,Kept w u → Calls Tryz.prog 173 #[.agg #[.bool n1,.slice a1 l1 c1,.int .i64 x1],.agg #[.bool n2,.slice a2 l2 c2,.int .i64 x2]] u fun e w' => (∃ v,e = .returned v ∧ RNp (fun c => P c ∨ u.heap.size ≤ c) w' v r) ∧ Kept u w')) (hG : sgz r.neg r.mag = G) :
  Calls Tryz.prog 140 #[.agg #[.bool n1,.slice a1 l1 c1,.int .i64 x1],.agg #[.bool n2,.slice a2 l2 c2,.int .i64 x2]] w fun e w' => e = .returned (.int .i64 G) ∧ Kept w w':=by
 obtain ⟨W,hW⟩ : ∃ W,W = ((w.alloc (.cells #[.bool n1,.slice a1 l1 c1,.int .i64 x1] 26)).alloc (.cells #[.bool n2,.slice a2 l2 c2,.int .i64 x2] 26)):=⟨_,rfl⟩
 have hK : Kept w W:=by rw [hW]; exact ((Kept.refl w).alloc _ _).alloc _ _
 have hWs : W.heap.size = w.heap.size + 2:=by rw [hW]; simp
 have HS : Hid (∀ u,Kept W u → ((u.cell? ⟨w.heap.size,0,none⟩ = some (.bool n1) ∧ u.cell? ⟨w.heap.size,1,none⟩ = some (.slice a1 l1 c1)) ∧ u.cell? ⟨w.heap.size,2,none⟩ = some (.int .i64 x1)) ∧ (u.cell? ⟨w.heap.size + 1,0,none⟩ = some (.bool n2) ∧ u.cell? ⟨w.heap.size + 1,1,none⟩ = some (.slice a2 l2 c2)) ∧ u.cell? ⟨w.heap.size + 1,2,none⟩ = some (.int .i64 x2)):=fun u k => ⟨⟨⟨((k.below.cell (p:=⟨w.heap.size,0,none⟩) (by show w.heap.size < W.heap.size; omega)).trans (by rw [hW]; simp [go_sem])),((k.below.cell (p:=⟨w.heap.size,1,none⟩) (by show w.heap.size < W.heap.size; omega)).trans (by rw [hW]; simp [go_sem]))⟩,((k.below.cell (p:=⟨w.heap.size,2,none⟩) (by show w.heap.size < W.heap.size; omega)).trans (by rw [hW]; simp [go_sem]))⟩,⟨((k.below.cell (p:=⟨w.heap.size + 1,0,none⟩) (by show w.heap.size + 1 < W.heap.size; omega)).trans (by rw [hW]; simp [go_sem])),((k.below.cell (p:=⟨w.heap.size + 1,1,none⟩) (by show w.heap.size + 1 < W.heap.size; omega)).trans (by rw [hW]; simp [go_sem]))⟩,((k.below.cell (p:=⟨w.heap.size + 1,2,none⟩) (by show w.heap.size + 1 < W.heap.size; omega)).trans (by rw [hW]; simp [go_sem]))⟩
 go_enter Tryz.func140,Tryz.ntmps140
 go_upto_region 1 with fail
 rw [← hW]
 clear hW
 have e0:=HS.out _ (Kept.refl W)
 go_wp2_with fail
 refine (KM.out _ hK).mono ?_
 rintro e x2 ⟨⟨v,rfl,hN⟩,kr2⟩
 obtain ⟨ao,c,rfl,-⟩:=hN.shape
 have KS : Hid (Calls Tryz.prog 150 #[.agg #[.bool r.neg,.slice ao r.mag.length c,.int .i64 r.exp]] x2 fun e w' => e = .returned (.int .i64 G) ∧ Kept x2 w'):=by
  have:=rsig_any r.neg ao r.mag.length c r.exp x2
  rw [← hG]
  exact this
 clear hG e0
 generalize r.mag.length = rl at *
 generalize r.neg = rn at *
 generalize r.exp = rx at *
 go_wp2_with fail
 refine KS.out.mono ?_
 rintro e x3 ⟨rfl,kr3⟩
 go_wp2
 go_ret
 exact ⟨rfl,hK.trans (kr2.trans kr3)⟩
theorem vld_cn (a : Nm) (h : vld a = true) : Cn a.mag ∧ a.mag.length ≤ 2000 ∧ -1048576 ≤ a.exp ∧ a.exp ≤ 1048576:=by
 obtain ⟨n,L,x⟩:=a
 by_cases e : L = []
 ·subst e
  obtain ⟨-,rfl⟩:=vld_nil _ _ h
  exact ⟨⟨Dg.nil,fun h => absurd rfl h⟩,by simp,by dsimp only; omega,by dsimp only; omega⟩
 ·obtain ⟨p1,p2,p3,p4,p5,p6⟩:=vld_some n L x e h
  exact ⟨⟨p2,fun _ => p3⟩,p1,p5,p6⟩
theorem trn_ne (b : Nm) (h : b.mag ≠ []) : trn b = ng b:=by
 have : ¬ b.mag.length = 0:=fun e => h (List.length_eq_zero_iff.1 e)
 simp [trn,ng,this]
theorem trn_nil (b : Nm) (h : b.mag = []) : trn b = b:=by
 obtain ⟨n,L,x⟩:=b
 dsimp only at h
 subst h
 rfl
theorem trn_vld (b : Nm) (h : vld b = true) : vld (trn b) = true:=by
 by_cases e : b.mag = []
 ·rw [trn_nil b e]; exact h
 ·rw [trn_ne b e]; exact vld_ng b.neg b.mag b.exp h e
theorem sgz_nrm (t : Int) (lo : Int) : sgz (nrm (decide (t < 0)) t.natAbs lo).neg (nrm (decide (t < 0)) t.natAbs lo).mag = cz t 0:=by
 unfold nrm
 by_cases h : t = 0
 ·subst h
  rfl
 ·rw [if_neg (by omega)]
  dsimp only
  have hne : digs (t.natAbs / 2 ^ tzn t.natAbs) ≠ []:=fun e => by
   have h1:=nv_digs (t.natAbs / 2 ^ tzn t.natAbs)
   rw [e] at h1
   exact (bl_sub t.natAbs (by omega)).2 h1.symm
  rw [sgz_some _ _ hne]
  unfold cz
  by_cases g : t < 0
  ·rw [if_pos (by simpa using g),if_pos g]
  ·rw [if_neg (by simpa using g),if_neg g,if_pos (by omega)]
theorem ord_cz (s : Int) (a b : Nm) (ha : vld a = true) (hb : vld b = true) (ga : a.mag ≠ [] → s ≤ a.exp) (gb : b.mag ≠ [] → s ≤ b.exp) : sgz (pls a (trn b)).neg (pls a (trn b)).mag = cz (vz s a) (vz s b):=by
 by_cases e1 : a.mag = []
 ·have hp : pls a (trn b) = trn b:=by rw [pls,if_pos e1]
  have z1 : vz s a = 0:=by obtain ⟨n,L,x⟩:=a; dsimp only at e1; subst e1; exact vz_nil _ _ _
  rw [hp,sgz_vz s (trn b) (trn_vld b hb),z1,← cz_sub 0 (vz s b)]
  by_cases e2 : b.mag = []
  ·rw [trn_nil b e2]
   have z2 : vz s b = 0:=by obtain ⟨n,L,x⟩:=b; dsimp only at e2; subst e2; exact vz_nil _ _ _
   rw [z2]
   rfl
  ·rw [trn_ne b e2,vz_ng,Int.zero_sub]
 ·by_cases e2 : b.mag = []
  ·have hp : pls a (trn b) = a:=by
    rw [trn_nil b e2,pls,if_neg e1,if_pos e2]
   have z2 : vz s b = 0:=by obtain ⟨n,L,x⟩:=b; dsimp only at e2; subst e2; exact vz_nil _ _ _
   rw [hp,sgz_vz s a ha,z2]
  ·have hp : pls a (trn b) = nrm (decide (tot a (ng b) (min a.exp b.exp) < 0)) (tot a (ng b) (min a.exp b.exp)).natAbs (min a.exp b.exp):=by
    rw [trn_ne b e2,pls,if_neg e1,if_neg (by exact e2)]
    rfl
   rw [hp,sgz_nrm]
   have key : vz s a - vz s b = tot a (ng b) (min a.exp b.exp) * 2 ^ (min a.exp b.exp - s).toNat:=by
    have la:=ga e1
    have lb:=gb e2
    have q1 : (a.exp - s).toNat = (a.exp - min a.exp b.exp).toNat + (min a.exp b.exp - s).toNat:=by omega
    have q2 : (b.exp - s).toNat = (b.exp - min a.exp b.exp).toNat + (min a.exp b.exp - s).toNat:=by omega
    unfold vz tot ng
    dsimp only
    rw [q1,q2,pow_add_int,pow_add_int,Int.add_mul,Int.sub_eq_add_neg]
    congr 1
    ·cases a.neg <;> simp [sg,Int.mul_assoc,Int.neg_mul]
    ·cases b.neg <;> simp [sg,Int.mul_assoc,Int.neg_mul]
   rw [← cz_sub (vz s a) (vz s b),key]
   have:=cz_mul (tot a (ng b) (min a.exp b.exp)) 0 (min a.exp b.exp - s).toNat
   rw [Int.zero_mul] at this
   exact this.symm
/-! ### The calls -/
abbrev PL (P : Nat → Prop) (w : World) : Nat → Prop:=fun c => P c ∨ w.heap.size ≤ c
theorem trn_rnp {P : Nat → Prop} {w : World} {n : Bool} {ao : Option Addr} {c : Nat} {L : List Int} {x : Int} (h : RNp P w (.agg #[.bool n,.slice ao L.length c,.int .i64 x]) ⟨n,L,x⟩) : RNp P w (.agg #[.bool (if L.length = 0 then n else !n),.slice ao L.length c,.int .i64 x]) (trn ⟨n,L,x⟩):=by
 obtain ⟨s,e,hs⟩:=h
 cases e
 exact ⟨_,rfl,hs⟩
theorem minus_any (P : Nat → Prop) (w : World) (a b : Nm) (va vb : Value) (ha : RNp P w va a) (hb : RNp P w vb b) (ca : vld a = true) (cb : vld b = true) :
  Calls Tryz.prog 173 #[va,vb] w fun e w' => (∃ v,e = .returned v ∧ RNp (PL P w) w' v (pls a (trn b))) ∧ Kept w w':=by
 have qa:=vld_cn a ca
 have qb:=vld_cn _ (trn_vld b cb)
 obtain ⟨n1,L1,x1⟩:=a
 obtain ⟨n2,L2,x2⟩:=b
 obtain ⟨a1,c1,rfl,-⟩:=ha.shape
 obtain ⟨a2,c2,rfl,-⟩:=hb.shape
 refine minus_walk P w n1 n2 a1 a2 L1.length c1 L2.length c2 x1 x2 _ (if L2.length = 0 then n2 else !n2) (fun u k => turned_any n2 a2 L2.length c2 x2 u) (fun u k => ?_)
 exact plus_any _ u ⟨n1,L1,x1⟩ (trn ⟨n2,L2,x2⟩) _ _ (ha.here.kept k) (trn_rnp (hb.here.kept k)) qa.1 qb.1 (by have:=qa.2.1; omega) (by have:=qb.2.1; omega) (by have:=qa.2.2; omega) (by have:=qb.2.2; omega)
theorem times_any (P : Nat → Prop) (w : World) (a b : Nm) (va vb : Value) (ha : RNp P w va a) (hb : RNp P w vb b) (ca : vld a = true) (cb : vld b = true) :
  Calls Tryz.prog 141 #[va,vb] w fun e w' => (∃ v,e = .returned v ∧ RNp (PL P w) w' v (tms a b)) ∧ Kept w w':=by
 have qa:=vld_cn a ca
 have qb:=vld_cn b cb
 obtain ⟨n1,L1,x1⟩:=a
 obtain ⟨n2,L2,x2⟩:=b
 obtain ⟨a1,c1,rfl,hra⟩:=ha.shape
 obtain ⟨a2,c2,rfl,hrb⟩:=hb.shape
 dsimp only at *
 have d1:=cn_digs qa.1
 have d2:=cn_digs qb.1
 refine times_walk P w n1 n2 a1 a2 L1.length c1 L2.length c2 x1 x2 _ (nv L1 * nv L2) (x1 + x2) (by rw [wrap_i64]; omega) (fun u k => ?_) ?_ rfl
 ·have:=natMul_any u (nv L1) (nv L2) (.slice a1 L1.length c1) (.slice a2 L2.length c2) (by rw [d1]; exact hra.rl.kept k) (by rw [d2]; exact hrb.rl.kept k) (by rw [d1]; omega) (by rw [d2]; omega)
  exact this
 ·obtain ⟨N,hN⟩ : ∃ N : Nat,N = 4000:=⟨_,rfl⟩
  have h1:=nv_lt L1 qa.1.1
  have h2:=nv_lt L2 qb.1.1
  have h3 : nv L1 * nv L2 < 2 ^ (30 * N):=by
   have:=Nat.mul_lt_mul'' h1 h2
   rw [← Nat.pow_add] at this
   exact Nat.lt_of_lt_of_le this (Nat.pow_le_pow_right (by decide) (by omega))
  have:=digs_length_le _ _ h3
  omega
theorem order2_any (P : Nat → Prop) (w : World) (a b : Nm) (va vb : Value) (ha : RNp P w va a) (hb : RNp P w vb b) (ca : vld a = true) (cb : vld b = true) (G : Int) (hG : sgz (pls a (trn b)).neg (pls a (trn b)).mag = G) :
  Calls Tryz.prog 140 #[va,vb] w fun e w' => e = .returned (.int .i64 G) ∧ Kept w w':=by
 obtain ⟨n1,L1,x1⟩:=a
 obtain ⟨n2,L2,x2⟩:=b
 obtain ⟨a1,c1,rfl,-⟩:=ha.shape
 obtain ⟨a2,c2,rfl,-⟩:=hb.shape
 exact order_w P w n1 n2 a1 a2 L1.length c1 L2.length c2 x1 x2 _ G (fun u k => minus_any _ u ⟨n1,L1,x1⟩ ⟨n2,L2,x2⟩ _ _ (ha.kept k) (hb.kept k) ca cb) hG
end Go.Proofs.YtdhimkpfnhoagaaGreatDoor
