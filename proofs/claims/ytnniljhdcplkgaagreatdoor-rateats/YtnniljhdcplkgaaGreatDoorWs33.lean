/-  -/
import Derived.Test.YtnniljhdcplkgaaGreatDoorWs32
import Derived.Test.YtnniljhdcplkgaaGreatDoorWs18
import Derived.Test.YtnniljhdcplkgaaGreatDoorWs19
namespace Go.Proofs.YtnniljhdcplkgaaGreatDoor
open Go.ChangeShapes Go.WideShapes Go.ChangeAt Go.RowKit
set_option maxHeartbeats 16000000
set_option maxRecDepth 100000
set_option linter.unusedVariables false
set_option linter.unusedSimpArgs false
def trn (b:Nm):Nm:=⟨if b.mag.length=0 then b.neg else !b.neg,b.mag,b.exp⟩
def tms (a b:Nm):Nm:=nrm (a.neg != b.neg) (nv a.mag*nv b.mag) (a.exp+b.exp)
theorem minus_walk (P:Nat→Prop)(w:World)(n1 n2:Bool)(a1 a2:Option Addr)(l1 c1 l2 c2:Nat)(x1 x2:Int)(r:Nm)(m2:Bool)
  (KT:Hid (∀u,Kept w u→Calls Tryz.prog 49 #[.agg #[.bool n2,.slice a2 l2 c2,.int .i64 x2]] u fun e w'=>e=.returned (.agg #[.bool m2,.slice a2 l2 c2,.int .i64 x2])∧Kept u w'))
  (KP:Hid (∀u,Kept w u→Calls Tryz.prog 50 #[.agg #[.bool n1,.slice a1 l1 c1,.int .i64 x1],.agg #[.bool m2,.slice a2 l2 c2,.int .i64 x2]] u fun e w'=>(∃v,e=.returned v∧RNp (fun c=>(P c∧c<w.heap.size)∨u.heap.size≤c) w' v r)∧Kept u w')):
  Calls Tryz.prog 59 #[.agg #[.bool n1,.slice a1 l1 c1,.int .i64 x1],.agg #[.bool n2,.slice a2 l2 c2,.int .i64 x2]] w fun e w'=>(∃v,e=.returned v∧RNp (fun c=>P c∨w.heap.size≤c) w' v r)∧Kept w w':=by
 obtain⟨W,hW⟩:∃W,W=(((w.alloc (.cells #[.bool n1,.slice a1 l1 c1,.int .i64 x1] 43)).alloc (.cells #[.bool n2,.slice a2 l2 c2,.int .i64 x2] 43)).alloc nilNum):=⟨_,rfl⟩
 have hK:Kept w W:=by rw[hW];exact(((Kept.refl w).alloc _ _).alloc _ _).alloc _ _
 have hWs:W.heap.size=w.heap.size+3:=by rw[hW];simp
 have HS:Hid (∀u,Kept W u→((u.cell? ⟨w.heap.size,0,none⟩=some (.bool n1)∧u.cell? ⟨w.heap.size,1,none⟩=some (.slice a1 l1 c1))∧u.cell? ⟨w.heap.size,2,none⟩=some (.int .i64 x1))∧(u.cell? ⟨w.heap.size+1,0,none⟩=some (.bool n2)∧u.cell? ⟨w.heap.size+1,1,none⟩=some (.slice a2 l2 c2))∧u.cell? ⟨w.heap.size+1,2,none⟩=some (.int .i64 x2)):=fun u k=>⟨⟨⟨((k.below.cell (p:=⟨w.heap.size,0,none⟩) (by show w.heap.size<W.heap.size;omega)).trans (by rw[hW];simp[go_sem])),((k.below.cell (p:=⟨w.heap.size,1,none⟩) (by show w.heap.size<W.heap.size;omega)).trans (by rw[hW];simp[go_sem]))⟩,((k.below.cell (p:=⟨w.heap.size,2,none⟩) (by show w.heap.size<W.heap.size;omega)).trans (by rw[hW];simp[go_sem]))⟩,⟨((k.below.cell (p:=⟨w.heap.size+1,0,none⟩) (by show w.heap.size+1<W.heap.size;omega)).trans (by rw[hW];simp[go_sem])),((k.below.cell (p:=⟨w.heap.size+1,1,none⟩) (by show w.heap.size+1<W.heap.size;omega)).trans (by rw[hW];simp[go_sem]))⟩,((k.below.cell (p:=⟨w.heap.size+1,2,none⟩) (by show w.heap.size+1<W.heap.size;omega)).trans (by rw[hW];simp[go_sem]))⟩
 have HC:Hid (W.cell? ⟨w.heap.size+1+1,0,none⟩=some (.bool false)∧W.cell? ⟨w.heap.size+1+1,1,none⟩=some (.slice none 0 0)∧W.cell? ⟨w.heap.size+1+1,2,none⟩=some (.int .i64 0)∧∀o,W.frozen? ⟨w.heap.size+1+1,o,none⟩=false):=by rw[hW];exact⟨by simp[go_sem],by simp[go_sem],by simp[go_sem],fun o=>by simp[go_sem]⟩
 go_enter Tryz.func59,Tryz.ntmps59
 go_upto_region 1 with fail
 rw[←hW]
 clear hW
 have kr0:=(Kept.refl W).drew
 refine wp_region_held_drew (S:=fun u=>Kept w u∧((u.cell? ⟨w.heap.size,0,none⟩=some (.bool n1)∧u.cell? ⟨w.heap.size,1,none⟩=some (.slice a1 l1 c1))∧u.cell? ⟨w.heap.size,2,none⟩=some (.int .i64 x1))∧(u.cell? ⟨w.heap.size+1,0,none⟩=some (.bool n2)∧u.cell? ⟨w.heap.size+1,1,none⟩=some (.slice a2 l2 c2))∧u.cell? ⟨w.heap.size+1,2,none⟩=some (.int .i64 x2)) (by kernel_rfl) ⟨hK.trans kr0,HS.out _ kr0⟩ (fun hHeld0=>?_)
 refine tk (i:=0) (v:=?_) rfl ?_
 simp only[Act.put,zA,zB,zC,zD,zE,zF]
 refine tk (i:=1) (v:=?_) rfl ?_
 simp only[Act.put,zA,zB,zC,zD,zE,zF]
 refine wpAnyH_ready (rs:=[2]) (by kernel_rfl) (by simp) ?_
 refine AllReadyH.cons rfl (fun K hK9=>?_) AllReadyH.nil
 go_simp
 go_wp2_with fail
 refine(KT.out _ (hK.trans kr0)).mono ?_
 rintro e x1 ⟨rfl,qq⟩
 have kr1:=kr0.trans qq
 refine hK9.out _ _ ⟨hK.trans kr1,HS.out _ kr1⟩ (fun hHeld1=>?_)
 clear hK9 K
 refine wpAnyH_ready (rs:=[3]) (by kernel_rfl) (by simp) ?_
 refine AllReadyH.cons rfl (fun K hK9=>?_) AllReadyH.nil
 go_simp
 go_wp2_with fail
 refine(KP.out _ (hK.trans kr1)).mono ?_
 rintro e x2 ⟨⟨v,rfl,hN⟩,qq2⟩
 obtain⟨vn,va,vl,vc,vx,rfl⟩:=hN.shape5
 have kr2:=kr1.trans qq2
 refine hK9.out _ _ ⟨hK.trans kr2,HS.out _ kr2⟩ (fun hHeld2=>?_)
 clear hK9 K
 have hc:=HC.out
 obtain⟨f0,f1,f2,f3⟩:=res_cells (w.heap.size+1+1) (by omega) kr2 hc.1 hc.2.1 hc.2.2.1 hc.2.2.2
 have kF:=(hK.trans kr2).setCell (p:=⟨w.heap.size+1+1,0,none⟩) (by show w.heap.size≤w.heap.size+1+1;omega) (.bool vn)|>.setCell (p:=⟨w.heap.size+1+1,1,none⟩) (by show w.heap.size≤w.heap.size+1+1;omega) (.slice va vl vc)|>.setCell (p:=⟨w.heap.size+1+1,2,none⟩) (by show w.heap.size≤w.heap.size+1+1;omega) (.int .i64 vx)
 refine wpAnyH_ready (rs:=[4]) (by kernel_rfl) (by simp) ?_
 refine AllReadyH.cons rfl (fun K hK9=>?_) AllReadyH.nil
 go_simp
 refine hK9.out _ _ ⟨kF,by have q:=HS.out _ kr2;obtain⟨⟨⟨q0,q1⟩,q2⟩,⟨q3,q4⟩,q5⟩:=q;refine⟨⟨⟨?_,?_⟩,?_⟩,⟨?_,?_⟩,?_⟩<;>simp[go_sem,q0,q1,q2,q3,q4,q5]⟩ (fun hHeld9=>?_)
 clear hK9 K
 refine wpAnyH_done (by kernel_rfl) ?_ _
 clear hHeld0 hHeld1 hHeld2 hHeld9
 have hd:=(hN.imp (Q:=fun c=>(P c∧c<w.heap.size)∨W.heap.size≤c) (fun b hb=>hb.imp id (Nat.le_trans kr1.below.size))).done (w.heap.size+1+1) (fun b hb=>by rcases hb with h|h<;>omega) (.bool vn) (.slice va vl vc) (.int .i64 vx)
 go_wp2
 refine bodyPost_ret (v:=.agg #[.bool vn,.slice va vl vc,.int .i64 vx]) (by simp[results,Tryz.results59,go_sem,f0,f1,f2]) rfl ⟨⟨_,rfl,hd.imp (fun b hb=>by rcases hb with h|h;exact Or.inl h.1;exact Or.inr (by omega))⟩,kF⟩
theorem rtimes0_walk (P:Nat→Prop)(w:World)(n1 n2:Bool)(a1 a2:Option Addr)(l1 c1 l2 c2:Nat)(x1 x2:Int)(r:Nm)(z:Nat)(y:Int)(hy:IntKind.i64.wrap (x1+x2)=y)
  (KM:Hid (∀u,Kept w u→Calls Tryz.prog 79 #[.slice a1 l1 c1,.slice a2 l2 c2] u fun e w'=>(∃s,e=.returned s∧RLp (Fresh u.heap.size) w' s (digs z))∧Kept u w'))
  (hz:(digs z).length<1000000) (hr:nrm (!(n1==n2)) z y=r):
  Calls Tryz.prog 47 #[.agg #[.bool n1,.slice a1 l1 c1,.int .i64 x1],.agg #[.bool n2,.slice a2 l2 c2,.int .i64 x2]] w fun e w'=>(∃v,e=.returned v∧RNp (fun c=>P c∨w.heap.size≤c) w' v r)∧Kept w w':=by
 obtain⟨W,hW⟩:∃W,W=(((w.alloc (.cells #[.bool n1,.slice a1 l1 c1,.int .i64 x1] 43)).alloc (.cells #[.bool n2,.slice a2 l2 c2,.int .i64 x2] 43)).alloc nilNum):=⟨_,rfl⟩
 have hK:Kept w W:=by rw[hW];exact(((Kept.refl w).alloc _ _).alloc _ _).alloc _ _
 have hWs:W.heap.size=w.heap.size+3:=by rw[hW];simp
 have HS:Hid (∀u,Kept W u→((u.cell? ⟨w.heap.size,0,none⟩=some (.bool n1)∧u.cell? ⟨w.heap.size,1,none⟩=some (.slice a1 l1 c1))∧u.cell? ⟨w.heap.size,2,none⟩=some (.int .i64 x1))∧(u.cell? ⟨w.heap.size+1,0,none⟩=some (.bool n2)∧u.cell? ⟨w.heap.size+1,1,none⟩=some (.slice a2 l2 c2))∧u.cell? ⟨w.heap.size+1,2,none⟩=some (.int .i64 x2)):=fun u k=>⟨⟨⟨((k.below.cell (p:=⟨w.heap.size,0,none⟩) (by show w.heap.size<W.heap.size;omega)).trans (by rw[hW];simp[go_sem])),((k.below.cell (p:=⟨w.heap.size,1,none⟩) (by show w.heap.size<W.heap.size;omega)).trans (by rw[hW];simp[go_sem]))⟩,((k.below.cell (p:=⟨w.heap.size,2,none⟩) (by show w.heap.size<W.heap.size;omega)).trans (by rw[hW];simp[go_sem]))⟩,⟨((k.below.cell (p:=⟨w.heap.size+1,0,none⟩) (by show w.heap.size+1<W.heap.size;omega)).trans (by rw[hW];simp[go_sem])),((k.below.cell (p:=⟨w.heap.size+1,1,none⟩) (by show w.heap.size+1<W.heap.size;omega)).trans (by rw[hW];simp[go_sem]))⟩,((k.below.cell (p:=⟨w.heap.size+1,2,none⟩) (by show w.heap.size+1<W.heap.size;omega)).trans (by rw[hW];simp[go_sem]))⟩
 have HC:Hid (W.cell? ⟨w.heap.size+1+1,0,none⟩=some (.bool false)∧W.cell? ⟨w.heap.size+1+1,1,none⟩=some (.slice none 0 0)∧W.cell? ⟨w.heap.size+1+1,2,none⟩=some (.int .i64 0)∧∀o,W.frozen? ⟨w.heap.size+1+1,o,none⟩=false):=by rw[hW];exact⟨by simp[go_sem],by simp[go_sem],by simp[go_sem],fun o=>by simp[go_sem]⟩
 have KN:Hid (∀u0 u {vs:Value},RLp (Fresh u0.heap.size) u vs (digs z)→Kept W u0→Kept W u→Calls Tryz.prog 51 #[.bool (!(n1==n2)),vs,.int .i64 y] u fun e w'=>(∃v,e=.returned v∧RNp (Fresh W.heap.size) w' v r)∧Kept u w'):=fun u0 u vs h k0 k=>by
  have:=norm_any u (!(n1==n2)) (digs z) vs h.rl (dg_digs z) hz y
  rw[nv_digs,hr]at this
  refine this.mono ?_
  rintro e w' ⟨⟨v,rfl,hv⟩,kk⟩
  exact⟨⟨v,rfl,hv.imp (fun b hb=>Nat.le_trans k.below.size hb)⟩,kk⟩
 clear hr
 go_enter Tryz.func47,Tryz.ntmps47
 go_upto_region 1 with fail
 rw[←hW]
 clear hW
 have kr0:=(Kept.refl W).drew
 refine wp_region_held_drew (S:=fun u=>Kept w u∧((u.cell? ⟨w.heap.size,0,none⟩=some (.bool n1)∧u.cell? ⟨w.heap.size,1,none⟩=some (.slice a1 l1 c1))∧u.cell? ⟨w.heap.size,2,none⟩=some (.int .i64 x1))∧(u.cell? ⟨w.heap.size+1,0,none⟩=some (.bool n2)∧u.cell? ⟨w.heap.size+1,1,none⟩=some (.slice a2 l2 c2))∧u.cell? ⟨w.heap.size+1,2,none⟩=some (.int .i64 x2)) (by kernel_rfl) ⟨hK.trans kr0,HS.out _ kr0⟩ (fun hHeld0=>?_)
 refine tk (i:=0) (v:=?_) rfl ?_
 simp only[Act.put,zA,zB,zC,zD,zE,zF]
 refine tk (i:=1) (v:=?_) rfl ?_
 simp only[Act.put,zA,zB,zC,zD,zE,zF]
 refine tk (i:=2) (v:=?_) rfl ?_
 simp only[Act.put,zA,zB,zC,zD,zE,zF]
 refine tk (i:=3) (v:=?_) rfl ?_
 simp only[Act.put,zA,zB,zC,zD,zE,zF]
 refine tk (i:=4) (v:=?_) rfl ?_
 simp only[Act.put,zA,zB,zC,zD,zE,zF]
 refine tk (i:=5) (v:=?_) rfl ?_
 simp only[Act.put,zA,zB,zC,zD,zE,zF]
 refine tk (i:=6) (v:=?_) rfl ?_
 simp only[Act.put,zA,zB,zC,zD,zE,zF]
 refine tk (i:=7) (v:=?_) rfl ?_
 simp only[Act.put,zA,zB,zC,zD,zE,zF]
 refine tk (i:=8) (v:=?_) rfl ?_
 simp only[Act.put,zA,zB,zC,zD,zE,zF]
 refine tk (i:=10) (v:=?_) rfl ?_
 simp only[Act.put,zA,zB,zC,zD,zE,zF]
 refine tk (i:=11) (v:=?_) rfl ?_
 simp only[Act.put,zA,zB,zC,zD,zE,zF]
 refine tk (i:=12) (v:=?_) rfl ?_
 simp only[Act.put,zA,zB,zC,zD,zE,zF]
 refine tk (i:=13) (v:=?_) rfl ?_
 simp only[Act.put,zA,zB,zC,zD,zE,zF]
 refine tk (i:=14) (v:=?_) rfl ?_
 simp only[Act.put,zA,zB,zC,zD,zE,zF]
 refine wpAnyH_ready (rs:=[9]) (by kernel_rfl) (by simp) ?_
 refine AllReadyH.cons rfl (fun K hK9=>?_) AllReadyH.nil
 go_simp
 go_wp2_with fail
 refine(KM.out _ (hK.trans kr0)).mono ?_
 rintro e x1 ⟨⟨vs,rfl,hs⟩,qq⟩
 have kr1:=kr0.trans qq
 refine hK9.out _ _ ⟨hK.trans kr1,HS.out _ kr1⟩ (fun hHeld1=>?_)
 clear hK9 K
 refine wpAnyH_ready (rs:=[15]) (by kernel_rfl) (by simp) ?_
 refine AllReadyH.cons rfl (fun K hK9=>?_) AllReadyH.nil
 go_simp
 go_wp2_with fail
 refine(KN.out _ _ hs kr0 kr1).mono ?_
 rintro e x2 ⟨⟨v,rfl,hN⟩,qq2⟩
 obtain⟨vn,va,vl,vc,vx,rfl⟩:=hN.shape5
 have kr2:=kr1.trans qq2
 refine hK9.out _ _ ⟨hK.trans kr2,HS.out _ kr2⟩ (fun hHeld2=>?_)
 clear hK9 K
 have hc:=HC.out
 obtain⟨f0,f1,f2,f3⟩:=res_cells (w.heap.size+1+1) (by omega) kr2 hc.1 hc.2.1 hc.2.2.1 hc.2.2.2
 have kF:=(hK.trans kr2).setCell (p:=⟨w.heap.size+1+1,0,none⟩) (by show w.heap.size≤w.heap.size+1+1;omega) (.bool vn)|>.setCell (p:=⟨w.heap.size+1+1,1,none⟩) (by show w.heap.size≤w.heap.size+1+1;omega) (.slice va vl vc)|>.setCell (p:=⟨w.heap.size+1+1,2,none⟩) (by show w.heap.size≤w.heap.size+1+1;omega) (.int .i64 vx)
 refine wpAnyH_ready (rs:=[16]) (by kernel_rfl) (by simp) ?_
 refine AllReadyH.cons rfl (fun K hK9=>?_) AllReadyH.nil
 go_simp
 refine hK9.out _ _ ⟨kF,by have q:=HS.out _ kr2;obtain⟨⟨⟨q0,q1⟩,q2⟩,⟨q3,q4⟩,q5⟩:=q;refine⟨⟨⟨?_,?_⟩,?_⟩,⟨?_,?_⟩,?_⟩<;>simp[go_sem,q0,q1,q2,q3,q4,q5]⟩ (fun hHeld9=>?_)
 clear hK9 K
 refine wpAnyH_done (by kernel_rfl) ?_ _
 clear hHeld0 hHeld1 hHeld2 hHeld9
 have hd:=hN.done (w.heap.size+1+1) (fun b hb=>by simp[Fresh]at hb;omega) (.bool vn) (.slice va vl vc) (.int .i64 vx)
 go_wp2
 refine bodyPost_ret (v:=.agg #[.bool vn,.slice va vl vc,.int .i64 vx]) (by simp[results,Tryz.results47,go_sem,f0,f1,f2]) rfl ⟨⟨_,rfl,hd.imp (fun b hb=>Or.inr (by simp[Fresh]at hb;omega))⟩,kF⟩
theorem w2Plus (P:Nat→Prop)(w:World)(n1 n2:Bool)(a1 a2:Option Addr)(l1 c1 l2 c2:Nat)(x1 x2:Int)(r:Nm)(KP:Hid (∀u,Kept w u→Calls Tryz.prog 50 #[.agg #[.bool n1,.slice a1 l1 c1,.int .i64 x1],.agg #[.bool n2,.slice a2 l2 c2,.int .i64 x2]] u fun e w'=>(∃v,e=.returned v∧RNp (fun c=>(P c∧c<w.heap.size)∨u.heap.size≤c) w' v r)∧Kept u w')):Calls Tryz.prog 35 #[.agg #[.bool n1,.slice a1 l1 c1,.int .i64 x1],.agg #[.bool n2,.slice a2 l2 c2,.int .i64 x2]] w fun e w'=>(∃v,e=.returned v∧RNp (fun c=>P c∨w.heap.size≤c) w' v r)∧Kept w w':=by
 obtain⟨W,hW⟩:∃W,W=(((w.alloc (.cells #[.bool n1,.slice a1 l1 c1,.int .i64 x1] 43)).alloc (.cells #[.bool n2,.slice a2 l2 c2,.int .i64 x2] 43)).alloc nilNum):=⟨_,rfl⟩
 have hK:Kept w W:=by rw[hW];exact(((Kept.refl w).alloc _ _).alloc _ _).alloc _ _
 have hWs:W.heap.size=w.heap.size+3:=by rw[hW];simp
 have HS:Hid (∀u,Kept W u→((u.cell? ⟨w.heap.size,0,none⟩=some (.bool n1)∧u.cell? ⟨w.heap.size,1,none⟩=some (.slice a1 l1 c1))∧u.cell? ⟨w.heap.size,2,none⟩=some (.int .i64 x1))∧(u.cell? ⟨w.heap.size+1,0,none⟩=some (.bool n2)∧u.cell? ⟨w.heap.size+1,1,none⟩=some (.slice a2 l2 c2))∧u.cell? ⟨w.heap.size+1,2,none⟩=some (.int .i64 x2)):=fun u k=>⟨⟨⟨((k.below.cell (p:=⟨w.heap.size,0,none⟩) (by show w.heap.size<W.heap.size;omega)).trans (by rw[hW];simp[go_sem])),((k.below.cell (p:=⟨w.heap.size,1,none⟩) (by show w.heap.size<W.heap.size;omega)).trans (by rw[hW];simp[go_sem]))⟩,((k.below.cell (p:=⟨w.heap.size,2,none⟩) (by show w.heap.size<W.heap.size;omega)).trans (by rw[hW];simp[go_sem]))⟩,⟨((k.below.cell (p:=⟨w.heap.size+1,0,none⟩) (by show w.heap.size+1<W.heap.size;omega)).trans (by rw[hW];simp[go_sem])),((k.below.cell (p:=⟨w.heap.size+1,1,none⟩) (by show w.heap.size+1<W.heap.size;omega)).trans (by rw[hW];simp[go_sem]))⟩,((k.below.cell (p:=⟨w.heap.size+1,2,none⟩) (by show w.heap.size+1<W.heap.size;omega)).trans (by rw[hW];simp[go_sem]))⟩
 have HC:Hid (W.cell? ⟨w.heap.size+1+1,0,none⟩=some (.bool false)∧W.cell? ⟨w.heap.size+1+1,1,none⟩=some (.slice none 0 0)∧W.cell? ⟨w.heap.size+1+1,2,none⟩=some (.int .i64 0)∧∀o,W.frozen? ⟨w.heap.size+1+1,o,none⟩=false):=by rw[hW];exact⟨by simp[go_sem],by simp[go_sem],by simp[go_sem],fun o=>by simp[go_sem]⟩
 go_enter Tryz.func35,Tryz.ntmps35
 go_upto_region 1 with fail
 rw[←hW]
 clear hW
 have e0:=HS.out _ (Kept.refl W)
 go_wp2_with fail
 refine(KP.out _ hK).mono ?_
 rintro e x2 ⟨⟨v,rfl,hN⟩,kr2⟩
 obtain⟨vn,va,vl,vc,vx,rfl⟩:=hN.shape5
 have hc:=HC.out
 obtain⟨f0,f1,f2,f3⟩:=res_cells (w.heap.size+1+1) (by omega) kr2 hc.1 hc.2.1 hc.2.2.1 hc.2.2.2
 have kF:=(hK.trans kr2).setCell (p:=⟨w.heap.size+1+1,0,none⟩) (by show w.heap.size≤w.heap.size+1+1;omega) (.bool vn)|>.setCell (p:=⟨w.heap.size+1+1,1,none⟩) (by show w.heap.size≤w.heap.size+1+1;omega) (.slice va vl vc)|>.setCell (p:=⟨w.heap.size+1+1,2,none⟩) (by show w.heap.size≤w.heap.size+1+1;omega) (.int .i64 vx)
 have hd:=(hN.imp (Q:=fun c=>(P c∧c<w.heap.size)∨W.heap.size≤c) (fun b hb=>hb.imp id (fun h=>h))).done (w.heap.size+1+1) (fun b hb=>by rcases hb with h|h<;>omega) (.bool vn) (.slice va vl vc) (.int .i64 vx)
 go_wp2
 refine bodyPost_ret (v:=.agg #[.bool vn,.slice va vl vc,.int .i64 vx]) (by simp[results,Tryz.results35,go_sem,f0,f1,f2]) rfl ⟨⟨_,rfl,hd.imp (fun b hb=>by rcases hb with h|h;exact Or.inl h.1;exact Or.inr (by omega))⟩,kF⟩
theorem w2Minus (P:Nat→Prop)(w:World)(n1 n2:Bool)(a1 a2:Option Addr)(l1 c1 l2 c2:Nat)(x1 x2:Int)(r:Nm)(KP:Hid (∀u,Kept w u→Calls Tryz.prog 59 #[.agg #[.bool n1,.slice a1 l1 c1,.int .i64 x1],.agg #[.bool n2,.slice a2 l2 c2,.int .i64 x2]] u fun e w'=>(∃v,e=.returned v∧RNp (fun c=>(P c∧c<w.heap.size)∨u.heap.size≤c) w' v r)∧Kept u w')):Calls Tryz.prog 36 #[.agg #[.bool n1,.slice a1 l1 c1,.int .i64 x1],.agg #[.bool n2,.slice a2 l2 c2,.int .i64 x2]] w fun e w'=>(∃v,e=.returned v∧RNp (fun c=>P c∨w.heap.size≤c) w' v r)∧Kept w w':=by
 obtain⟨W,hW⟩:∃W,W=(((w.alloc (.cells #[.bool n1,.slice a1 l1 c1,.int .i64 x1] 43)).alloc (.cells #[.bool n2,.slice a2 l2 c2,.int .i64 x2] 43)).alloc nilNum):=⟨_,rfl⟩
 have hK:Kept w W:=by rw[hW];exact(((Kept.refl w).alloc _ _).alloc _ _).alloc _ _
 have hWs:W.heap.size=w.heap.size+3:=by rw[hW];simp
 have HS:Hid (∀u,Kept W u→((u.cell? ⟨w.heap.size,0,none⟩=some (.bool n1)∧u.cell? ⟨w.heap.size,1,none⟩=some (.slice a1 l1 c1))∧u.cell? ⟨w.heap.size,2,none⟩=some (.int .i64 x1))∧(u.cell? ⟨w.heap.size+1,0,none⟩=some (.bool n2)∧u.cell? ⟨w.heap.size+1,1,none⟩=some (.slice a2 l2 c2))∧u.cell? ⟨w.heap.size+1,2,none⟩=some (.int .i64 x2)):=fun u k=>⟨⟨⟨((k.below.cell (p:=⟨w.heap.size,0,none⟩) (by show w.heap.size<W.heap.size;omega)).trans (by rw[hW];simp[go_sem])),((k.below.cell (p:=⟨w.heap.size,1,none⟩) (by show w.heap.size<W.heap.size;omega)).trans (by rw[hW];simp[go_sem]))⟩,((k.below.cell (p:=⟨w.heap.size,2,none⟩) (by show w.heap.size<W.heap.size;omega)).trans (by rw[hW];simp[go_sem]))⟩,⟨((k.below.cell (p:=⟨w.heap.size+1,0,none⟩) (by show w.heap.size+1<W.heap.size;omega)).trans (by rw[hW];simp[go_sem])),((k.below.cell (p:=⟨w.heap.size+1,1,none⟩) (by show w.heap.size+1<W.heap.size;omega)).trans (by rw[hW];simp[go_sem]))⟩,((k.below.cell (p:=⟨w.heap.size+1,2,none⟩) (by show w.heap.size+1<W.heap.size;omega)).trans (by rw[hW];simp[go_sem]))⟩
 have HC:Hid (W.cell? ⟨w.heap.size+1+1,0,none⟩=some (.bool false)∧W.cell? ⟨w.heap.size+1+1,1,none⟩=some (.slice none 0 0)∧W.cell? ⟨w.heap.size+1+1,2,none⟩=some (.int .i64 0)∧∀o,W.frozen? ⟨w.heap.size+1+1,o,none⟩=false):=by rw[hW];exact⟨by simp[go_sem],by simp[go_sem],by simp[go_sem],fun o=>by simp[go_sem]⟩
 go_enter Tryz.func36,Tryz.ntmps36
 go_upto_region 1 with fail
 rw[←hW]
 clear hW
 have e0:=HS.out _ (Kept.refl W)
 go_wp2_with fail
 refine(KP.out _ hK).mono ?_
 rintro e x2 ⟨⟨v,rfl,hN⟩,kr2⟩
 obtain⟨vn,va,vl,vc,vx,rfl⟩:=hN.shape5
 have hc:=HC.out
 obtain⟨f0,f1,f2,f3⟩:=res_cells (w.heap.size+1+1) (by omega) kr2 hc.1 hc.2.1 hc.2.2.1 hc.2.2.2
 have kF:=(hK.trans kr2).setCell (p:=⟨w.heap.size+1+1,0,none⟩) (by show w.heap.size≤w.heap.size+1+1;omega) (.bool vn)|>.setCell (p:=⟨w.heap.size+1+1,1,none⟩) (by show w.heap.size≤w.heap.size+1+1;omega) (.slice va vl vc)|>.setCell (p:=⟨w.heap.size+1+1,2,none⟩) (by show w.heap.size≤w.heap.size+1+1;omega) (.int .i64 vx)
 have hd:=(hN.imp (Q:=fun c=>(P c∧c<w.heap.size)∨W.heap.size≤c) (fun b hb=>hb.imp id (fun h=>h))).done (w.heap.size+1+1) (fun b hb=>by rcases hb with h|h<;>omega) (.bool vn) (.slice va vl vc) (.int .i64 vx)
 go_wp2
 refine bodyPost_ret (v:=.agg #[.bool vn,.slice va vl vc,.int .i64 vx]) (by simp[results,Tryz.results36,go_sem,f0,f1,f2]) rfl ⟨⟨_,rfl,hd.imp (fun b hb=>by rcases hb with h|h;exact Or.inl h.1;exact Or.inr (by omega))⟩,kF⟩
theorem w2Times (P:Nat→Prop)(w:World)(n1 n2:Bool)(a1 a2:Option Addr)(l1 c1 l2 c2:Nat)(x1 x2:Int)(r:Nm)(KP:Hid (∀u,Kept w u→Calls Tryz.prog 47 #[.agg #[.bool n1,.slice a1 l1 c1,.int .i64 x1],.agg #[.bool n2,.slice a2 l2 c2,.int .i64 x2]] u fun e w'=>(∃v,e=.returned v∧RNp (fun c=>(P c∧c<w.heap.size)∨u.heap.size≤c) w' v r)∧Kept u w')):Calls Tryz.prog 28 #[.agg #[.bool n1,.slice a1 l1 c1,.int .i64 x1],.agg #[.bool n2,.slice a2 l2 c2,.int .i64 x2]] w fun e w'=>(∃v,e=.returned v∧RNp (fun c=>P c∨w.heap.size≤c) w' v r)∧Kept w w':=by
 obtain⟨W,hW⟩:∃W,W=(((w.alloc (.cells #[.bool n1,.slice a1 l1 c1,.int .i64 x1] 43)).alloc (.cells #[.bool n2,.slice a2 l2 c2,.int .i64 x2] 43)).alloc nilNum):=⟨_,rfl⟩
 have hK:Kept w W:=by rw[hW];exact(((Kept.refl w).alloc _ _).alloc _ _).alloc _ _
 have hWs:W.heap.size=w.heap.size+3:=by rw[hW];simp
 have HS:Hid (∀u,Kept W u→((u.cell? ⟨w.heap.size,0,none⟩=some (.bool n1)∧u.cell? ⟨w.heap.size,1,none⟩=some (.slice a1 l1 c1))∧u.cell? ⟨w.heap.size,2,none⟩=some (.int .i64 x1))∧(u.cell? ⟨w.heap.size+1,0,none⟩=some (.bool n2)∧u.cell? ⟨w.heap.size+1,1,none⟩=some (.slice a2 l2 c2))∧u.cell? ⟨w.heap.size+1,2,none⟩=some (.int .i64 x2)):=fun u k=>⟨⟨⟨((k.below.cell (p:=⟨w.heap.size,0,none⟩) (by show w.heap.size<W.heap.size;omega)).trans (by rw[hW];simp[go_sem])),((k.below.cell (p:=⟨w.heap.size,1,none⟩) (by show w.heap.size<W.heap.size;omega)).trans (by rw[hW];simp[go_sem]))⟩,((k.below.cell (p:=⟨w.heap.size,2,none⟩) (by show w.heap.size<W.heap.size;omega)).trans (by rw[hW];simp[go_sem]))⟩,⟨((k.below.cell (p:=⟨w.heap.size+1,0,none⟩) (by show w.heap.size+1<W.heap.size;omega)).trans (by rw[hW];simp[go_sem])),((k.below.cell (p:=⟨w.heap.size+1,1,none⟩) (by show w.heap.size+1<W.heap.size;omega)).trans (by rw[hW];simp[go_sem]))⟩,((k.below.cell (p:=⟨w.heap.size+1,2,none⟩) (by show w.heap.size+1<W.heap.size;omega)).trans (by rw[hW];simp[go_sem]))⟩
 have HC:Hid (W.cell? ⟨w.heap.size+1+1,0,none⟩=some (.bool false)∧W.cell? ⟨w.heap.size+1+1,1,none⟩=some (.slice none 0 0)∧W.cell? ⟨w.heap.size+1+1,2,none⟩=some (.int .i64 0)∧∀o,W.frozen? ⟨w.heap.size+1+1,o,none⟩=false):=by rw[hW];exact⟨by simp[go_sem],by simp[go_sem],by simp[go_sem],fun o=>by simp[go_sem]⟩
 go_enter Tryz.func28,Tryz.ntmps28
 go_upto_region 1 with fail
 rw[←hW]
 clear hW
 have e0:=HS.out _ (Kept.refl W)
 go_wp2_with fail
 refine(KP.out _ hK).mono ?_
 rintro e x2 ⟨⟨v,rfl,hN⟩,kr2⟩
 obtain⟨vn,va,vl,vc,vx,rfl⟩:=hN.shape5
 have hc:=HC.out
 obtain⟨f0,f1,f2,f3⟩:=res_cells (w.heap.size+1+1) (by omega) kr2 hc.1 hc.2.1 hc.2.2.1 hc.2.2.2
 have kF:=(hK.trans kr2).setCell (p:=⟨w.heap.size+1+1,0,none⟩) (by show w.heap.size≤w.heap.size+1+1;omega) (.bool vn)|>.setCell (p:=⟨w.heap.size+1+1,1,none⟩) (by show w.heap.size≤w.heap.size+1+1;omega) (.slice va vl vc)|>.setCell (p:=⟨w.heap.size+1+1,2,none⟩) (by show w.heap.size≤w.heap.size+1+1;omega) (.int .i64 vx)
 have hd:=(hN.imp (Q:=fun c=>(P c∧c<w.heap.size)∨W.heap.size≤c) (fun b hb=>hb.imp id (fun h=>h))).done (w.heap.size+1+1) (fun b hb=>by rcases hb with h|h<;>omega) (.bool vn) (.slice va vl vc) (.int .i64 vx)
 go_wp2
 refine bodyPost_ret (v:=.agg #[.bool vn,.slice va vl vc,.int .i64 vx]) (by simp[results,Tryz.results28,go_sem,f0,f1,f2]) rfl ⟨⟨_,rfl,hd.imp (fun b hb=>by rcases hb with h|h;exact Or.inl h.1;exact Or.inr (by omega))⟩,kF⟩
end Go.Proofs.YtnniljhdcplkgaaGreatDoor
namespace Go.Proofs.YtnniljhdcplkgaaGreatDoor
open Go.ChangeShapes Go.WideShapes Go.ChangeAt Go.RowKit
set_option maxHeartbeats 16000000
set_option maxRecDepth 100000
set_option linter.unusedVariables false
set_option linter.unusedSimpArgs false
theorem vld_cn (a:Nm)(h:vld a=true):Cn a.mag∧a.mag.length≤2000∧-1048576≤a.exp∧a.exp≤1048576:=by
 obtain⟨n,L,x⟩:=a
 by_cases e:L=[]
 ·subst e
  obtain⟨-,rfl⟩:=vld_nil _ _ h
  exact⟨⟨Dg.nil,fun h=>absurd rfl h⟩,by simp,by dsimp only;omega,by dsimp only;omega⟩
 ·obtain⟨p1,p2,p3,p4,p5,p6⟩:=vld_some n L x e h
  exact⟨⟨p2,fun _=>p3⟩,p1,p5,p6⟩
theorem trn_ne (b:Nm)(h:b.mag≠[]):trn b=ng b:=by
 have:¬b.mag.length=0:=fun e=>h (List.length_eq_zero_iff.1 e)
 simp[trn,ng,this]
theorem trn_nil (b:Nm)(h:b.mag=[]):trn b=b:=by
 obtain⟨n,L,x⟩:=b
 dsimp only at h
 subst h
 rfl
theorem trn_vld (b:Nm)(h:vld b=true):vld (trn b)=true:=by
 by_cases e:b.mag=[]
 ·rw[trn_nil b e];exact h
 ·rw[trn_ne b e];exact vld_ng b.neg b.mag b.exp h e
theorem bl_ge_mul (a b:Nat)(ha:a≠0)(hb:b≠0):bl a+bl b-1≤bl (a*b):=by
 have h1:=bl_pos a ha
 have h2:=bl_pos b hb
 have h3:2^(bl a-1)*2^(bl b-1)≤a*b:=Nat.mul_le_mul h1.1 h2.1
 rw[←Nat.pow_add]at h3
 have:=le_bl _ _ h3
 omega
theorem mul_ans (a b:Nm)(ha:vld a=true)(hb:vld b=true):mulN a b=if vld (tms a b)=true then some (tms a b)else none:=by
 obtain⟨n1,L1,x1⟩:=a
 obtain⟨n2,L2,x2⟩:=b
 have q1:=vld_cn _ ha
 have q2:=vld_cn _ hb
 unfold mulN tms
 dsimp only at *
 have b1:bl (nv L1)≤60000:=Nat.le_trans (bl_le _ _ (nv_lt L1 q1.1.1)) (by omega)
 have b2:bl (nv L2)≤60000:=Nat.le_trans (bl_le _ _ (nv_lt L2 q2.1.1)) (by omega)
 rw[←frm_nrm]
 by_cases hfit:(bl (nv L1):Int)+(bl (nv L2):Int)-1≤60000∧-1048576≤x1+x2∧x1+x2≤1048576
 ·rw[if_pos hfit]
 ·rw[if_neg hfit]
  by_cases e1:L1=[]
  ·subst e1
   obtain⟨-,rfl⟩:=vld_nil _ _ ha
   exfalso
   apply hfit
   refine⟨?_,by omega,by omega⟩
   have:bl (nv [])=0:=by simp[nv,bl]
   rw[this]
   omega
  by_cases e2:L2=[]
  ·subst e2
   obtain⟨-,rfl⟩:=vld_nil _ _ hb
   exfalso
   apply hfit
   refine⟨?_,by omega,by omega⟩
   have:bl (nv [])=0:=by simp[nv,bl]
   rw[this]
   omega
  obtain⟨p1,p2,p3,p4,p5,p6⟩:=vld_some n1 L1 x1 e1 ha
  obtain⟨r1,r2,r3,r4,r5,r6⟩:=vld_some n2 L2 x2 e2 hb
  have o1:=nv_odd L1 p2 p4
  have o2:=nv_odd L2 r2 r4
  have o3:nv L1*nv L2%2=1:=by rw[Nat.mul_mod,o1,o2]
  have hz:=tzn_odd _ o3
  have hge:=bl_ge_mul (nv L1) (nv L2) (by omega) (by omega)
  unfold frm
  rw[if_neg (by omega),hz,if_neg]
  rintro⟨g1,g2,g3⟩
  apply hfit
  simp only[Int.natCast_zero,Int.add_zero]at g2 g3
  have hw:wrap64 (x1+x2)=x1+x2:=by unfold wrap64;omega
  rw[hw]at g2 g3
  exact⟨by omega,g2,g3⟩
theorem far_none (n1 n2:Bool)(L1 L2:List Int)(x1 x2:Int)(h1:L1≠[])(h2:L2≠[])(hv1:vld ⟨n1,L1,x1⟩=true)(hv2:vld ⟨n2,L2,x2⟩=true)(hlt:x1<x2)(hfar:60001<x2+(bl (nv L2):Int)-x1)(neg:Bool)(T:Int)(hT:T=sg n1 ((nv L1:Nat):Int)+sg n2 ((nv L2*2^(x2-x1).toNat:Nat):Int)):frm neg T.natAbs x1=none:=by
 obtain⟨p1,p2,p3,p4,p5,p6⟩:=vld_some n1 L1 x1 h1 hv1
 obtain⟨r1,r2,r3,r4,r5,r6⟩:=vld_some n2 L2 x2 h2 hv2
 have o1:=nv_odd L1 p2 p4
 have v2:=nv_pos_of n2 L2 x2 h2 hv2
 obtain⟨k,hk⟩:∃k,(x2-x1).toNat=k:=⟨_,rfl⟩
 rw[hk]at hT
 have hk1:0<k:=by omega
 obtain⟨N,hN⟩:∃N:Nat,N=60000:=⟨_,rfl⟩
 have lt1:nv L1<2^N:=Nat.lt_of_lt_of_le (nv_lt L1 p2) (Nat.pow_le_pow_right (by decide) (by omega))
 have hb:=bl_mul (nv L2) k (by omega)
 have hge:2^(N+1)≤nv L2*2^k:=by
  have:=(bl_pos (nv L2*2^k) (by have:=Nat.mul_pos v2 (Nat.two_pow_pos k);omega)).1
  refine Nat.le_trans (Nat.pow_le_pow_right (by decide) ?_) this
  rw[hb]
  omega
 have hev:nv L2*2^k%2=0:=by
  obtain⟨j,rfl⟩:∃j,k=j+1:=⟨k-1,by omega⟩
  rw[Nat.pow_succ,←Nat.mul_assoc]
  omega
 generalize nv L2*2^k=Y at *
 rw[Nat.pow_succ]at hge
 have habs:2^N≤T.natAbs:=by
  rw[hT]
  cases n1<;>cases n2<;>simp only[sg,Bool.false_eq_true,if_false,if_true]<;>omega
 have hodd:T.natAbs%2=1:=by
  rw[hT]
  cases n1<;>cases n2<;>simp only[sg,Bool.false_eq_true,if_false,if_true]<;>omega
 have hz:=tzn_odd _ hodd
 have hbl:=le_bl _ _ habs
 unfold frm
 rw[if_neg (by omega),hz,if_neg]
 rintro⟨g1,-,-⟩
 omega
theorem add_ans (a b:Nm)(ha:vld a=true)(hb:vld b=true):addZ a b=if vld (pls a b)=true then some (pls a b)else none:=by
 obtain⟨n1,L1,x1⟩:=a
 obtain⟨n2,L2,x2⟩:=b
 unfold addZ pls
 dsimp only
 by_cases e1:L1=[]
 ·rw[if_pos e1,if_pos e1,if_pos hb]
  by_cases e2:L2=[]
  ·subst e2
   obtain⟨rfl,rfl⟩:=vld_nil _ _ hb
   rw[if_pos rfl]
  ·rw[if_neg e2]
 ·rw [if_neg e1,if_neg e1]
  by_cases e2:L2=[]
  ·rw[if_pos e2,if_pos e2,if_pos ha]
  ·rw[if_neg e2,if_neg e2,←frm_nrm]
   unfold addN
   dsimp only
   by_cases hr:max (tp ⟨n1,L1,x1⟩) (tp ⟨n2,L2,x2⟩)-min x1 x2≤60001
   ·rw[if_pos hr]
   ·rw[if_neg hr]
    have q1:=vld_cn _ ha
    have q2:=vld_cn _ hb
    have b1:bl (nv L1)≤60000:=Nat.le_trans (bl_le _ _ (nv_lt L1 q1.1.1)) (by have:=q1.2.1;dsimp only at this;omega)
    have b2:bl (nv L2)≤60000:=Nat.le_trans (bl_le _ _ (nv_lt L2 q2.1.1)) (by have:=q2.2.1;dsimp only at this;omega)
    unfold tp at hr
    dsimp only at hr
    rcases Int.lt_trichotomy x1 x2 with h|h|h
    ·have hm:min x1 x2=x1:=by omega
     rw[hm]at hr ⊢
     refine(far_none n1 n2 L1 L2 x1 x2 e1 e2 ha hb h (by omega) _ _ ?_).symm
     rw[tot_nat n1 n2 L1 L2 x1 x2 x1 0 (x2-x1).toNat (by omega) rfl,Nat.pow_zero,Nat.mul_one]
    ·exfalso
     omega
    ·have hm:min x1 x2=x2:=by omega
     rw[hm]at hr ⊢
     refine(far_none n2 n1 L2 L1 x2 x1 e2 e1 hb ha h (by omega) _ _ ?_).symm
     rw[tot_nat n1 n2 L1 L2 x1 x2 x2 (x1-x2).toNat 0 rfl (by omega),Nat.pow_zero,Nat.mul_one,Int.add_comm]
theorem sub_ans (a b:Nm)(ha:vld a=true)(hb:vld b=true):addZ a (ng b)=if vld (pls a (trn b))=true then some (pls a (trn b))else none:=by
 by_cases e:b.mag=[]
 ·rw[trn_nil b e,←add_ans a b ha hb]
  unfold addZ ng
  dsimp only
  rw[if_pos e,if_pos e,if_pos e,if_pos e]
 ·rw[←trn_ne b e]
  exact add_ans a (trn b) ha (trn_vld b hb)
abbrev PL (P:Nat→Prop)(w:World):Nat→Prop:=fun c=>P c∨w.heap.size≤c
theorem trn_rnp {P:Nat→Prop}{w:World}{n:Bool}{ao:Option Addr}{c:Nat}{L:List Int}{x:Int}(h:RNp P w (.agg #[.bool n,.slice ao L.length c,.int .i64 x]) ⟨n,L,x⟩):RNp P w (.agg #[.bool (if L.length=0 then n else !n),.slice ao L.length c,.int .i64 x]) (trn ⟨n,L,x⟩):=by
 obtain⟨s,e,hs⟩:=h
 cases e
 exact⟨_,rfl,hs⟩
theorem minus_any (P:Nat→Prop)(w:World)(a b:Nm)(va vb:Value)(ha:RNp P w va a)(hb:RNp P w vb b)(ca:vld a=true)(cb:vld b=true):
  Calls Tryz.prog 59 #[va,vb] w fun e w'=>(∃v,e=.returned v∧RNp (PL P w) w' v (pls a (trn b)))∧Kept w w':=by
 have qa:=vld_cn a ca
 have qb:=vld_cn _ (trn_vld b cb)
 obtain⟨n1,L1,x1⟩:=a
 obtain⟨n2,L2,x2⟩:=b
 obtain⟨a1,c1,rfl,-⟩:=ha.shape
 obtain⟨a2,c2,rfl,-⟩:=hb.shape
 refine minus_walk P w n1 n2 a1 a2 L1.length c1 L2.length c2 x1 x2 _ (if L2.length=0 then n2 else !n2) (fun u k=>turned_any n2 a2 L2.length c2 x2 u) (fun u k=>?_)
 exact plus_any _ u ⟨n1,L1,x1⟩ (trn ⟨n2,L2,x2⟩) _ _ (ha.here.kept k) (trn_rnp (hb.here.kept k)) qa.1 qb.1 (by have:=qa.2.1;omega) (by have:=qb.2.1;omega) (by have:=qa.2.2;omega) (by have:=qb.2.2;omega)
theorem plus2_any (P:Nat→Prop)(w:World)(a b:Nm)(va vb:Value)(ha:RNp P w va a)(hb:RNp P w vb b)(ca:vld a=true)(cb:vld b=true):
  Calls Tryz.prog 35 #[va,vb] w fun e w'=>(∃v,e=.returned v∧RNp (PL P w) w' v (pls a b))∧Kept w w':=by
 have qa:=vld_cn a ca
 have qb:=vld_cn b cb
 obtain⟨n1,L1,x1⟩:=a
 obtain⟨n2,L2,x2⟩:=b
 obtain⟨a1,c1,rfl,-⟩:=ha.shape
 obtain⟨a2,c2,rfl,-⟩:=hb.shape
 exact w2Plus P w n1 n2 a1 a2 L1.length c1 L2.length c2 x1 x2 _ (fun u k=>plus_any _ u ⟨n1,L1,x1⟩ ⟨n2,L2,x2⟩ _ _ (ha.here.kept k) (hb.here.kept k) qa.1 qb.1 (by have:=qa.2.1;omega) (by have:=qb.2.1;omega) (by have:=qa.2.2;omega) (by have:=qb.2.2;omega))
theorem minus2_any (P:Nat→Prop)(w:World)(a b:Nm)(va vb:Value)(ha:RNp P w va a)(hb:RNp P w vb b)(ca:vld a=true)(cb:vld b=true):
  Calls Tryz.prog 36 #[va,vb] w fun e w'=>(∃v,e=.returned v∧RNp (PL P w) w' v (pls a (trn b)))∧Kept w w':=by
 obtain⟨n1,L1,x1⟩:=a
 obtain⟨n2,L2,x2⟩:=b
 obtain⟨a1,c1,rfl,-⟩:=ha.shape
 obtain⟨a2,c2,rfl,-⟩:=hb.shape
 exact w2Minus P w n1 n2 a1 a2 L1.length c1 L2.length c2 x1 x2 _ (fun u k=>minus_any _ u ⟨n1,L1,x1⟩ ⟨n2,L2,x2⟩ _ _ (ha.here.kept k) (hb.here.kept k) ca cb)
theorem rtimes0_any (P:Nat→Prop)(w:World)(a b:Nm)(va vb:Value)(ha:RNp P w va a)(hb:RNp P w vb b)(ca:vld a=true)(cb:vld b=true):
  Calls Tryz.prog 47 #[va,vb] w fun e w'=>(∃v,e=.returned v∧RNp (PL P w) w' v (tms a b))∧Kept w w':=by
 have qa:=vld_cn a ca
 have qb:=vld_cn b cb
 obtain⟨n1,L1,x1⟩:=a
 obtain⟨n2,L2,x2⟩:=b
 obtain⟨a1,c1,rfl,hra⟩:=ha.shape
 obtain⟨a2,c2,rfl,hrb⟩:=hb.shape
 dsimp only at *
 have d1:=cn_digs qa.1
 have d2:=cn_digs qb.1
 refine rtimes0_walk P w n1 n2 a1 a2 L1.length c1 L2.length c2 x1 x2 _ (nv L1*nv L2) (x1+x2) (by rw[wrap_i64];omega) (fun u k=>?_) ?_ rfl
 ·have:=natMul_any u (nv L1) (nv L2) (.slice a1 L1.length c1) (.slice a2 L2.length c2) (by rw[d1];exact hra.rl.kept k) (by rw[d2];exact hrb.rl.kept k) (by rw[d1];omega) (by rw[d2];omega)
  exact this
 ·obtain⟨N,hN⟩:∃N:Nat,N=4000:=⟨_,rfl⟩
  have h1:=nv_lt L1 qa.1.1
  have h2:=nv_lt L2 qb.1.1
  have h3:nv L1*nv L2<2^(30*N):=by
   have:=Nat.mul_lt_mul'' h1 h2
   rw[←Nat.pow_add]at this
   exact Nat.lt_of_lt_of_le this (Nat.pow_le_pow_right (by decide) (by omega))
  have:=digs_length_le _ _ h3
  omega
theorem times2_any (P:Nat→Prop)(w:World)(a b:Nm)(va vb:Value)(ha:RNp P w va a)(hb:RNp P w vb b)(ca:vld a=true)(cb:vld b=true):
  Calls Tryz.prog 28 #[va,vb] w fun e w'=>(∃v,e=.returned v∧RNp (PL P w) w' v (tms a b))∧Kept w w':=by
 obtain⟨n1,L1,x1⟩:=a
 obtain⟨n2,L2,x2⟩:=b
 obtain⟨a1,c1,rfl,-⟩:=ha.shape
 obtain⟨a2,c2,rfl,-⟩:=hb.shape
 exact w2Times P w n1 n2 a1 a2 L1.length c1 L2.length c2 x1 x2 _ (fun u k=>rtimes0_any _ u ⟨n1,L1,x1⟩ ⟨n2,L2,x2⟩ _ _ (ha.here.kept k) (hb.here.kept k) ca cb)
end Go.Proofs.YtnniljhdcplkgaaGreatDoor
