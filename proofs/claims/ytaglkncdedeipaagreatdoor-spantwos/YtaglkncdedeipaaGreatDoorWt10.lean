/-  -/
import Derived.Test.YtaglkncdedeipaaGreatDoorWt08
import Derived.Test.YtaglkncdedeipaaGreatDoorWt09
import Derived.Test.YtaglkncdedeipaaGreatDoorWt01
namespace Go.Proofs.YtaglkncdedeipaaGreatDoor
open Go.ChangeShapes Go.WideShapes Go.ChangeAt Go.RowKit
set_option linter.unusedVariables false
set_option linter.unusedSimpArgs false
set_option maxHeartbeats 16000000
set_option maxRecDepth 100000
def trn (b:Nm):Nm:=⟨if b.mag.length=0 then b.neg else !b.neg,b.mag,b.exp⟩
def tms (a b:Nm):Nm:=nrm (a.neg != b.neg) (nv a.mag*nv b.mag) (a.exp+b.exp)
theorem qb8 (P:Nat→Prop)(w:World)(n1 n2:Bool)(a1 a2:Option Addr)(l1 c1 l2 c2:Nat)(x1 x2:Int)(r:Nm)(m2:Bool)
  (KT:Hid (∀u,Kept w u→Calls Tryz.prog 96 #[.agg #[.bool n2,.slice a2 l2 c2,.int .i64 x2]] u fun e w'=>e=.returned (.agg #[.bool m2,.slice a2 l2 c2,.int .i64 x2])∧Kept u w'))
  (KP:Hid (∀u,Kept w u→Calls Tryz.prog 94 #[.agg #[.bool n1,.slice a1 l1 c1,.int .i64 x1],.agg #[.bool m2,.slice a2 l2 c2,.int .i64 x2]] u fun e w'=>(∃v,e=.returned v∧RNp (fun c=>(P c∧c<w.heap.size)∨u.heap.size≤c) w' v r)∧Kept u w')):
  Calls Tryz.prog 117 #[.agg #[.bool n1,.slice a1 l1 c1,.int .i64 x1],.agg #[.bool n2,.slice a2 l2 c2,.int .i64 x2]] w fun e w'=>(∃v,e=.returned v∧RNp (fun c=>P c∨w.heap.size≤c) w' v r)∧Kept w w':=by
 obtain⟨W,hW⟩:∃W,W=(((w.alloc (.cells #[.bool n1,.slice a1 l1 c1,.int .i64 x1] 31)).alloc (.cells #[.bool n2,.slice a2 l2 c2,.int .i64 x2] 31)).alloc jh):=⟨_,rfl⟩
 have hK:Kept w W:=by rw[hW];exact(((qo0 w).alloc _ _).alloc _ _).alloc _ _
 have hWs:W.heap.size=w.heap.size+3:=by rw[hW];simp
 have HS:Hid (∀u,Kept W u→((u.cell? ⟨w.heap.size,0,none⟩=some (.bool n1)∧u.cell? ⟨w.heap.size,1,none⟩=some (.slice a1 l1 c1))∧u.cell? ⟨w.heap.size,2,none⟩=some (.int .i64 x1))∧(u.cell? ⟨w.heap.size+1,0,none⟩=some (.bool n2)∧u.cell? ⟨w.heap.size+1,1,none⟩=some (.slice a2 l2 c2))∧u.cell? ⟨w.heap.size+1,2,none⟩=some (.int .i64 x2)):=fun u k=>⟨⟨⟨((k.below.cell (p:=⟨w.heap.size,0,none⟩) (by show w.heap.size<W.heap.size;omega)).trans (by rw[hW];simp[go_sem])),((k.below.cell (p:=⟨w.heap.size,1,none⟩) (by show w.heap.size<W.heap.size;omega)).trans (by rw[hW];simp[go_sem]))⟩,((k.below.cell (p:=⟨w.heap.size,2,none⟩) (by show w.heap.size<W.heap.size;omega)).trans (by rw[hW];simp[go_sem]))⟩,⟨((k.below.cell (p:=⟨w.heap.size+1,0,none⟩) (by show w.heap.size+1<W.heap.size;omega)).trans (by rw[hW];simp[go_sem])),((k.below.cell (p:=⟨w.heap.size+1,1,none⟩) (by show w.heap.size+1<W.heap.size;omega)).trans (by rw[hW];simp[go_sem]))⟩,((k.below.cell (p:=⟨w.heap.size+1,2,none⟩) (by show w.heap.size+1<W.heap.size;omega)).trans (by rw[hW];simp[go_sem]))⟩
 have HC:Hid (W.cell? ⟨w.heap.size+1+1,0,none⟩=some (.bool false)∧W.cell? ⟨w.heap.size+1+1,1,none⟩=some (.slice none 0 0)∧W.cell? ⟨w.heap.size+1+1,2,none⟩=some (.int .i64 0)∧∀o,W.frozen? ⟨w.heap.size+1+1,o,none⟩=false):=by rw[hW];exact⟨by simp[go_sem],by simp[go_sem],by simp[go_sem],fun o=>by simp[go_sem]⟩
 go_enter Tryz.func117,Tryz.ntmps117
 go_upto_region 1 with fail
 rw[←hW]
 clear hW
 have kr0:=(qo0 W).drew
 refine qo1 (S:=fun u=>Kept w u∧((u.cell? ⟨w.heap.size,0,none⟩=some (.bool n1)∧u.cell? ⟨w.heap.size,1,none⟩=some (.slice a1 l1 c1))∧u.cell? ⟨w.heap.size,2,none⟩=some (.int .i64 x1))∧(u.cell? ⟨w.heap.size+1,0,none⟩=some (.bool n2)∧u.cell? ⟨w.heap.size+1,1,none⟩=some (.slice a2 l2 c2))∧u.cell? ⟨w.heap.size+1,2,none⟩=some (.int .i64 x2)) (by kernel_rfl) ⟨hK.trans kr0,HS.out _ kr0⟩ (fun hHeld0=>?_)
 refine tk (i:=0) (v:=?_) rfl ?_
 simp only[zz]
 refine tk (i:=1) (v:=?_) rfl ?_
 simp only[zz]
 refine qoy (rs:=[2]) (by kernel_rfl) (by simp) ?_
 refine qow rfl (fun K hK9=>?_) qox
 go_simp
 go_wp2_with fail
 refine(KT.out _ (hK.trans kr0)).mono ?_
 rintro e x1 ⟨rfl,qq⟩
 have kr1:=kr0.trans qq
 refine hK9.out _ _ ⟨hK.trans kr1,HS.out _ kr1⟩ (fun hHeld1=>?_)
 clear hK9 K
 refine qoy (rs:=[3]) (by kernel_rfl) (by simp) ?_
 refine qow rfl (fun K hK9=>?_) qox
 go_simp
 go_wp2_with fail
 refine(KP.out _ (hK.trans kr1)).mono ?_
 rintro e x2 ⟨⟨v,rfl,hN⟩,qq2⟩
 obtain⟨vn,va,vl,vc,vx,rfl⟩:=hN.shape5
 have kr2:=kr1.trans qq2
 refine hK9.out _ _ ⟨hK.trans kr2,HS.out _ kr2⟩ (fun hHeld2=>?_)
 clear hK9 K
 have hc:=HC.out
 obtain⟨f0,f1,f2,f3⟩:=zH (w.heap.size+1+1) (by omega) kr2 hc.1 hc.2.1 hc.2.2.1 hc.2.2.2
 have kF:=(hK.trans kr2).setCell (p:=⟨w.heap.size+1+1,0,none⟩) (by show w.heap.size≤w.heap.size+1+1;omega) (.bool vn)|>.setCell (p:=⟨w.heap.size+1+1,1,none⟩) (by show w.heap.size≤w.heap.size+1+1;omega) (.slice va vl vc)|>.setCell (p:=⟨w.heap.size+1+1,2,none⟩) (by show w.heap.size≤w.heap.size+1+1;omega) (.int .i64 vx)
 refine qoy (rs:=[4]) (by kernel_rfl) (by simp) ?_
 refine qow rfl (fun K hK9=>?_) qox
 go_simp
 refine hK9.out _ _ ⟨kF,by have q:=HS.out _ kr2;obtain⟨⟨⟨q0,q1⟩,q2⟩,⟨q3,q4⟩,q5⟩:=q;refine⟨⟨⟨?_,?_⟩,?_⟩,⟨?_,?_⟩,?_⟩<;>simp[go_sem,q0,q1,q2,q3,q4,q5]⟩ (fun hHeld9=>?_)
 clear hK9 K
 refine qo2 (by kernel_rfl) ?_ _
 clear hHeld0 hHeld1 hHeld2 hHeld9
 have hd:=(hN.imp (Q:=fun c=>(P c∧c<w.heap.size)∨W.heap.size≤c) (fun b hb=>hb.imp id (qou kr1.below.size))).done (w.heap.size+1+1) (fun b hb=>by rcases hb with h|h<;>omega) (.bool vn) (.slice va vl vc) (.int .i64 vx)
 go_wp2
 refine qoz (v:=.agg #[.bool vn,.slice va vl vc,.int .i64 vx]) (by simp[results,Tryz.results117,go_sem,f0,f1,f2]) rfl ⟨⟨_,rfl,hd.imp (fun b hb=>by rcases hb with h|h;exact Or.inl h.1;exact Or.inr (by omega))⟩,kF⟩
theorem qb9 (P:Nat→Prop)(w:World)(n1 n2:Bool)(a1 a2:Option Addr)(l1 c1 l2 c2:Nat)(x1 x2:Int)(r:Nm)(z:Nat)(y:Int)(hy:IntKind.i64.wrap (x1+x2)=y)
  (KM:Hid (∀u,Kept w u→Calls Tryz.prog 118 #[.slice a1 l1 c1,.slice a2 l2 c2] u fun e w'=>(∃s,e=.returned s∧RLp (qn u.heap.size) w' s (digs z))∧Kept u w'))
  (hz:(digs z).length<1000000) (hr:nrm (!(n1==n2)) z y=r):
  Calls Tryz.prog 91 #[.agg #[.bool n1,.slice a1 l1 c1,.int .i64 x1],.agg #[.bool n2,.slice a2 l2 c2,.int .i64 x2]] w fun e w'=>(∃v,e=.returned v∧RNp (fun c=>P c∨w.heap.size≤c) w' v r)∧Kept w w':=by
 obtain⟨W,hW⟩:∃W,W=(((w.alloc (.cells #[.bool n1,.slice a1 l1 c1,.int .i64 x1] 31)).alloc (.cells #[.bool n2,.slice a2 l2 c2,.int .i64 x2] 31)).alloc jh):=⟨_,rfl⟩
 have hK:Kept w W:=by rw[hW];exact(((qo0 w).alloc _ _).alloc _ _).alloc _ _
 have hWs:W.heap.size=w.heap.size+3:=by rw[hW];simp
 have HS:Hid (∀u,Kept W u→((u.cell? ⟨w.heap.size,0,none⟩=some (.bool n1)∧u.cell? ⟨w.heap.size,1,none⟩=some (.slice a1 l1 c1))∧u.cell? ⟨w.heap.size,2,none⟩=some (.int .i64 x1))∧(u.cell? ⟨w.heap.size+1,0,none⟩=some (.bool n2)∧u.cell? ⟨w.heap.size+1,1,none⟩=some (.slice a2 l2 c2))∧u.cell? ⟨w.heap.size+1,2,none⟩=some (.int .i64 x2)):=fun u k=>⟨⟨⟨((k.below.cell (p:=⟨w.heap.size,0,none⟩) (by show w.heap.size<W.heap.size;omega)).trans (by rw[hW];simp[go_sem])),((k.below.cell (p:=⟨w.heap.size,1,none⟩) (by show w.heap.size<W.heap.size;omega)).trans (by rw[hW];simp[go_sem]))⟩,((k.below.cell (p:=⟨w.heap.size,2,none⟩) (by show w.heap.size<W.heap.size;omega)).trans (by rw[hW];simp[go_sem]))⟩,⟨((k.below.cell (p:=⟨w.heap.size+1,0,none⟩) (by show w.heap.size+1<W.heap.size;omega)).trans (by rw[hW];simp[go_sem])),((k.below.cell (p:=⟨w.heap.size+1,1,none⟩) (by show w.heap.size+1<W.heap.size;omega)).trans (by rw[hW];simp[go_sem]))⟩,((k.below.cell (p:=⟨w.heap.size+1,2,none⟩) (by show w.heap.size+1<W.heap.size;omega)).trans (by rw[hW];simp[go_sem]))⟩
 have HC:Hid (W.cell? ⟨w.heap.size+1+1,0,none⟩=some (.bool false)∧W.cell? ⟨w.heap.size+1+1,1,none⟩=some (.slice none 0 0)∧W.cell? ⟨w.heap.size+1+1,2,none⟩=some (.int .i64 0)∧∀o,W.frozen? ⟨w.heap.size+1+1,o,none⟩=false):=by rw[hW];exact⟨by simp[go_sem],by simp[go_sem],by simp[go_sem],fun o=>by simp[go_sem]⟩
 have KN:Hid (∀u0 u {vs:Value},RLp (qn u0.heap.size) u vs (digs z)→Kept W u0→Kept W u→Calls Tryz.prog 100 #[.bool (!(n1==n2)),vs,.int .i64 y] u fun e w'=>(∃v,e=.returned v∧RNp (qn W.heap.size) w' v r)∧Kept u w'):=fun u0 u vs h k0 k=>by
  have:=Qx u (!(n1==n2)) (digs z) vs h.rl (za z) hz y
  rw[qQ,hr]at this
  refine this.mono ?_
  rintro e w' ⟨⟨v,rfl,hv⟩,kk⟩
  exact⟨⟨v,rfl,hv.imp (fun b hb=>qou k.below.size hb)⟩,kk⟩
 clear hr
 go_enter Tryz.func91,Tryz.ntmps91
 go_upto_region 1 with fail
 rw[←hW]
 clear hW
 have kr0:=(qo0 W).drew
 refine qo1 (S:=fun u=>Kept w u∧((u.cell? ⟨w.heap.size,0,none⟩=some (.bool n1)∧u.cell? ⟨w.heap.size,1,none⟩=some (.slice a1 l1 c1))∧u.cell? ⟨w.heap.size,2,none⟩=some (.int .i64 x1))∧(u.cell? ⟨w.heap.size+1,0,none⟩=some (.bool n2)∧u.cell? ⟨w.heap.size+1,1,none⟩=some (.slice a2 l2 c2))∧u.cell? ⟨w.heap.size+1,2,none⟩=some (.int .i64 x2)) (by kernel_rfl) ⟨hK.trans kr0,HS.out _ kr0⟩ (fun hHeld0=>?_)
 refine tk (i:=0) (v:=?_) rfl ?_
 simp only[zz]
 refine tk (i:=1) (v:=?_) rfl ?_
 simp only[zz]
 refine tk (i:=2) (v:=?_) rfl ?_
 simp only[zz]
 refine tk (i:=3) (v:=?_) rfl ?_
 simp only[zz]
 refine tk (i:=4) (v:=?_) rfl ?_
 simp only[zz]
 refine tk (i:=5) (v:=?_) rfl ?_
 simp only[zz]
 refine tk (i:=6) (v:=?_) rfl ?_
 simp only[zz]
 refine tk (i:=7) (v:=?_) rfl ?_
 simp only[zz]
 refine tk (i:=8) (v:=?_) rfl ?_
 simp only[zz]
 refine tk (i:=10) (v:=?_) rfl ?_
 simp only[zz]
 refine tk (i:=11) (v:=?_) rfl ?_
 simp only[zz]
 refine tk (i:=12) (v:=?_) rfl ?_
 simp only[zz]
 refine tk (i:=13) (v:=?_) rfl ?_
 simp only[zz]
 refine tk (i:=14) (v:=?_) rfl ?_
 simp only[zz]
 refine qoy (rs:=[9]) (by kernel_rfl) (by simp) ?_
 refine qow rfl (fun K hK9=>?_) qox
 go_simp
 go_wp2_with fail
 refine(KM.out _ (hK.trans kr0)).mono ?_
 rintro e x1 ⟨⟨vs,rfl,hs⟩,qq⟩
 have kr1:=kr0.trans qq
 refine hK9.out _ _ ⟨hK.trans kr1,HS.out _ kr1⟩ (fun hHeld1=>?_)
 clear hK9 K
 refine qoy (rs:=[15]) (by kernel_rfl) (by simp) ?_
 refine qow rfl (fun K hK9=>?_) qox
 go_simp
 go_wp2_with fail
 refine(KN.out _ _ hs kr0 kr1).mono ?_
 rintro e x2 ⟨⟨v,rfl,hN⟩,qq2⟩
 obtain⟨vn,va,vl,vc,vx,rfl⟩:=hN.shape5
 have kr2:=kr1.trans qq2
 refine hK9.out _ _ ⟨hK.trans kr2,HS.out _ kr2⟩ (fun hHeld2=>?_)
 clear hK9 K
 have hc:=HC.out
 obtain⟨f0,f1,f2,f3⟩:=zH (w.heap.size+1+1) (by omega) kr2 hc.1 hc.2.1 hc.2.2.1 hc.2.2.2
 have kF:=(hK.trans kr2).setCell (p:=⟨w.heap.size+1+1,0,none⟩) (by show w.heap.size≤w.heap.size+1+1;omega) (.bool vn)|>.setCell (p:=⟨w.heap.size+1+1,1,none⟩) (by show w.heap.size≤w.heap.size+1+1;omega) (.slice va vl vc)|>.setCell (p:=⟨w.heap.size+1+1,2,none⟩) (by show w.heap.size≤w.heap.size+1+1;omega) (.int .i64 vx)
 refine qoy (rs:=[16]) (by kernel_rfl) (by simp) ?_
 refine qow rfl (fun K hK9=>?_) qox
 go_simp
 refine hK9.out _ _ ⟨kF,by have q:=HS.out _ kr2;obtain⟨⟨⟨q0,q1⟩,q2⟩,⟨q3,q4⟩,q5⟩:=q;refine⟨⟨⟨?_,?_⟩,?_⟩,⟨?_,?_⟩,?_⟩<;>simp[go_sem,q0,q1,q2,q3,q4,q5]⟩ (fun hHeld9=>?_)
 clear hK9 K
 refine qo2 (by kernel_rfl) ?_ _
 clear hHeld0 hHeld1 hHeld2 hHeld9
 have hd:=hN.done (w.heap.size+1+1) (fun b hb=>by simp[qn]at hb;omega) (.bool vn) (.slice va vl vc) (.int .i64 vx)
 go_wp2
 refine qoz (v:=.agg #[.bool vn,.slice va vl vc,.int .i64 vx]) (by simp[results,Tryz.results91,go_sem,f0,f1,f2]) rfl ⟨⟨_,rfl,hd.imp (fun b hb=>Or.inr (by simp[qn]at hb;omega))⟩,kF⟩
theorem qln (P:Nat→Prop)(w:World)(n1 n2:Bool)(a1 a2:Option Addr)(l1 c1 l2 c2:Nat)(x1 x2:Int)(r:Nm)(G:Int)
  (KM:Hid (∀u,Kept w u→Calls Tryz.prog 117 #[.agg #[.bool n1,.slice a1 l1 c1,.int .i64 x1],.agg #[.bool n2,.slice a2 l2 c2,.int .i64 x2]] u fun e w'=>(∃v,e=.returned v∧RNp (fun c=>P c∨u.heap.size≤c) w' v r)∧Kept u w')) (hG:sgz r.neg r.mag=G):
  Calls Tryz.prog 90 #[.agg #[.bool n1,.slice a1 l1 c1,.int .i64 x1],.agg #[.bool n2,.slice a2 l2 c2,.int .i64 x2]] w fun e w'=>e=.returned (.int .i64 G)∧Kept w w':=by
 obtain⟨W,hW⟩:∃W,W=((w.alloc (.cells #[.bool n1,.slice a1 l1 c1,.int .i64 x1] 31)).alloc (.cells #[.bool n2,.slice a2 l2 c2,.int .i64 x2] 31)):=⟨_,rfl⟩
 have hK:Kept w W:=by rw[hW];exact((qo0 w).alloc _ _).alloc _ _
 have hWs:W.heap.size=w.heap.size+2:=by rw[hW];simp
 have HS:Hid (∀u,Kept W u→((u.cell? ⟨w.heap.size,0,none⟩=some (.bool n1)∧u.cell? ⟨w.heap.size,1,none⟩=some (.slice a1 l1 c1))∧u.cell? ⟨w.heap.size,2,none⟩=some (.int .i64 x1))∧(u.cell? ⟨w.heap.size+1,0,none⟩=some (.bool n2)∧u.cell? ⟨w.heap.size+1,1,none⟩=some (.slice a2 l2 c2))∧u.cell? ⟨w.heap.size+1,2,none⟩=some (.int .i64 x2)):=fun u k=>⟨⟨⟨((k.below.cell (p:=⟨w.heap.size,0,none⟩) (by show w.heap.size<W.heap.size;omega)).trans (by rw[hW];simp[go_sem])),((k.below.cell (p:=⟨w.heap.size,1,none⟩) (by show w.heap.size<W.heap.size;omega)).trans (by rw[hW];simp[go_sem]))⟩,((k.below.cell (p:=⟨w.heap.size,2,none⟩) (by show w.heap.size<W.heap.size;omega)).trans (by rw[hW];simp[go_sem]))⟩,⟨((k.below.cell (p:=⟨w.heap.size+1,0,none⟩) (by show w.heap.size+1<W.heap.size;omega)).trans (by rw[hW];simp[go_sem])),((k.below.cell (p:=⟨w.heap.size+1,1,none⟩) (by show w.heap.size+1<W.heap.size;omega)).trans (by rw[hW];simp[go_sem]))⟩,((k.below.cell (p:=⟨w.heap.size+1,2,none⟩) (by show w.heap.size+1<W.heap.size;omega)).trans (by rw[hW];simp[go_sem]))⟩
 go_enter Tryz.func90,Tryz.ntmps90
 go_upto_region 1 with fail
 rw[←hW]
 clear hW
 have e0:=HS.out _ (qo0 W)
 go_wp2_with fail
 refine(KM.out _ hK).mono ?_
 rintro e x2 ⟨⟨v,rfl,hN⟩,kr2⟩
 obtain⟨ao,c,rfl,-⟩:=hN.shape
 have KS:Hid (Calls Tryz.prog 95 #[.agg #[.bool r.neg,.slice ao r.mag.length c,.int .i64 r.exp]] x2 fun e w'=>e=.returned (.int .i64 G)∧Kept x2 w'):=by
  have:=YF r.neg ao r.mag.length c r.exp x2
  rw[←hG]
  exact this
 clear hG e0
 generalize r.mag.length=rl at *
 generalize r.neg=rn at *
 generalize r.exp=rx at *
 go_wp2_with fail
 refine KS.out.mono ?_
 rintro e x3 ⟨rfl,kr3⟩
 go_wp2
 go_ret
 exact⟨rfl,hK.trans (kr2.trans kr3)⟩
theorem vg (a:Nm)(h:vld a=true):Cn a.mag∧a.mag.length≤2000∧-1048576≤a.exp∧a.exp≤1048576:=by
 obtain⟨n,L,x⟩:=a
 by_cases e:L=[]
 ·subst e
  obtain⟨-,rfl⟩:=jH _ _ h
  exact⟨⟨Dg.nil,fun h=>absurd rfl h⟩,by simp,by dsimp only;omega,by dsimp only;omega⟩
 ·obtain⟨p1,p2,p3,p4,p5,p6⟩:=qT n L x e h
  exact⟨⟨p2,fun _=>p3⟩,p1,p5,p6⟩
theorem kK (b:Nm)(h:b.mag≠[]):trn b=ng b:=by
 have:¬b.mag.length=0:=fun e=>h (List.length_eq_zero_iff.1 e)
 simp[trn,ng,this]
theorem vQ (b:Nm)(h:b.mag=[]):trn b=b:=by
 obtain⟨n,L,x⟩:=b
 dsimp only at h
 subst h
 rfl
theorem Zy (b:Nm)(h:vld b=true):vld (trn b)=true:=by
 by_cases e:b.mag=[]
 ·rw[vQ b e];exact h
 ·rw[kK b e];exact VV b.neg b.mag b.exp h e
theorem qfo (a b:Nat)(ha:a≠0)(hb:b≠0):bl a+bl b-1≤bl (a*b):=by
 have h1:=qO a ha
 have h2:=qO b hb
 have h3:2^(bl a-1)*2^(bl b-1)≤a*b:=Nat.mul_le_mul h1.1 h2.1
 rw[←qol]at h3
 have:=qg0 _ _ h3
 omega
theorem qdq (a b:Nm)(ha:vld a=true)(hb:vld b=true):Jn a b=if vld (tms a b)=true then some (tms a b)else none:=by
 obtain⟨n1,L1,x1⟩:=a
 obtain⟨n2,L2,x2⟩:=b
 have q1:=vg _ ha
 have q2:=vg _ hb
 unfold Jn tms
 dsimp only at *
 have b1:bl (nv L1)≤60000:=qou (zg _ _ (zJ L1 q1.1.1)) (by omega)
 have b2:bl (nv L2)≤60000:=qou (zg _ _ (zJ L2 q2.1.1)) (by omega)
 rw[←ZC]
 by_cases hfit:(bl (nv L1):Int)+(bl (nv L2):Int)-1≤60000∧-1048576≤x1+x2∧x1+x2≤1048576
 ·rw[if_pos hfit]
 ·rw[if_neg hfit]
  by_cases e1:L1=[]
  ·subst e1
   obtain⟨-,rfl⟩:=jH _ _ ha
   exfalso
   apply hfit
   refine⟨?_,by omega,by omega⟩
   have:bl (nv [])=0:=by simp[nv,bl]
   rw[this]
   omega
  by_cases e2:L2=[]
  ·subst e2
   obtain⟨-,rfl⟩:=jH _ _ hb
   exfalso
   apply hfit
   refine⟨?_,by omega,by omega⟩
   have:bl (nv [])=0:=by simp[nv,bl]
   rw[this]
   omega
  obtain⟨p1,p2,p3,p4,p5,p6⟩:=qT n1 L1 x1 e1 ha
  obtain⟨r1,r2,r3,r4,r5,r6⟩:=qT n2 L2 x2 e2 hb
  have o1:=kz L1 p2 p4
  have o2:=kz L2 r2 r4
  have o3:nv L1*nv L2%2=1:=by rw[Nat.mul_mod,o1,o2]
  have hz:=Qg _ o3
  have hge:=qfo (nv L1) (nv L2) (by omega) (by omega)
  unfold frm
  rw[if_neg (by omega),hz,if_neg]
  rintro⟨g1,g2,g3⟩
  apply hfit
  simp only[Int.natCast_zero,Int.add_zero]at g2 g3
  have hw:wrap64 (x1+x2)=x1+x2:=by unfold wrap64;omega
  rw[hw]at g2 g3
  exact⟨by omega,g2,g3⟩
theorem qah (n1 n2:Bool)(L1 L2:List Int)(x1 x2:Int)(h1:L1≠[])(h2:L2≠[])(hv1:vld ⟨n1,L1,x1⟩=true)(hv2:vld ⟨n2,L2,x2⟩=true)(hlt:x1<x2)(hfar:60001<x2+(bl (nv L2):Int)-x1)(neg:Bool)(T:Int)(hT:T=sg n1 ((nv L1:Nat):Int)+sg n2 ((nv L2*2^(x2-x1).toNat:Nat):Int)):frm neg T.natAbs x1=none:=by
 obtain⟨p1,p2,p3,p4,p5,p6⟩:=qT n1 L1 x1 h1 hv1
 obtain⟨r1,r2,r3,r4,r5,r6⟩:=qT n2 L2 x2 h2 hv2
 have o1:=kz L1 p2 p4
 have v2:=jB n2 L2 x2 h2 hv2
 obtain⟨k,hk⟩:∃k,(x2-x1).toNat=k:=⟨_,rfl⟩
 rw[hk]at hT
 have hk1:0<k:=by omega
 obtain⟨N,hN⟩:∃N:Nat,N=60000:=⟨_,rfl⟩
 have lt1:nv L1<2^N:=qok (zJ L1 p2) (qom (by decide) (by omega))
 have hb:=Z3 (nv L2) k (by omega)
 have hge:2^(N+1)≤nv L2*2^k:=by
  have:=(qO (nv L2*2^k) (by have:=Nat.mul_pos v2 (qoj k);omega)).1
  refine qou (qom (by decide) ?_) this
  rw[hb]
  omega
 have hev:nv L2*2^k%2=0:=by
  obtain⟨j,rfl⟩:∃j,k=j+1:=⟨k-1,by omega⟩
  rw[qov,←qop]
  omega
 generalize nv L2*2^k=Y at *
 rw[qov]at hge
 have habs:2^N≤T.natAbs:=by
  rw[hT]
  cases n1<;>cases n2<;>simp only[sg,Bool.false_eq_true,if_false,if_true]<;>omega
 have hodd:T.natAbs%2=1:=by
  rw[hT]
  cases n1<;>cases n2<;>simp only[sg,Bool.false_eq_true,if_false,if_true]<;>omega
 have hz:=Qg _ hodd
 have hbl:=qg0 _ _ habs
 unfold frm
 rw[if_neg (by omega),hz,if_neg]
 rintro⟨g1,-,-⟩
 omega
theorem qlo (a b:Nm)(ha:vld a=true)(hb:vld b=true):qif a b=if vld (pls a b)=true then some (pls a b)else none:=by
 obtain⟨n1,L1,x1⟩:=a
 obtain⟨n2,L2,x2⟩:=b
 unfold qif pls
 dsimp only
 by_cases e1:L1=[]
 ·rw[if_pos e1,if_pos e1,if_pos hb]
  by_cases e2:L2=[]
  ·subst e2
   obtain⟨rfl,rfl⟩:=jH _ _ hb
   rw[if_pos rfl]
  ·rw[if_neg e2]
 ·rw [if_neg e1,if_neg e1]
  by_cases e2:L2=[]
  ·rw[if_pos e2,if_pos e2,if_pos ha]
  ·rw[if_neg e2,if_neg e2,←ZC]
   unfold qm2
   dsimp only
   by_cases hr:max (tp ⟨n1,L1,x1⟩) (tp ⟨n2,L2,x2⟩)-min x1 x2≤60001
   ·rw[if_pos hr]
   ·rw[if_neg hr]
    have q1:=vg _ ha
    have q2:=vg _ hb
    have b1:bl (nv L1)≤60000:=qou (zg _ _ (zJ L1 q1.1.1)) (by have:=q1.2.1;dsimp only at this;omega)
    have b2:bl (nv L2)≤60000:=qou (zg _ _ (zJ L2 q2.1.1)) (by have:=q2.2.1;dsimp only at this;omega)
    unfold tp at hr
    dsimp only at hr
    rcases Int.lt_trichotomy x1 x2 with h|h|h
    ·have hm:min x1 x2=x1:=by omega
     rw[hm]at hr ⊢
     refine(qah n1 n2 L1 L2 x1 x2 e1 e2 ha hb h (by omega) _ _ ?_).symm
     rw[V5 n1 n2 L1 L2 x1 x2 x1 0 (x2-x1).toNat (by omega) rfl,Nat.pow_zero,Nat.mul_one]
    ·exfalso
     omega
    ·have hm:min x1 x2=x2:=by omega
     rw[hm]at hr ⊢
     refine(qah n2 n1 L2 L1 x2 x1 e2 e1 hb ha h (by omega) _ _ ?_).symm
     rw[V5 n1 n2 L1 L2 x1 x2 x2 (x1-x2).toNat 0 rfl (by omega),Nat.pow_zero,Nat.mul_one,Int.add_comm]
theorem qlp (t:Int)(lo:Int):sgz (nrm (decide (t<0)) t.natAbs lo).neg (nrm (decide (t<0)) t.natAbs lo).mag=cz t 0:=by
 unfold nrm
 by_cases h:t=0
 ·subst h
  rfl
 ·rw[if_neg (by omega)]
  dsimp only
  have hne:digs (t.natAbs/2^tzn t.natAbs)≠[]:=fun e=>by
   have h1:=qQ (t.natAbs/2^tzn t.natAbs)
   rw[e]at h1
   exact(vJ t.natAbs (by omega)).2 h1.symm
  rw[Kq _ _ hne]
  unfold cz
  by_cases g:t<0
  ·rw[if_pos (by simpa using g),if_pos g]
  ·rw[if_neg (by simpa using g),if_neg g,if_pos (by omega)]
theorem qi3 (s:Int)(a b:Nm)(ha:vld a=true)(hb:vld b=true)(ga:a.mag≠[]→s≤a.exp)(gb:b.mag≠[]→s≤b.exp):sgz (pls a (trn b)).neg (pls a (trn b)).mag=cz (vz s a) (vz s b):=by
 by_cases e1:a.mag=[]
 ·have hp:pls a (trn b)=trn b:=by rw[pls,if_pos e1]
  have z1:vz s a=0:=by obtain⟨n,L,x⟩:=a;dsimp only at e1;subst e1;exact zM _ _ _
  rw[hp,qid s (trn b) (Zy b hb),z1,←qie 0 (vz s b)]
  by_cases e2:b.mag=[]
  ·rw[vQ b e2]
   have z2:vz s b=0:=by obtain⟨n,L,x⟩:=b;dsimp only at e2;subst e2;exact zM _ _ _
   rw[z2]
   rfl
  ·rw[kK b e2,qnx,Int.zero_sub]
 ·by_cases e2:b.mag=[]
  ·have hp:pls a (trn b)=a:=by
    rw[vQ b e2,pls,if_neg e1,if_pos e2]
   have z2:vz s b=0:=by obtain⟨n,L,x⟩:=b;dsimp only at e2;subst e2;exact zM _ _ _
   rw[hp,qid s a ha,z2]
  ·have hp:pls a (trn b)=nrm (decide (tot a (ng b) (min a.exp b.exp)<0)) (tot a (ng b) (min a.exp b.exp)).natAbs (min a.exp b.exp):=by
    rw[kK b e2,pls,if_neg e1,if_neg (by exact e2)]
    rfl
   rw[hp,qlp]
   have key:vz s a-vz s b=tot a (ng b) (min a.exp b.exp)*2^(min a.exp b.exp-s).toNat:=by
    have la:=ga e1
    have lb:=gb e2
    have q1:(a.exp-s).toNat=(a.exp-min a.exp b.exp).toNat+(min a.exp b.exp-s).toNat:=by omega
    have q2:(b.exp-s).toNat=(b.exp-min a.exp b.exp).toNat+(min a.exp b.exp-s).toNat:=by omega
    unfold vz tot ng
    dsimp only
    rw[q1,q2,xN,xN,Int.add_mul,Int.sub_eq_add_neg]
    congr 1
    ·cases a.neg<;>simp[sg,Int.mul_assoc,Int.neg_mul]
    ·cases b.neg<;>simp[sg,Int.mul_assoc,Int.neg_mul]
   rw[←qie (vz s a) (vz s b),key]
   have:=qm4 (tot a (ng b) (min a.exp b.exp)) 0 (min a.exp b.exp-s).toNat
   rw[Int.zero_mul]at this
   exact this.symm
abbrev PL (P:Nat→Prop)(w:World):Nat→Prop:=fun c=>P c∨w.heap.size≤c
theorem qlq {P:Nat→Prop}{w:World}{n:Bool}{ao:Option Addr}{c:Nat}{L:List Int}{x:Int}(h:RNp P w (.agg #[.bool n,.slice ao L.length c,.int .i64 x]) ⟨n,L,x⟩):RNp P w (.agg #[.bool (if L.length=0 then n else !n),.slice ao L.length c,.int .i64 x]) (trn ⟨n,L,x⟩):=by
 obtain⟨s,e,hs⟩:=h
 cases e
 exact⟨_,rfl,hs⟩
theorem qfp (P:Nat→Prop)(w:World)(a b:Nm)(va vb:Value)(ha:RNp P w va a)(hb:RNp P w vb b)(ca:vld a=true)(cb:vld b=true):
  Calls Tryz.prog 117 #[va,vb] w fun e w'=>(∃v,e=.returned v∧RNp (PL P w) w' v (pls a (trn b)))∧Kept w w':=by
 have qa:=vg a ca
 have qb:=vg _ (Zy b cb)
 obtain⟨n1,L1,x1⟩:=a
 obtain⟨n2,L2,x2⟩:=b
 obtain⟨a1,c1,rfl,-⟩:=ha.shape
 obtain⟨a2,c2,rfl,-⟩:=hb.shape
 refine qb8 P w n1 n2 a1 a2 L1.length c1 L2.length c2 x1 x2 _ (if L2.length=0 then n2 else !n2) (fun u k=>vL n2 a2 L2.length c2 x2 u) (fun u k=>?_)
 exact qaj _ u ⟨n1,L1,x1⟩ (trn ⟨n2,L2,x2⟩) _ _ (ha.here.kept k) (qlq (hb.here.kept k)) qa.1 qb.1 (by have:=qa.2.1;omega) (by have:=qb.2.1;omega) (by have:=qa.2.2;omega) (by have:=qb.2.2;omega)
theorem vE (P:Nat→Prop)(w:World)(a b:Nm)(va vb:Value)(ha:RNp P w va a)(hb:RNp P w vb b)(ca:vld a=true)(cb:vld b=true):
  Calls Tryz.prog 91 #[va,vb] w fun e w'=>(∃v,e=.returned v∧RNp (PL P w) w' v (tms a b))∧Kept w w':=by
 have qa:=vg a ca
 have qb:=vg b cb
 obtain⟨n1,L1,x1⟩:=a
 obtain⟨n2,L2,x2⟩:=b
 obtain⟨a1,c1,rfl,hra⟩:=ha.shape
 obtain⟨a2,c2,rfl,hrb⟩:=hb.shape
 dsimp only at *
 have d1:=ZD qa.1
 have d2:=ZD qb.1
 refine qb9 P w n1 n2 a1 a2 L1.length c1 L2.length c2 x1 x2 _ (nv L1*nv L2) (x1+x2) (by rw[qg];omega) (fun u k=>?_) ?_ rfl
 ·have:=qca u (nv L1) (nv L2) (.slice a1 L1.length c1) (.slice a2 L2.length c2) (by rw[d1];exact hra.rl.kept k) (by rw[d2];exact hrb.rl.kept k) (by rw[d1];omega) (by rw[d2];omega)
  exact this
 ·obtain⟨N,hN⟩:∃N:Nat,N=4000:=⟨_,rfl⟩
  have h1:=zJ L1 qa.1.1
  have h2:=zJ L2 qb.1.1
  have h3:nv L1*nv L2<2^(30*N):=by
   have:=Nat.mul_lt_mul'' h1 h2
   rw[←qol]at this
   exact qok this (qom (by decide) (by omega))
  have:=qC _ _ h3
  omega
theorem JD (P:Nat→Prop)(w:World)(a b:Nm)(va vb:Value)(ha:RNp P w va a)(hb:RNp P w vb b)(ca:vld a=true)(cb:vld b=true)(G:Int)(hG:sgz (pls a (trn b)).neg (pls a (trn b)).mag=G):
  Calls Tryz.prog 90 #[va,vb] w fun e w'=>e=.returned (.int .i64 G)∧Kept w w':=by
 obtain⟨n1,L1,x1⟩:=a
 obtain⟨n2,L2,x2⟩:=b
 obtain⟨a1,c1,rfl,-⟩:=ha.shape
 obtain⟨a2,c2,rfl,-⟩:=hb.shape
 exact qln P w n1 n2 a1 a2 L1.length c1 L2.length c2 x1 x2 _ G (fun u k=>qfp _ u ⟨n1,L1,x1⟩ ⟨n2,L2,x2⟩ _ _ (ha.kept k) (hb.kept k) ca cb) hG
structure P7 (w:World) (b:Nat) (v0 v1 v2 v3 v4 v5 v6:Value):Prop where
 c0:w.cell? ⟨b,0,none⟩=some v0
 c1:w.cell? ⟨b,1,none⟩=some v1
 c2:w.cell? ⟨b,2,none⟩=some v2
 c3:w.cell? ⟨b,3,none⟩=some v3
 c4:w.cell? ⟨b,4,none⟩=some v4
 c5:w.cell? ⟨b,5,none⟩=some v5
 c6:w.cell? ⟨b,6,none⟩=some v6
 fz:∀o,w.frozen? ⟨b,o,none⟩=false
theorem P7.new (w:World)(v0 v1 v2 v3 v4 v5 v6:Value)(t:TypeId):P7 (w.alloc (.cells #[v0,v1,v2,v3,v4,v5,v6] t)) w.heap.size v0 v1 v2 v3 v4 v5 v6:=⟨by simp[go_sem],by simp[go_sem],by simp[go_sem],by simp[go_sem],by simp[go_sem],by simp[go_sem],by simp[go_sem],fun o=>by simp[go_sem]⟩
theorem P7.lt {w:World}{b:Nat}{v0 v1 v2 v3 v4 v5 v6:Value}(h:P7 w b v0 v1 v2 v3 v4 v5 v6):b<w.heap.size:=by
 have:=h.c0
 by_cases hb:b<w.heap.size
 ·exact hb
 ·have hg:w.heap[b]?=none:=by simp at hb ⊢;omega
  simp[World.cell?,hg]at this
theorem P7.kept {w w':World}{b:Nat}{v0 v1 v2 v3 v4 v5 v6:Value}(h:P7 w b v0 v1 v2 v3 v4 v5 v6)(k:Kept w w'):P7 w' b v0 v1 v2 v3 v4 v5 v6:=
 ⟨(k.below.cell (p:=⟨b,0,none⟩) h.lt).trans h.c0,(k.below.cell (p:=⟨b,1,none⟩) h.lt).trans h.c1,(k.below.cell (p:=⟨b,2,none⟩) h.lt).trans h.c2,(k.below.cell (p:=⟨b,3,none⟩) h.lt).trans h.c3,(k.below.cell (p:=⟨b,4,none⟩) h.lt).trans h.c4,(k.below.cell (p:=⟨b,5,none⟩) h.lt).trans h.c5,(k.below.cell (p:=⟨b,6,none⟩) h.lt).trans h.c6,fun o=>(k.frozen _).trans (h.fz o)⟩
theorem P7.alloc {w:World}{b:Nat}{v0 v1 v2 v3 v4 v5 v6:Value}(h:P7 w b v0 v1 v2 v3 v4 v5 v6)(c:Array Value)(t:TypeId):P7 (w.alloc (.cells c t)) b v0 v1 v2 v3 v4 v5 v6:=h.kept ((qo0 w).alloc c t)
abbrev xY (w:World)(b:Nat)(v0 v1 v2 v3 v4 v5 v6:Value):World:=((((((w.setCell ⟨b,0,none⟩ v0).setCell ⟨b,1,none⟩ v1).setCell ⟨b,2,none⟩ v2).setCell ⟨b,3,none⟩ v3).setCell ⟨b,4,none⟩ v4).setCell ⟨b,5,none⟩ v5).setCell ⟨b,6,none⟩ v6
theorem P7.put {w:World}{b:Nat}{u0 u1 u2 u3 u4 u5 u6:Value}(h:P7 w b u0 u1 u2 u3 u4 u5 u6)(v0 v1 v2 v3 v4 v5 v6:Value):P7 (xY w b v0 v1 v2 v3 v4 v5 v6) b v0 v1 v2 v3 v4 v5 v6:=by
 obtain⟨c0,c1,c2,c3,c4,c5,c6,fz⟩:=h
 exact⟨by simp[go_sem, *],by simp[go_sem, *],by simp[go_sem, *],by simp[go_sem, *],by simp[go_sem, *],by simp[go_sem, *],by simp[go_sem, *],fun o=>by simp[World.frozen?_setCell, *]⟩
theorem ze {w u:World}{b:Nat}(k:Kept w u)(h:w.heap.size≤b)(v0 v1 v2 v3 v4 v5 v6:Value):Kept w (xY u b v0 v1 v2 v3 v4 v5 v6):=
 ((((((k.setCell (p:=⟨b,0,none⟩) h v0).setCell (p:=⟨b,1,none⟩) h v1).setCell (p:=⟨b,2,none⟩) h v2).setCell (p:=⟨b,3,none⟩) h v3).setCell (p:=⟨b,4,none⟩) h v4).setCell (p:=⟨b,5,none⟩) h v5).setCell (p:=⟨b,6,none⟩) h v6
theorem JY {P:Nat→Prop}{w:World}{v:Value}{M:List Int}(h:RLp P w v M)(b:Nat)(hp:∀c,P c→c≠b)(v0 v1 v2 v3 v4 v5 v6:Value):RLp P (xY w b v0 v1 v2 v3 v4 v5 v6) v M:=
 ((((((h.set ⟨b,0,none⟩ hp v0).set ⟨b,1,none⟩ hp v1).set ⟨b,2,none⟩ hp v2).set ⟨b,3,none⟩ hp v3).set ⟨b,4,none⟩ hp v4).set ⟨b,5,none⟩ hp v5).set ⟨b,6,none⟩ hp v6
abbrev env (i:Int)(n1:Bool)(a1:Option Addr)(l1 c1:Nat)(x1:Int)(n2:Bool)(a2:Option Addr)(l2 c2:Nat)(x2:Int):Value:=.agg #[.int .i64 i,.bool n1,.slice a1 l1 c1,.int .i64 x1,.bool n2,.slice a2 l2 c2,.int .i64 x2]
def EnAt (P:Nat→Prop)(w:World)(v:Value)(i:Int)(x y:Nm):Prop:=∃a1 c1 a2 c2,v=env i x.neg a1 x.mag.length c1 x.exp y.neg a2 y.mag.length c2 y.exp∧RLp P w (.slice a1 x.mag.length c1) x.mag∧RLp P w (.slice a2 y.mag.length c2) y.mag
theorem EnAt.kept {P:Nat→Prop}{w w':World}{v:Value}{i:Int}{x y:Nm}(h:EnAt P w v i x y)(k:Kept w w'):EnAt P w' v i x y:=by
 obtain⟨a1,c1,a2,c2,e,h1,h2⟩:=h
 exact⟨a1,c1,a2,c2,e,h1.kept k,h2.kept k⟩
theorem EnAt.imp {P Q:Nat→Prop}{w:World}{v:Value}{i:Int}{x y:Nm}(h:EnAt P w v i x y)(hpq:∀b,P b→Q b):EnAt Q w v i x y:=by
 obtain⟨a1,c1,a2,c2,e,h1,h2⟩:=h
 exact⟨a1,c1,a2,c2,e,h1.imp hpq,h2.imp hpq⟩
theorem EnAt.here {P:Nat→Prop}{w:World}{v:Value}{i:Int}{x y:Nm}(h:EnAt P w v i x y):EnAt (fun b=>P b∧b<w.heap.size) w v i x y:=by
 obtain⟨a1,c1,a2,c2,e,h1,h2⟩:=h
 exact⟨a1,c1,a2,c2,e,h1.here,h2.here⟩
theorem EnAt.put {P:Nat→Prop}{w:World}{v:Value}{i:Int}{x y:Nm}(h:EnAt P w v i x y)(b:Nat)(hp:∀c,P c→c≠b)(v0 v1 v2 v3 v4 v5 v6:Value):EnAt P (xY w b v0 v1 v2 v3 v4 v5 v6) v i x y:=by
 obtain⟨a1,c1,a2,c2,e,h1,h2⟩:=h
 exact⟨a1,c1,a2,c2,e,JY h1 b hp _ _ _ _ _ _ _,JY h2 b hp _ _ _ _ _ _ _⟩
theorem EnAt.shape {P:Nat→Prop}{w:World}{v:Value}{i:Int}{x y:Nm}(h:EnAt P w v i x y):∃n1 a1 l1 c1 x1 n2 a2 l2 c2 x2,v=env i n1 a1 l1 c1 x1 n2 a2 l2 c2 x2:=by
 obtain⟨a1,c1,a2,c2,e,-⟩:=h
 exact⟨_,_,_,_,_,_,_,_,_,_,e⟩
theorem RNp.en {P:Nat→Prop}{w:World}{v1 v2:Value}{x y:Nm}(i:Int){n1 n2:Bool}{a1 a2:Option Addr}{l1 c1 l2 c2:Nat}{x1 x2:Int}(h1:RNp P w (.agg #[.bool n1,.slice a1 l1 c1,.int .i64 x1]) x)(h2:RNp P w (.agg #[.bool n2,.slice a2 l2 c2,.int .i64 x2]) y):EnAt P w (env i n1 a1 l1 c1 x1 n2 a2 l2 c2 x2) i x y:=by
 obtain⟨b1,d1,e1,r1⟩:=h1.shape
 obtain⟨b2,d2,e2,r2⟩:=h2.shape
 cases e1
 cases e2
 exact⟨_,_,_,_,rfl,r1,r2⟩
theorem EnAt.fst {P:Nat→Prop}{w:World}{i:Int}{x y:Nm}{n1 n2:Bool}{a1 a2:Option Addr}{l1 c1 l2 c2:Nat}{x1 x2:Int}(h:EnAt P w (env i n1 a1 l1 c1 x1 n2 a2 l2 c2 x2) i x y):RNp P w (.agg #[.bool n1,.slice a1 l1 c1,.int .i64 x1]) x∧RNp P w (.agg #[.bool n2,.slice a2 l2 c2,.int .i64 x2]) y:=by
 obtain⟨b1,d1,b2,d2,e,r1,r2⟩:=h
 cases e
 exact⟨⟨_,rfl,r1⟩,⟨_,rfl,r2⟩⟩
abbrev qbi:Obj:=.cells #[.int .i64 0,.bool false,.slice none 0 0,.int .i64 0,.bool false,.slice none 0 0,.int .i64 0] 77
def oneN5:Nm:=⟨false,[1],0⟩
theorem qj4:nrm false 1 0=oneN5:=by
 unfold nrm oneN5
 rw[if_neg (by decide),show tzn 1=0 by decide,show digs (1/2^0)=[1] by decide,show wrap64 (0+((0:Nat):Int))=0 by unfold wrap64;omega]
theorem qj5 (w:World):Calls Tryz.prog 89 #[.int .i64 1] w fun e w'=>(∃r,e=.returned r∧RNp (qn w.heap.size) w' r oneN5)∧Kept w w':=by
 have:=qfx w 1 (by decide)
 rw[qj4]at this
 exact this
theorem YS (n1:Bool)(a1:Option Addr)(l1 c1:Nat)(x1:Int)(w:World):
  Calls Tryz.prog 67 #[.agg #[.bool n1,.slice a1 l1 c1,.int .i64 x1]] w fun e w'=>∃(n2:Bool) (a2:Option Addr) (l2 c2:Nat) (x2:Int) (u:World) (v0 v1 v2 v3 v4 v5 v6:Value),e=.returned (env 0 n1 a1 l1 c1 x1 n2 a2 l2 c2 x2)∧Kept w u∧RNp (qn (w.heap.size+2)) u (.agg #[.bool n2,.slice a2 l2 c2,.int .i64 x2]) oneN5∧w'=xY u (w.heap.size+1) v0 v1 v2 v3 v4 v5 v6:=by
 obtain⟨X,hX⟩:∃X,X=(w.alloc (.cells #[.bool n1,.slice a1 l1 c1,.int .i64 x1] 31)).alloc qbi:=⟨_,rfl⟩
 have hK:Kept w X:=by rw[hX];exact((qo0 w).alloc _ _).alloc _ _
 have hXs:X.heap.size=w.heap.size+2:=by rw[hX];simp
 have hP:P7 X (w.heap.size+1) (.int .i64 0) (.bool false) (.slice none 0 0) (.int .i64 0) (.bool false) (.slice none 0 0) (.int .i64 0):=by
  rw[hX]
  have:=P7.new (w.alloc (.cells #[.bool n1,.slice a1 l1 c1,.int .i64 x1] 31)) (.int .i64 0) (.bool false) (.slice none 0 0) (.int .i64 0) (.bool false) (.slice none 0 0) (.int .i64 0) 77
  simpa using this
 obtain⟨B,hB⟩:∃B,B=w.heap.size:=⟨_,rfl⟩
 obtain⟨C,hC⟩:∃B,B=w.heap.size+1:=⟨_,rfl⟩
 have HB:Hid (∀u,Kept X u→Kept X u∧u.cell? ⟨B,0,none⟩=some (.bool n1)∧u.cell? ⟨B,1,none⟩=some (.slice a1 l1 c1)∧u.cell? ⟨B,2,none⟩=some (.int .i64 x1)):=fun u k=>⟨k,(k.below.cell (by rw[hXs];dsimp only;omega)).trans (by rw[hX,hB];simp[go_sem]),(k.below.cell (by rw[hXs];dsimp only;omega)).trans (by rw[hX,hB];simp[go_sem]),(k.below.cell (by rw[hXs];dsimp only;omega)).trans (by rw[hX,hB];simp[go_sem])⟩
 have KW:Hid (∀u,Kept X u→Calls Tryz.prog 89 #[.int .i64 1] u fun e w'=>∃(n2:Bool) (a2:Option Addr) (l2 c2:Nat) (x2:Int),e=.returned (.agg #[.bool n2,.slice a2 l2 c2,.int .i64 x2])∧RNp (qn (w.heap.size+2)) w' (.agg #[.bool n2,.slice a2 l2 c2,.int .i64 x2]) oneN5∧Kept u w'):=fun u k=>by
  refine(qj5 u).mono ?_
  rintro e w' ⟨⟨r,rfl,hr⟩,k'⟩
  obtain⟨n2,a2,l2,c2,x2,rfl⟩:=hr.shape5
  exact⟨n2,a2,l2,c2,x2,rfl,hr.imp (fun b hb=>by have:=k.below.size;simp only[qn]at hb ⊢;omega),k'⟩
 rw[←hC]at hP
 rw[←hC]
 go_enter Tryz.func67,Tryz.ntmps67
 go_upto_region 1 with fail
 rw[←hX,←hC,←hB]
 clear hX hB hC hXs
 refine qm [3] (fun u=>Kept X u∧u.cell? ⟨B,0,none⟩=some (.bool n1)∧u.cell? ⟨B,1,none⟩=some (.slice a1 l1 c1)∧u.cell? ⟨B,2,none⟩=some (.int .i64 x1)) (by kernel_rfl) (HB.out _ (qo0 X).drew) (fun hHeld=>?_)
 refine tkD (i:=0) (v:=?_) rfl hHeld ?_
 try simp only[zz]
 refine qi (i:=1) (by kernel_rfl) rfl (fun K hK9=>?_)
 go_simp
 go_wp2_with fail
 refine(KW.out _ hHeld.1).mono ?_
 rintro e u2 ⟨n2,a2,l2,c2,x2,rfl,hn2,k2⟩
 refine hK9.out _ _ (HB.out _ (hHeld.1.trans k2)) (fun hH2=>?_)
 clear hK9 K
 try simp only[zz]
 refine tkD (i:=2) (v:=?_) rfl hH2 ?_
 try simp only[zz]
 obtain⟨p0,p1,p2,p3,p4,p5,p6,pf⟩:=hP.kept hH2.1
 refine zT (i:=3) (by kernel_rfl) rfl rfl (fun K hK9=>?_)
 go_simp
 refine hK9.out _ _ ?_
 clear hK9 K
 try simp only[zz]
 refine qs (by kernel_rfl) ?_ _
 try simp only[zz]
 go_wp2_with fail
 exact qoz (v:=env 0 n1 a1 l1 c1 x1 n2 a2 l2 c2 x2) (by simp[results,Tryz.results67,go_sem,p0,p1,p2,p3,p4,p5,p6]) rfl ⟨n2,a2,l2,c2,x2,u2,_,_,_,_,_,_,_,rfl,hK.trans hH2.1,hn2,rfl⟩
theorem xx (P:Nat→Prop)(w:World)(x:Nm)(v:Value)(h:RNp P w v x):Calls Tryz.prog 67 #[v] w fun e w'=>(∃r,e=.returned r∧EnAt (PL P w) w' r 0 x oneN5)∧Kept w w':=by
 obtain⟨a1,c1,rfl,hr⟩:=h.shape
 refine(YS _ a1 _ c1 _ w).mono ?_
 rintro e w' ⟨n2,a2,l2,c2,x2,u,v0,v1,v2,v3,v4,v5,v6,rfl,k,h2,rfl⟩
 obtain⟨b2,d2,e2,r2⟩:=h2.shape
 cases e2
 refine⟨⟨_,rfl,a1,c1,_,_,rfl,?_,?_⟩,ze k (by omega) _ _ _ _ _ _ _⟩
 ·exact(JY (hr.here.kept k) _ (fun b hb=>by have:=hb.2;omega) _ _ _ _ _ _ _).imp (fun b hb=>.inl hb.1)
 ·exact(JY r2 _ (fun b hb=>by simp only[qn]at hb;omega) _ _ _ _ _ _ _).imp (fun b hb=>.inr (by simp only[qn]at hb;omega))
theorem qj6 (b n s:Int)(w:World)
  (KC:Hid (∀u,Calls Tryz.prog 72 #[.int .i64 b,.int .i64 n] u fun e w'=>e=.returned (.int .i64 3)∧Kept u w'))
  (KS:Hid (∀u,Calls Tryz.prog 88 #[.int .i64 b,.int .i64 n] u fun e w'=>e=.returned (.int .i64 s)∧Kept u w')):
  Calls Tryz.prog 52 #[.int .i64 b,.int .i64 n] w fun e w'=>(∃r,e=.returned r∧EnAt (qn w.heap.size) w' r s ⟨false,[],0⟩ oneN5)∧Kept w w':=by
 obtain⟨X,hX⟩:∃X,X=w.alloc qbi:=⟨_,rfl⟩
 have hK:Kept w X:=by rw[hX];exact(qo0 w).alloc _ _
 have hXs:X.heap.size=w.heap.size+1:=by rw[hX];simp
 have hP:P7 X w.heap.size (.int .i64 0) (.bool false) (.slice none 0 0) (.int .i64 0) (.bool false) (.slice none 0 0) (.int .i64 0):=by rw[hX];exact P7.new w _ _ _ _ _ _ _ _
 obtain⟨C,hC⟩:∃B,B=w.heap.size:=⟨_,rfl⟩
 rw[←hC]at hP
 have KW:Hid (∀u,Kept X u→Calls Tryz.prog 89 #[.int .i64 1] u fun e w'=>∃(n2:Bool) (a2:Option Addr) (l2 c2:Nat) (x2:Int),e=.returned (.agg #[.bool n2,.slice a2 l2 c2,.int .i64 x2])∧RNp (qn (w.heap.size+1)) w' (.agg #[.bool n2,.slice a2 l2 c2,.int .i64 x2]) oneN5∧Kept u w'):=fun u k=>by
  refine(qj5 u).mono ?_
  rintro e w' ⟨⟨r,rfl,hr⟩,k'⟩
  obtain⟨n2,a2,l2,c2,x2,rfl⟩:=hr.shape5
  exact⟨n2,a2,l2,c2,x2,rfl,hr.imp (fun b hb=>by have:=k.below.size;simp only[qn]at hb ⊢;omega),k'⟩
 go_enter Tryz.func52,Tryz.ntmps52
 go_upto_region 1 with fail
 rw[←hX,←hC]
 have oC:Hid (w.heap.size≤C∧C<w.heap.size+1):=(show _∧_ from by omega)
 clear hX hXs hC
 go_wp2_with (first|(go_at_call 72;refine(KC.out _).mono ?_;rintro e w1 ⟨rfl,k1⟩)|(go_at_call 88;refine(KS.out _).mono ?_;rintro e w2 ⟨rfl,k2⟩)|(go_at_call 89;refine(KW.out _ (k1.trans k2)).mono ?_;rintro e w3 ⟨n2,a2,l2,c2,x2,rfl,hn2,k3⟩;obtain⟨p0,p1,p2,p3,p4,p5,p6,pf⟩:=hP.kept ((k1.trans k2).trans k3)))
 have kk:=hK.trans ((k1.trans k2).trans k3)
 refine qoz (v:=env s false none 0 0 0 n2 a2 l2 c2 x2) (by simp[results,Tryz.results52,go_sem,p0,p1,p2,p3,p4,p5,p6]) rfl ⟨⟨_,rfl,?_⟩,ze kk oC.out.1 _ _ _ _ _ _ _⟩
 have h0:RNp (qn (w.heap.size+1)) w3 (.agg #[.bool false,.slice none 0 0,.int .i64 0]) ⟨false,[],0⟩:=⟨_,rfl,RLp.nil _ _⟩
 exact((h0.en (v1:=.bool true) (v2:=.bool true) s hn2).put C (fun c hc=>by have:=oC.out;simp only[qn]at hc;omega) _ _ _ _ _ _ _).imp (fun c hc=>by simp only[qn]at hc ⊢;omega)
theorem qj7 (b n c:Int)(r:Nm)(hc3:(c==3)=false)(w:World)
  (KC:Hid (∀u,Calls Tryz.prog 72 #[.int .i64 b,.int .i64 n] u fun e w'=>e=.returned (.int .i64 c)∧Kept u w'))
  (KE:Hid (∀u,Calls Tryz.prog 75 #[.int .i64 b,.int .i64 n] u fun e w'=>(∃v,e=.returned v∧RNp (qn u.heap.size) w' v r)∧Kept u w')):
  Calls Tryz.prog 52 #[.int .i64 b,.int .i64 n] w fun e w'=>(∃r1,e=.returned r1∧EnAt (qn w.heap.size) w' r1 0 r oneN5)∧Kept w w':=by
 obtain⟨X,hX⟩:∃X,X=w.alloc qbi:=⟨_,rfl⟩
 have hK:Kept w X:=by rw[hX];exact(qo0 w).alloc _ _
 have hXs:X.heap.size=w.heap.size+1:=by rw[hX];simp
 have hP:P7 X w.heap.size (.int .i64 0) (.bool false) (.slice none 0 0) (.int .i64 0) (.bool false) (.slice none 0 0) (.int .i64 0):=by rw[hX];exact P7.new w _ _ _ _ _ _ _ _
 obtain⟨C,hC⟩:∃B,B=w.heap.size:=⟨_,rfl⟩
 rw[←hC]at hP
 have KE':Hid (∀u,Kept X u→Calls Tryz.prog 75 #[.int .i64 b,.int .i64 n] u fun e w'=>∃v,e=.returned v∧RNp (qn (w.heap.size+1)) w' v r∧Kept u w'):=fun u k=>by
  refine(KE.out u).mono ?_
  rintro e w' ⟨⟨v,rfl,hr⟩,k'⟩
  exact⟨v,rfl,hr.imp (fun b hb=>by have:=k.below.size;simp only[qn]at hb ⊢;omega),k'⟩
 have KW:Hid (∀u v,Kept X u→RNp (qn (w.heap.size+1)) u v r→Calls Tryz.prog 67 #[v] u fun e w'=>∃(n1:Bool) (a1:Option Addr) (l1 c1:Nat) (x1:Int) (n2:Bool) (a2:Option Addr) (l2 c2:Nat) (x2:Int),e=.returned (env 0 n1 a1 l1 c1 x1 n2 a2 l2 c2 x2)∧EnAt (qn (w.heap.size+1)) w' (env 0 n1 a1 l1 c1 x1 n2 a2 l2 c2 x2) 0 r oneN5∧Kept u w'):=fun u v k h=>by
  refine(xx _ u r v h).mono ?_
  rintro e w' ⟨⟨q,rfl,hq⟩,k'⟩
  have hq2:=hq.imp (Q:=qn (w.heap.size+1)) (fun b hb=>by
   have:=k.below.size
   simp only[PL,qn]at hb ⊢
   omega)
  obtain⟨n1,a1,l1,c1,x1,n2,a2,l2,c2,x2,rfl⟩:=hq.shape
  exact⟨n1,a1,l1,c1,x1,n2,a2,l2,c2,x2,rfl,hq2,k'⟩
 clear KE
 go_enter Tryz.func52,Tryz.ntmps52
 go_upto_region 1 with fail
 rw[←hX,←hC]
 have oC:Hid (w.heap.size≤C∧C<w.heap.size+1):=(show _∧_ from by omega)
 clear hX hXs hC
 go_wp2_with (first|(go_at_call 72;refine(KC.out _).mono ?_;rintro e w1 ⟨rfl,k1⟩)|(go_at_call 75;refine(KE'.out _ k1).mono ?_;rintro e w2 ⟨v,rfl,hv,k2⟩)|(go_at_call 67;refine(KW.out _ _ (k1.trans k2) hv).mono ?_;rintro e w3 ⟨n1,a1,l1,c1,x1,n2,a2,l2,c2,x2,rfl,hE,k3⟩;obtain⟨p0,p1,p2,p3,p4,p5,p6,pf⟩:=hP.kept ((k1.trans k2).trans k3)))
 have kk:=hK.trans ((k1.trans k2).trans k3)
 exact qoz (v:=env 0 n1 a1 l1 c1 x1 n2 a2 l2 c2 x2) (by simp[results,Tryz.results52,go_sem,p0,p1,p2,p3,p4,p5,p6]) rfl ⟨⟨_,rfl,(hE.put C (fun c hc=>by have:=oC.out;simp only[qn]at hc;omega) _ _ _ _ _ _ _).imp (fun c hc=>by simp only[qn]at hc ⊢;omega)⟩,ze kk oC.out.1 _ _ _ _ _ _ _⟩
theorem qnd (b:Int)(s:Int)(hs:bits .xor .i64 b (-9223372036854775808)=s)(w:World):Calls Tryz.prog 170 #[.int .i64 b,.int .i64 64] w fun e w'=>e=.returned (.int .i64 (if cls b 64=4 then 9221120237041090561 else s))∧Kept w w':=by
 go_enter Tryz.func170,Tryz.ntmps170
 go_wp2_with (first|(go_at_call 128;refine(kn b _).mono ?_;rintro e w1 ⟨rfl,hk1⟩))
 all_goals
  go_ret
  refine⟨qB ?_,hk1.alloc _ _⟩
  try unfold wrap64
  (try simp only[Bool.not_eq_true',Bool.not_eq_false',bne_iff_ne,bne_eq_false_iff_eq,beq_iff_eq,beq_eq_false_iff_ne,ne_eq]at *)<;>((repeat' split)<;>omega)
theorem qiu (b:Int)(w:World):Calls Tryz.prog 102 #[.int .i64 b,.int .i64 64] w fun e w'=>e=.returned (.int .i64 (if cls b 64=4 then 9221120237041090561 else if b=-9223372036854775808 then 0 else b))∧Kept w w':=by
 go_enter Tryz.func102,Tryz.ntmps102
 go_wp2_with (first|(go_at_call 128;refine(kn b _).mono ?_;rintro e w1 ⟨rfl,hk1⟩))
 all_goals
  go_ret
  refine⟨qB ?_,hk1.alloc _ _⟩
  try unfold wrap64
  (try simp only[Bool.not_eq_true',Bool.not_eq_false',bne_iff_ne,bne_eq_false_iff_eq,beq_iff_eq,beq_eq_false_iff_ne,ne_eq]at *)<;>((repeat' split)<;>omega)
theorem qli (b:Int)(hb1:-9223372036854775808≤b)(hb2:b≤9223372036854775807)(g:Int)(hg:bits .and .i64 b (-9223372036854775808)=g)(hx:cls b 64=4∨b≤9218868437227405312)(hq:g=0↔0≤b)(w:World):Calls Tryz.prog 179 #[.int .i64 b,.int .i64 64] w fun e w'=>e=.returned (.int .i64 (if cls b 64=4 then 9221120237041090561 else if b=9218868437227405312 then b else if b=-9223372036854775808 then 1 else if g=0 then b+1 else b-1))∧Kept w w':=by
 go_enter Tryz.func179,Tryz.ntmps179
 go_wp2_with (first|(go_at_call 128;refine(kn b _).mono ?_;rintro e w1 ⟨rfl,hk1⟩))
 all_goals
  go_ret
  refine⟨qB ?_,hk1.alloc _ _⟩
  try unfold wrap64
  (try simp only[Bool.not_eq_true',Bool.not_eq_false',bne_iff_ne,bne_eq_false_iff_eq,beq_iff_eq,beq_eq_false_iff_ne,ne_eq]at *)<;>((repeat' split)<;>omega)
theorem qne (b:Int)(s:Int)(hs:bits .xor .i64 b 2147483648=s)(w:World):Calls Tryz.prog 170 #[.int .i64 b,.int .i64 32] w fun e w'=>e=.returned (.int .i64 (if cls b 32=4 then 2143289345 else s))∧Kept w w':=by
 go_enter Tryz.func170,Tryz.ntmps170
 go_wp2_with (first|(go_at_call 128;refine(ko b _).mono ?_;rintro e w1 ⟨rfl,hk1⟩))
 all_goals
  go_ret
  refine⟨qB ?_,hk1.alloc _ _⟩
  try unfold wrap64
  (try simp only[Bool.not_eq_true',Bool.not_eq_false',bne_iff_ne,bne_eq_false_iff_eq,beq_iff_eq,beq_eq_false_iff_ne,ne_eq]at *)<;>((repeat' split)<;>omega)
theorem qiv (b:Int)(w:World):Calls Tryz.prog 102 #[.int .i64 b,.int .i64 32] w fun e w'=>e=.returned (.int .i64 (if cls b 32=4 then 2143289345 else if b=2147483648 then 0 else b))∧Kept w w':=by
 go_enter Tryz.func102,Tryz.ntmps102
 go_wp2_with (first|(go_at_call 128;refine(ko b _).mono ?_;rintro e w1 ⟨rfl,hk1⟩))
 all_goals
  go_ret
  refine⟨qB ?_,hk1.alloc _ _⟩
  try unfold wrap64
  (try simp only[Bool.not_eq_true',Bool.not_eq_false',bne_iff_ne,bne_eq_false_iff_eq,beq_iff_eq,beq_eq_false_iff_ne,ne_eq]at *)<;>((repeat' split)<;>omega)
theorem qlj (b:Int)(hb1:-9223372036854775808≤b)(hb2:b≤9223372036854775807)(g:Int)(hg:bits .and .i64 b 2147483648=g)(hx:cls b 32=4∨0≤b∧b<4294967296)(w:World):Calls Tryz.prog 179 #[.int .i64 b,.int .i64 32] w fun e w'=>e=.returned (.int .i64 (if cls b 32=4 then 2143289345 else if b=2139095040 then b else if b=2147483648 then 1 else if g=0 then b+1 else b-1))∧Kept w w':=by
 go_enter Tryz.func179,Tryz.ntmps179
 go_wp2_with (first|(go_at_call 128;refine(ko b _).mono ?_;rintro e w1 ⟨rfl,hk1⟩))
 all_goals
  go_ret
  refine⟨qB ?_,hk1.alloc _ _⟩
  try unfold wrap64
  (try simp only[Bool.not_eq_true',Bool.not_eq_false',bne_iff_ne,bne_eq_false_iff_eq,beq_iff_eq,beq_eq_false_iff_ne,ne_eq]at *)<;>((repeat' split)<;>omega)
theorem qn3 (b n:Int)(h1:(n==32)=false)(h2:(n==64)=false)(w:World):Calls Tryz.prog 170 #[.int .i64 b,.int .i64 n] w fun e w'=>e=.returned (.int .i64 (0))∧Kept w w':=by
 go_enter Tryz.func170,Tryz.ntmps170
 go_wp2_with (first|(go_at_call 128;refine(Qz b _ h1 h2 _).mono ?_;rintro e w1 ⟨rfl,hk1⟩))
 go_ret
 exact⟨rfl,hk1.alloc _ _⟩
theorem qlk (b n:Int)(h1:(n==32)=false)(h2:(n==64)=false)(w:World):Calls Tryz.prog 102 #[.int .i64 b,.int .i64 n] w fun e w'=>e=.returned (.int .i64 (0))∧Kept w w':=by
 go_enter Tryz.func102,Tryz.ntmps102
 go_wp2_with (first|(go_at_call 128;refine(Qz b _ h1 h2 _).mono ?_;rintro e w1 ⟨rfl,hk1⟩))
 go_ret
 exact⟨rfl,hk1.alloc _ _⟩
theorem qnf (b n:Int)(h1:(n==32)=false)(h2:(n==64)=false)(w:World):Calls Tryz.prog 179 #[.int .i64 b,.int .i64 n] w fun e w'=>e=.returned (.int .i64 (0))∧Kept w w':=by
 go_enter Tryz.func179,Tryz.ntmps179
 go_wp2_with (first|(go_at_call 128;refine(Qz b _ h1 h2 _).mono ?_;rintro e w1 ⟨rfl,hk1⟩))
 go_ret
 exact⟨rfl,hk1.alloc _ _⟩
theorem JB (b:Int)(h:cls b 64≠4):b%9223372036854775808≤9218868437227405312:=by
 unfold cls zX at h
 rw[if_pos rfl]at h
 split at h<;>omega
theorem yV (b n:Int)(hb1:-9223372036854775808≤b)(hb2:b≤9223372036854775807)(w:World):Calls Tryz.prog 170 #[.int .i64 b,.int .i64 n] w fun e w'=>e=.returned (.int .i64 (ngt b n))∧Kept w w':=by
 by_cases h64:n=64
 ·subst h64
  refine(qnd b _ (qjt b hb1 hb2) w).mono ?_
  rintro e w' ⟨rfl,hk⟩
  refine⟨qB ?_,hk⟩
  by_cases hc:cls b 64=4<;>simp[ngt,qj,jU,hc]
 ·by_cases h32:n=32
  ·subst h32
   refine(qne b _ rfl w).mono ?_
   rintro e w' ⟨rfl,hk⟩
   refine⟨qB ?_,hk⟩
   by_cases hc:cls b 32=4
   ·simp[ngt,qj,jU,hc]
   ·have hv:=qV b hc
    rw[qmo b hv.1 hv.2]
    simp[ngt,qj,hc]
  ·refine(qn3 b n (by simpa using h32) (by simpa using h64) w).mono ?_
   rintro e w' ⟨rfl,hk⟩
   exact⟨qB (by simp[ngt,jW b n h64 h32,Zi n h64 h32]),hk⟩
theorem qfl (b n:Int)(w:World):Calls Tryz.prog 102 #[.int .i64 b,.int .i64 n] w fun e w'=>e=.returned (.int .i64 (can b n))∧Kept w w':=by
 by_cases h64:n=64
 ·subst h64
  refine(qiu b w).mono ?_
  rintro e w' ⟨rfl,hk⟩
  refine⟨qB ?_,hk⟩
  by_cases hc:cls b 64=4<;>simp[can,qj,jU,hc]
 ·by_cases h32:n=32
  ·subst h32
   refine(qiv b w).mono ?_
   rintro e w' ⟨rfl,hk⟩
   refine⟨qB ?_,hk⟩
   by_cases hc:cls b 32=4<;>simp[can,qj,jU,hc]
  ·refine(qlk b n (by simpa using h32) (by simpa using h64) w).mono ?_
   rintro e w' ⟨rfl,hk⟩
   exact⟨qB (by simp[can,jW b n h64 h32,Zi n h64 h32]),hk⟩
theorem qiw (b n:Int)(hb1:-9223372036854775808≤b)(hb2:b≤9223372036854775807)(w:World):Calls Tryz.prog 179 #[.int .i64 b,.int .i64 n] w fun e w'=>e=.returned (.int .i64 (nxt b n))∧Kept w w':=by
 by_cases h64:n=64
 ·subst h64
  refine(qli b hb1 hb2 _ (Vn b hb1 hb2) ?_ (by split<;>omega) w).mono ?_
  ·by_cases hc:cls b 64=4
   ·exact Or.inl hc
   ·have:=JB b hc
    exact Or.inr (by omega)
  rintro e w' ⟨rfl,hk⟩
  refine⟨qB ?_,hk⟩
  by_cases hc:cls b 64=4
  ·simp[nxt,qj,jU,hc]
  ·have hi:qj b 64=true:=by simp[qj,hc]
   unfold nxt
   rw[if_neg hc,if_pos hi,if_pos rfl]
   (repeat' split)<;>omega
 ·by_cases h32:n=32
  ·subst h32
   refine(qlj b hb1 hb2 _ rfl ?_ w).mono ?_
   ·by_cases hc:cls b 32=4
    ·exact Or.inl hc
    ·exact Or.inr (qV b hc)
   rintro e w' ⟨rfl,hk⟩
   refine⟨qB ?_,hk⟩
   by_cases hc:cls b 32=4
   ·simp[nxt,qj,jU,hc]
   ·have hv:=qV b hc
    have hi:qj b 32=true:=by simp[qj,hc]
    rw[qgv b hv.1 hv.2]
    unfold nxt
    rw[if_neg hc,if_pos hi,if_neg (by decide:¬(32:Int)=64)]
    (repeat' split)<;>omega
  ·refine(qnf b n (by simpa using h32) (by simpa using h64) w).mono ?_
   rintro e w' ⟨rfl,hk⟩
   exact⟨qB (by simp[nxt,jW b n h64 h32,Zi n h64 h32]),hk⟩
theorem JC (n:Int):-9223372036854775808≤jU n∧jU n≤9223372036854775807:=by
 unfold jU
 (repeat' split)<;>omega
theorem zN (b n:Int)(h:qj b n=true):(n=64∧cls b 64≠4)∨(n=32∧cls b 32≠4):=by
 simp only[qj,qor]at h
 rcases h with ⟨rfl|rfl,h⟩
 ·exact Or.inl ⟨rfl,h⟩
 ·exact Or.inr ⟨rfl,h⟩
theorem qng (b n:Int)(hb1:-9223372036854775808≤b)(hb2:b≤9223372036854775807):-9223372036854775808≤ngt b n∧ngt b n≤9223372036854775807:=by
 have:=JC n
 by_cases hi:qj b n=true
 ·rcases zN b n hi with ⟨rfl,hc⟩|⟨rfl,hc⟩
  ·unfold ngt;rw[if_pos hi,if_pos rfl];split<;>omega
  ·have hv:=qV b hc
   unfold ngt;rw[if_pos hi,if_neg (by decide:¬(32:Int)=64)];split<;>omega
 ·unfold ngt;rw[if_neg hi];exact this
theorem qnh (b n:Int)(hb1:-9223372036854775808≤b)(hb2:b≤9223372036854775807):-9223372036854775808≤nxt b n∧nxt b n≤9223372036854775807:=by
 have:=JC n
 by_cases hi:qj b n=true
 ·rcases zN b n hi with ⟨rfl,hc⟩|⟨rfl,hc⟩
  ·have:=JB b hc
   unfold nxt;rw[if_pos hi,if_pos rfl];(repeat' split)<;>omega
  ·have hv:=qV b hc
   unfold nxt;rw[if_pos hi,if_neg (by decide:¬(32:Int)=64)];(repeat' split)<;>omega
 ·unfold nxt;rw[if_neg hi];exact this
def prv (b n:Int):Int:=ngt (nxt (ngt b n) n) n
theorem qix (b n:Int)(hb1:-9223372036854775808≤b)(hb2:b≤9223372036854775807)(w:World):Calls Tryz.prog 169 #[.int .i64 b,.int .i64 n] w fun e w'=>e=.returned (.int .i64 (prv b n))∧Kept w w':=by
 have q1:=qng b n hb1 hb2
 have q2:=qnh (ngt b n) n q1.1 q1.2
 go_enter Tryz.func169,Tryz.ntmps169
 go_wp2_with fail
 refine(yV b n hb1 hb2 _).mono ?_
 rintro e w1 ⟨rfl,hk1⟩
 go_wp2_with fail
 refine(qiw (ngt b n) n q1.1 q1.2 _).mono ?_
 rintro e w2 ⟨rfl,hk2⟩
 go_wp2_with fail
 refine(yV (nxt (ngt b n) n) n q2.1 q2.2 _).mono ?_
 rintro e w3 ⟨rfl,hk3⟩
 go_wp2
 go_ret
 exact⟨rfl,(hk1.trans hk2).trans hk3⟩
end Go.Proofs.YtaglkncdedeipaaGreatDoor
