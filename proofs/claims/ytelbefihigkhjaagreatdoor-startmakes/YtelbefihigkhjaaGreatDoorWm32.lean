/-  -/
import Derived.Test.YtelbefihigkhjaaGreatDoorWm31
import Derived.Test.YtelbefihigkhjaaGreatDoorWm18
import Derived.Test.YtelbefihigkhjaaGreatDoorWm19
namespace Go.Proofs.YtelbefihigkhjaaGreatDoor
open Go.ChangeShapes Go.WideShapes Go.ChangeAt Go.RowKit
set_option maxHeartbeats 16000000
set_option maxRecDepth 100000
set_option linter.unusedVariables false
set_option linter.unusedSimpArgs false
def trn (b:Nm):Nm:=⟨if b.mag.length=0 then b.neg else !b.neg,b.mag,b.exp⟩
def tms (a b:Nm):Nm:=nrm (a.neg != b.neg) (nv a.mag*nv b.mag) (a.exp+b.exp)
theorem Yf (P:Nat→Prop)(w:World)(n1 n2:Bool)(a1 a2:Option Addr)(l1 c1 l2 c2:Nat)(x1 x2:Int)(r:Nm)(m2:Bool)
  (KT:Hid (∀u,Kept w u→Calls Tryz.prog 203 #[.agg #[.bool n2,.slice a2 l2 c2,.int .i64 x2]] u fun e w'=>e=.returned (.agg #[.bool m2,.slice a2 l2 c2,.int .i64 x2])∧Kept u w'))
  (KP:Hid (∀u,Kept w u→Calls Tryz.prog 169 #[.agg #[.bool n1,.slice a1 l1 c1,.int .i64 x1],.agg #[.bool m2,.slice a2 l2 c2,.int .i64 x2]] u fun e w'=>(∃v,e=.returned v∧RNp (fun c=>(P c∧c<w.heap.size)∨u.heap.size≤c) w' v r)∧Kept u w')):
  Calls Tryz.prog 125 #[.agg #[.bool n1,.slice a1 l1 c1,.int .i64 x1],.agg #[.bool n2,.slice a2 l2 c2,.int .i64 x2]] w fun e w'=>(∃v,e=.returned v∧RNp (fun c=>P c∨w.heap.size≤c) w' v r)∧Kept w w':=by
 obtain⟨W,hW⟩:∃W,W=(((w.alloc (.cells #[.bool n1,.slice a1 l1 c1,.int .i64 x1] 78)).alloc (.cells #[.bool n2,.slice a2 l2 c2,.int .i64 x2] 78)).alloc zc):=⟨_,rfl⟩
 have hK:Kept w W:=by rw[hW];exact(((qlv w).alloc _ _).alloc _ _).alloc _ _
 have hWs:W.heap.size=w.heap.size+3:=by rw[hW];simp
 have HS:Hid (∀u,Kept W u→((u.cell? ⟨w.heap.size,0,none⟩=some (.bool n1)∧u.cell? ⟨w.heap.size,1,none⟩=some (.slice a1 l1 c1))∧u.cell? ⟨w.heap.size,2,none⟩=some (.int .i64 x1))∧(u.cell? ⟨w.heap.size+1,0,none⟩=some (.bool n2)∧u.cell? ⟨w.heap.size+1,1,none⟩=some (.slice a2 l2 c2))∧u.cell? ⟨w.heap.size+1,2,none⟩=some (.int .i64 x2)):=fun u k=>⟨⟨⟨((k.below.cell (p:=⟨w.heap.size,0,none⟩) (by show w.heap.size<W.heap.size;omega)).trans (by rw[hW];simp[go_sem])),((k.below.cell (p:=⟨w.heap.size,1,none⟩) (by show w.heap.size<W.heap.size;omega)).trans (by rw[hW];simp[go_sem]))⟩,((k.below.cell (p:=⟨w.heap.size,2,none⟩) (by show w.heap.size<W.heap.size;omega)).trans (by rw[hW];simp[go_sem]))⟩,⟨((k.below.cell (p:=⟨w.heap.size+1,0,none⟩) (by show w.heap.size+1<W.heap.size;omega)).trans (by rw[hW];simp[go_sem])),((k.below.cell (p:=⟨w.heap.size+1,1,none⟩) (by show w.heap.size+1<W.heap.size;omega)).trans (by rw[hW];simp[go_sem]))⟩,((k.below.cell (p:=⟨w.heap.size+1,2,none⟩) (by show w.heap.size+1<W.heap.size;omega)).trans (by rw[hW];simp[go_sem]))⟩
 have HC:Hid (W.cell? ⟨w.heap.size+1+1,0,none⟩=some (.bool false)∧W.cell? ⟨w.heap.size+1+1,1,none⟩=some (.slice none 0 0)∧W.cell? ⟨w.heap.size+1+1,2,none⟩=some (.int .i64 0)∧∀o,W.frozen? ⟨w.heap.size+1+1,o,none⟩=false):=by rw[hW];exact⟨by simp[go_sem],by simp[go_sem],by simp[go_sem],fun o=>by simp[go_sem]⟩
 go_enter Tryz.func125,Tryz.ntmps125
 go_upto_region 1 with fail
 rw[←hW]
 clear hW
 have kr0:=(qlv W).drew
 refine qlw (S:=fun u=>Kept w u∧((u.cell? ⟨w.heap.size,0,none⟩=some (.bool n1)∧u.cell? ⟨w.heap.size,1,none⟩=some (.slice a1 l1 c1))∧u.cell? ⟨w.heap.size,2,none⟩=some (.int .i64 x1))∧(u.cell? ⟨w.heap.size+1,0,none⟩=some (.bool n2)∧u.cell? ⟨w.heap.size+1,1,none⟩=some (.slice a2 l2 c2))∧u.cell? ⟨w.heap.size+1,2,none⟩=some (.int .i64 x2)) (by kernel_rfl) ⟨hK.trans kr0,HS.out _ kr0⟩ (fun hHeld0=>?_)
 refine tk (i:=0) (v:=?_) rfl ?_
 simp only[zz]
 refine tk (i:=1) (v:=?_) rfl ?_
 simp only[zz]
 refine qlt (rs:=[2]) (by kernel_rfl) (by simp) ?_
 refine qlr rfl (fun K hK9=>?_) qls
 go_simp
 go_wp2_with fail
 refine(KT.out _ (hK.trans kr0)).mono ?_
 rintro e x1 ⟨rfl,qq⟩
 have kr1:=kr0.trans qq
 refine hK9.out _ _ ⟨hK.trans kr1,HS.out _ kr1⟩ (fun hHeld1=>?_)
 clear hK9 K
 refine qlt (rs:=[3]) (by kernel_rfl) (by simp) ?_
 refine qlr rfl (fun K hK9=>?_) qls
 go_simp
 go_wp2_with fail
 refine(KP.out _ (hK.trans kr1)).mono ?_
 rintro e x2 ⟨⟨v,rfl,hN⟩,qq2⟩
 obtain⟨vn,va,vl,vc,vx,rfl⟩:=hN.shape5
 have kr2:=kr1.trans qq2
 refine hK9.out _ _ ⟨hK.trans kr2,HS.out _ kr2⟩ (fun hHeld2=>?_)
 clear hK9 K
 have hc:=HC.out
 obtain⟨f0,f1,f2,f3⟩:=qJ (w.heap.size+1+1) (by omega) kr2 hc.1 hc.2.1 hc.2.2.1 hc.2.2.2
 have kF:=(hK.trans kr2).setCell (p:=⟨w.heap.size+1+1,0,none⟩) (by show w.heap.size≤w.heap.size+1+1;omega) (.bool vn)|>.setCell (p:=⟨w.heap.size+1+1,1,none⟩) (by show w.heap.size≤w.heap.size+1+1;omega) (.slice va vl vc)|>.setCell (p:=⟨w.heap.size+1+1,2,none⟩) (by show w.heap.size≤w.heap.size+1+1;omega) (.int .i64 vx)
 refine qlt (rs:=[4]) (by kernel_rfl) (by simp) ?_
 refine qlr rfl (fun K hK9=>?_) qls
 go_simp
 refine hK9.out _ _ ⟨kF,by have q:=HS.out _ kr2;obtain⟨⟨⟨q0,q1⟩,q2⟩,⟨q3,q4⟩,q5⟩:=q;refine⟨⟨⟨?_,?_⟩,?_⟩,⟨?_,?_⟩,?_⟩<;>simp[go_sem,q0,q1,q2,q3,q4,q5]⟩ (fun hHeld9=>?_)
 clear hK9 K
 refine qlx (by kernel_rfl) ?_ _
 clear hHeld0 hHeld1 hHeld2 hHeld9
 have hd:=(hN.imp (Q:=fun c=>(P c∧c<w.heap.size)∨W.heap.size≤c) (fun b hb=>hb.imp id (qlp kr1.below.size))).done (w.heap.size+1+1) (fun b hb=>by rcases hb with h|h<;>omega) (.bool vn) (.slice va vl vc) (.int .i64 vx)
 go_wp2
 refine qlu (v:=.agg #[.bool vn,.slice va vl vc,.int .i64 vx]) (by simp[results,Tryz.results125,go_sem,f0,f1,f2]) rfl ⟨⟨_,rfl,hd.imp (fun b hb=>by rcases hb with h|h;exact Or.inl h.1;exact Or.inr (by omega))⟩,kF⟩
theorem Jz (P:Nat→Prop)(w:World)(n1 n2:Bool)(a1 a2:Option Addr)(l1 c1 l2 c2:Nat)(x1 x2:Int)(r:Nm)(z:Nat)(y:Int)(hy:IntKind.i64.wrap (x1+x2)=y)
  (KM:Hid (∀u,Kept w u→Calls Tryz.prog 200 #[.slice a1 l1 c1,.slice a2 l2 c2] u fun e w'=>(∃s,e=.returned s∧RLp (qj u.heap.size) w' s (digs z))∧Kept u w'))
  (hz:(digs z).length<1000000) (hr:nrm (!(n1==n2)) z y=r):
  Calls Tryz.prog 170 #[.agg #[.bool n1,.slice a1 l1 c1,.int .i64 x1],.agg #[.bool n2,.slice a2 l2 c2,.int .i64 x2]] w fun e w'=>(∃v,e=.returned v∧RNp (fun c=>P c∨w.heap.size≤c) w' v r)∧Kept w w':=by
 obtain⟨W,hW⟩:∃W,W=(((w.alloc (.cells #[.bool n1,.slice a1 l1 c1,.int .i64 x1] 78)).alloc (.cells #[.bool n2,.slice a2 l2 c2,.int .i64 x2] 78)).alloc zc):=⟨_,rfl⟩
 have hK:Kept w W:=by rw[hW];exact(((qlv w).alloc _ _).alloc _ _).alloc _ _
 have hWs:W.heap.size=w.heap.size+3:=by rw[hW];simp
 have HS:Hid (∀u,Kept W u→((u.cell? ⟨w.heap.size,0,none⟩=some (.bool n1)∧u.cell? ⟨w.heap.size,1,none⟩=some (.slice a1 l1 c1))∧u.cell? ⟨w.heap.size,2,none⟩=some (.int .i64 x1))∧(u.cell? ⟨w.heap.size+1,0,none⟩=some (.bool n2)∧u.cell? ⟨w.heap.size+1,1,none⟩=some (.slice a2 l2 c2))∧u.cell? ⟨w.heap.size+1,2,none⟩=some (.int .i64 x2)):=fun u k=>⟨⟨⟨((k.below.cell (p:=⟨w.heap.size,0,none⟩) (by show w.heap.size<W.heap.size;omega)).trans (by rw[hW];simp[go_sem])),((k.below.cell (p:=⟨w.heap.size,1,none⟩) (by show w.heap.size<W.heap.size;omega)).trans (by rw[hW];simp[go_sem]))⟩,((k.below.cell (p:=⟨w.heap.size,2,none⟩) (by show w.heap.size<W.heap.size;omega)).trans (by rw[hW];simp[go_sem]))⟩,⟨((k.below.cell (p:=⟨w.heap.size+1,0,none⟩) (by show w.heap.size+1<W.heap.size;omega)).trans (by rw[hW];simp[go_sem])),((k.below.cell (p:=⟨w.heap.size+1,1,none⟩) (by show w.heap.size+1<W.heap.size;omega)).trans (by rw[hW];simp[go_sem]))⟩,((k.below.cell (p:=⟨w.heap.size+1,2,none⟩) (by show w.heap.size+1<W.heap.size;omega)).trans (by rw[hW];simp[go_sem]))⟩
 have HC:Hid (W.cell? ⟨w.heap.size+1+1,0,none⟩=some (.bool false)∧W.cell? ⟨w.heap.size+1+1,1,none⟩=some (.slice none 0 0)∧W.cell? ⟨w.heap.size+1+1,2,none⟩=some (.int .i64 0)∧∀o,W.frozen? ⟨w.heap.size+1+1,o,none⟩=false):=by rw[hW];exact⟨by simp[go_sem],by simp[go_sem],by simp[go_sem],fun o=>by simp[go_sem]⟩
 have KN:Hid (∀u0 u {vs:Value},RLp (qj u0.heap.size) u vs (digs z)→Kept W u0→Kept W u→Calls Tryz.prog 192 #[.bool (!(n1==n2)),vs,.int .i64 y] u fun e w'=>(∃v,e=.returned v∧RNp (qj W.heap.size) w' v r)∧Kept u w'):=fun u0 u vs h k0 k=>by
  have:=yo u (!(n1==n2)) (digs z) vs h.rl (qL z) hz y
  rw[qC,hr]at this
  refine this.mono ?_
  rintro e w' ⟨⟨v,rfl,hv⟩,kk⟩
  exact⟨⟨v,rfl,hv.imp (fun b hb=>qlp k.below.size hb)⟩,kk⟩
 clear hr
 go_enter Tryz.func170,Tryz.ntmps170
 go_upto_region 1 with fail
 rw[←hW]
 clear hW
 have kr0:=(qlv W).drew
 refine qlw (S:=fun u=>Kept w u∧((u.cell? ⟨w.heap.size,0,none⟩=some (.bool n1)∧u.cell? ⟨w.heap.size,1,none⟩=some (.slice a1 l1 c1))∧u.cell? ⟨w.heap.size,2,none⟩=some (.int .i64 x1))∧(u.cell? ⟨w.heap.size+1,0,none⟩=some (.bool n2)∧u.cell? ⟨w.heap.size+1,1,none⟩=some (.slice a2 l2 c2))∧u.cell? ⟨w.heap.size+1,2,none⟩=some (.int .i64 x2)) (by kernel_rfl) ⟨hK.trans kr0,HS.out _ kr0⟩ (fun hHeld0=>?_)
 refine tk (i:=0) (v:=?_) rfl ?_
 simp only[zz]
 refine tk (i:=1) (v:=?_) rfl ?_
 simp only[zz]
 refine tk (i:=2) (v:=?_) rfl ?_
 simp only[zz]
 refine tk (i:=3) (v:=?_) rfl ?_
 simp only[zz]
 refine tk (i:=4) (v:=?_) rfl ?_
 simp only[zz]
 refine tk (i:=5) (v:=?_) rfl ?_
 simp only[zz]
 refine tk (i:=6) (v:=?_) rfl ?_
 simp only[zz]
 refine tk (i:=7) (v:=?_) rfl ?_
 simp only[zz]
 refine tk (i:=8) (v:=?_) rfl ?_
 simp only[zz]
 refine tk (i:=10) (v:=?_) rfl ?_
 simp only[zz]
 refine tk (i:=11) (v:=?_) rfl ?_
 simp only[zz]
 refine tk (i:=12) (v:=?_) rfl ?_
 simp only[zz]
 refine tk (i:=13) (v:=?_) rfl ?_
 simp only[zz]
 refine tk (i:=14) (v:=?_) rfl ?_
 simp only[zz]
 refine qlt (rs:=[9]) (by kernel_rfl) (by simp) ?_
 refine qlr rfl (fun K hK9=>?_) qls
 go_simp
 go_wp2_with fail
 refine(KM.out _ (hK.trans kr0)).mono ?_
 rintro e x1 ⟨⟨vs,rfl,hs⟩,qq⟩
 have kr1:=kr0.trans qq
 refine hK9.out _ _ ⟨hK.trans kr1,HS.out _ kr1⟩ (fun hHeld1=>?_)
 clear hK9 K
 refine qlt (rs:=[15]) (by kernel_rfl) (by simp) ?_
 refine qlr rfl (fun K hK9=>?_) qls
 go_simp
 go_wp2_with fail
 refine(KN.out _ _ hs kr0 kr1).mono ?_
 rintro e x2 ⟨⟨v,rfl,hN⟩,qq2⟩
 obtain⟨vn,va,vl,vc,vx,rfl⟩:=hN.shape5
 have kr2:=kr1.trans qq2
 refine hK9.out _ _ ⟨hK.trans kr2,HS.out _ kr2⟩ (fun hHeld2=>?_)
 clear hK9 K
 have hc:=HC.out
 obtain⟨f0,f1,f2,f3⟩:=qJ (w.heap.size+1+1) (by omega) kr2 hc.1 hc.2.1 hc.2.2.1 hc.2.2.2
 have kF:=(hK.trans kr2).setCell (p:=⟨w.heap.size+1+1,0,none⟩) (by show w.heap.size≤w.heap.size+1+1;omega) (.bool vn)|>.setCell (p:=⟨w.heap.size+1+1,1,none⟩) (by show w.heap.size≤w.heap.size+1+1;omega) (.slice va vl vc)|>.setCell (p:=⟨w.heap.size+1+1,2,none⟩) (by show w.heap.size≤w.heap.size+1+1;omega) (.int .i64 vx)
 refine qlt (rs:=[16]) (by kernel_rfl) (by simp) ?_
 refine qlr rfl (fun K hK9=>?_) qls
 go_simp
 refine hK9.out _ _ ⟨kF,by have q:=HS.out _ kr2;obtain⟨⟨⟨q0,q1⟩,q2⟩,⟨q3,q4⟩,q5⟩:=q;refine⟨⟨⟨?_,?_⟩,?_⟩,⟨?_,?_⟩,?_⟩<;>simp[go_sem,q0,q1,q2,q3,q4,q5]⟩ (fun hHeld9=>?_)
 clear hK9 K
 refine qlx (by kernel_rfl) ?_ _
 clear hHeld0 hHeld1 hHeld2 hHeld9
 have hd:=hN.done (w.heap.size+1+1) (fun b hb=>by simp[qj]at hb;omega) (.bool vn) (.slice va vl vc) (.int .i64 vx)
 go_wp2
 refine qlu (v:=.agg #[.bool vn,.slice va vl vc,.int .i64 vx]) (by simp[results,Tryz.results170,go_sem,f0,f1,f2]) rfl ⟨⟨_,rfl,hd.imp (fun b hb=>Or.inr (by simp[qj]at hb;omega))⟩,kF⟩
theorem qju (P:Nat→Prop)(w:World)(n1 n2:Bool)(a1 a2:Option Addr)(l1 c1 l2 c2:Nat)(x1 x2:Int)(r:Nm)(KP:Hid (∀u,Kept w u→Calls Tryz.prog 169 #[.agg #[.bool n1,.slice a1 l1 c1,.int .i64 x1],.agg #[.bool n2,.slice a2 l2 c2,.int .i64 x2]] u fun e w'=>(∃v,e=.returned v∧RNp (fun c=>(P c∧c<w.heap.size)∨u.heap.size≤c) w' v r)∧Kept u w')):Calls Tryz.prog 89 #[.agg #[.bool n1,.slice a1 l1 c1,.int .i64 x1],.agg #[.bool n2,.slice a2 l2 c2,.int .i64 x2]] w fun e w'=>(∃v,e=.returned v∧RNp (fun c=>P c∨w.heap.size≤c) w' v r)∧Kept w w':=by
 obtain⟨W,hW⟩:∃W,W=(((w.alloc (.cells #[.bool n1,.slice a1 l1 c1,.int .i64 x1] 78)).alloc (.cells #[.bool n2,.slice a2 l2 c2,.int .i64 x2] 78)).alloc zc):=⟨_,rfl⟩
 have hK:Kept w W:=by rw[hW];exact(((qlv w).alloc _ _).alloc _ _).alloc _ _
 have hWs:W.heap.size=w.heap.size+3:=by rw[hW];simp
 have HS:Hid (∀u,Kept W u→((u.cell? ⟨w.heap.size,0,none⟩=some (.bool n1)∧u.cell? ⟨w.heap.size,1,none⟩=some (.slice a1 l1 c1))∧u.cell? ⟨w.heap.size,2,none⟩=some (.int .i64 x1))∧(u.cell? ⟨w.heap.size+1,0,none⟩=some (.bool n2)∧u.cell? ⟨w.heap.size+1,1,none⟩=some (.slice a2 l2 c2))∧u.cell? ⟨w.heap.size+1,2,none⟩=some (.int .i64 x2)):=fun u k=>⟨⟨⟨((k.below.cell (p:=⟨w.heap.size,0,none⟩) (by show w.heap.size<W.heap.size;omega)).trans (by rw[hW];simp[go_sem])),((k.below.cell (p:=⟨w.heap.size,1,none⟩) (by show w.heap.size<W.heap.size;omega)).trans (by rw[hW];simp[go_sem]))⟩,((k.below.cell (p:=⟨w.heap.size,2,none⟩) (by show w.heap.size<W.heap.size;omega)).trans (by rw[hW];simp[go_sem]))⟩,⟨((k.below.cell (p:=⟨w.heap.size+1,0,none⟩) (by show w.heap.size+1<W.heap.size;omega)).trans (by rw[hW];simp[go_sem])),((k.below.cell (p:=⟨w.heap.size+1,1,none⟩) (by show w.heap.size+1<W.heap.size;omega)).trans (by rw[hW];simp[go_sem]))⟩,((k.below.cell (p:=⟨w.heap.size+1,2,none⟩) (by show w.heap.size+1<W.heap.size;omega)).trans (by rw[hW];simp[go_sem]))⟩
 have HC:Hid (W.cell? ⟨w.heap.size+1+1,0,none⟩=some (.bool false)∧W.cell? ⟨w.heap.size+1+1,1,none⟩=some (.slice none 0 0)∧W.cell? ⟨w.heap.size+1+1,2,none⟩=some (.int .i64 0)∧∀o,W.frozen? ⟨w.heap.size+1+1,o,none⟩=false):=by rw[hW];exact⟨by simp[go_sem],by simp[go_sem],by simp[go_sem],fun o=>by simp[go_sem]⟩
 go_enter Tryz.func89,Tryz.ntmps89
 go_upto_region 1 with fail
 rw[←hW]
 clear hW
 have e0:=HS.out _ (qlv W)
 go_wp2_with fail
 refine(KP.out _ hK).mono ?_
 rintro e x2 ⟨⟨v,rfl,hN⟩,kr2⟩
 obtain⟨vn,va,vl,vc,vx,rfl⟩:=hN.shape5
 have hc:=HC.out
 obtain⟨f0,f1,f2,f3⟩:=qJ (w.heap.size+1+1) (by omega) kr2 hc.1 hc.2.1 hc.2.2.1 hc.2.2.2
 have kF:=(hK.trans kr2).setCell (p:=⟨w.heap.size+1+1,0,none⟩) (by show w.heap.size≤w.heap.size+1+1;omega) (.bool vn)|>.setCell (p:=⟨w.heap.size+1+1,1,none⟩) (by show w.heap.size≤w.heap.size+1+1;omega) (.slice va vl vc)|>.setCell (p:=⟨w.heap.size+1+1,2,none⟩) (by show w.heap.size≤w.heap.size+1+1;omega) (.int .i64 vx)
 have hd:=(hN.imp (Q:=fun c=>(P c∧c<w.heap.size)∨W.heap.size≤c) (fun b hb=>hb.imp id (fun h=>h))).done (w.heap.size+1+1) (fun b hb=>by rcases hb with h|h<;>omega) (.bool vn) (.slice va vl vc) (.int .i64 vx)
 go_wp2
 refine qlu (v:=.agg #[.bool vn,.slice va vl vc,.int .i64 vx]) (by simp[results,Tryz.results89,go_sem,f0,f1,f2]) rfl ⟨⟨_,rfl,hd.imp (fun b hb=>by rcases hb with h|h;exact Or.inl h.1;exact Or.inr (by omega))⟩,kF⟩
theorem qhk (P:Nat→Prop)(w:World)(n1 n2:Bool)(a1 a2:Option Addr)(l1 c1 l2 c2:Nat)(x1 x2:Int)(r:Nm)(KP:Hid (∀u,Kept w u→Calls Tryz.prog 125 #[.agg #[.bool n1,.slice a1 l1 c1,.int .i64 x1],.agg #[.bool n2,.slice a2 l2 c2,.int .i64 x2]] u fun e w'=>(∃v,e=.returned v∧RNp (fun c=>(P c∧c<w.heap.size)∨u.heap.size≤c) w' v r)∧Kept u w')):Calls Tryz.prog 39 #[.agg #[.bool n1,.slice a1 l1 c1,.int .i64 x1],.agg #[.bool n2,.slice a2 l2 c2,.int .i64 x2]] w fun e w'=>(∃v,e=.returned v∧RNp (fun c=>P c∨w.heap.size≤c) w' v r)∧Kept w w':=by
 obtain⟨W,hW⟩:∃W,W=(((w.alloc (.cells #[.bool n1,.slice a1 l1 c1,.int .i64 x1] 78)).alloc (.cells #[.bool n2,.slice a2 l2 c2,.int .i64 x2] 78)).alloc zc):=⟨_,rfl⟩
 have hK:Kept w W:=by rw[hW];exact(((qlv w).alloc _ _).alloc _ _).alloc _ _
 have hWs:W.heap.size=w.heap.size+3:=by rw[hW];simp
 have HS:Hid (∀u,Kept W u→((u.cell? ⟨w.heap.size,0,none⟩=some (.bool n1)∧u.cell? ⟨w.heap.size,1,none⟩=some (.slice a1 l1 c1))∧u.cell? ⟨w.heap.size,2,none⟩=some (.int .i64 x1))∧(u.cell? ⟨w.heap.size+1,0,none⟩=some (.bool n2)∧u.cell? ⟨w.heap.size+1,1,none⟩=some (.slice a2 l2 c2))∧u.cell? ⟨w.heap.size+1,2,none⟩=some (.int .i64 x2)):=fun u k=>⟨⟨⟨((k.below.cell (p:=⟨w.heap.size,0,none⟩) (by show w.heap.size<W.heap.size;omega)).trans (by rw[hW];simp[go_sem])),((k.below.cell (p:=⟨w.heap.size,1,none⟩) (by show w.heap.size<W.heap.size;omega)).trans (by rw[hW];simp[go_sem]))⟩,((k.below.cell (p:=⟨w.heap.size,2,none⟩) (by show w.heap.size<W.heap.size;omega)).trans (by rw[hW];simp[go_sem]))⟩,⟨((k.below.cell (p:=⟨w.heap.size+1,0,none⟩) (by show w.heap.size+1<W.heap.size;omega)).trans (by rw[hW];simp[go_sem])),((k.below.cell (p:=⟨w.heap.size+1,1,none⟩) (by show w.heap.size+1<W.heap.size;omega)).trans (by rw[hW];simp[go_sem]))⟩,((k.below.cell (p:=⟨w.heap.size+1,2,none⟩) (by show w.heap.size+1<W.heap.size;omega)).trans (by rw[hW];simp[go_sem]))⟩
 have HC:Hid (W.cell? ⟨w.heap.size+1+1,0,none⟩=some (.bool false)∧W.cell? ⟨w.heap.size+1+1,1,none⟩=some (.slice none 0 0)∧W.cell? ⟨w.heap.size+1+1,2,none⟩=some (.int .i64 0)∧∀o,W.frozen? ⟨w.heap.size+1+1,o,none⟩=false):=by rw[hW];exact⟨by simp[go_sem],by simp[go_sem],by simp[go_sem],fun o=>by simp[go_sem]⟩
 go_enter Tryz.func39,Tryz.ntmps39
 go_upto_region 1 with fail
 rw[←hW]
 clear hW
 have e0:=HS.out _ (qlv W)
 go_wp2_with fail
 refine(KP.out _ hK).mono ?_
 rintro e x2 ⟨⟨v,rfl,hN⟩,kr2⟩
 obtain⟨vn,va,vl,vc,vx,rfl⟩:=hN.shape5
 have hc:=HC.out
 obtain⟨f0,f1,f2,f3⟩:=qJ (w.heap.size+1+1) (by omega) kr2 hc.1 hc.2.1 hc.2.2.1 hc.2.2.2
 have kF:=(hK.trans kr2).setCell (p:=⟨w.heap.size+1+1,0,none⟩) (by show w.heap.size≤w.heap.size+1+1;omega) (.bool vn)|>.setCell (p:=⟨w.heap.size+1+1,1,none⟩) (by show w.heap.size≤w.heap.size+1+1;omega) (.slice va vl vc)|>.setCell (p:=⟨w.heap.size+1+1,2,none⟩) (by show w.heap.size≤w.heap.size+1+1;omega) (.int .i64 vx)
 have hd:=(hN.imp (Q:=fun c=>(P c∧c<w.heap.size)∨W.heap.size≤c) (fun b hb=>hb.imp id (fun h=>h))).done (w.heap.size+1+1) (fun b hb=>by rcases hb with h|h<;>omega) (.bool vn) (.slice va vl vc) (.int .i64 vx)
 go_wp2
 refine qlu (v:=.agg #[.bool vn,.slice va vl vc,.int .i64 vx]) (by simp[results,Tryz.results39,go_sem,f0,f1,f2]) rfl ⟨⟨_,rfl,hd.imp (fun b hb=>by rcases hb with h|h;exact Or.inl h.1;exact Or.inr (by omega))⟩,kF⟩
theorem qhl (P:Nat→Prop)(w:World)(n1 n2:Bool)(a1 a2:Option Addr)(l1 c1 l2 c2:Nat)(x1 x2:Int)(r:Nm)(KP:Hid (∀u,Kept w u→Calls Tryz.prog 170 #[.agg #[.bool n1,.slice a1 l1 c1,.int .i64 x1],.agg #[.bool n2,.slice a2 l2 c2,.int .i64 x2]] u fun e w'=>(∃v,e=.returned v∧RNp (fun c=>(P c∧c<w.heap.size)∨u.heap.size≤c) w' v r)∧Kept u w')):Calls Tryz.prog 90 #[.agg #[.bool n1,.slice a1 l1 c1,.int .i64 x1],.agg #[.bool n2,.slice a2 l2 c2,.int .i64 x2]] w fun e w'=>(∃v,e=.returned v∧RNp (fun c=>P c∨w.heap.size≤c) w' v r)∧Kept w w':=by
 obtain⟨W,hW⟩:∃W,W=(((w.alloc (.cells #[.bool n1,.slice a1 l1 c1,.int .i64 x1] 78)).alloc (.cells #[.bool n2,.slice a2 l2 c2,.int .i64 x2] 78)).alloc zc):=⟨_,rfl⟩
 have hK:Kept w W:=by rw[hW];exact(((qlv w).alloc _ _).alloc _ _).alloc _ _
 have hWs:W.heap.size=w.heap.size+3:=by rw[hW];simp
 have HS:Hid (∀u,Kept W u→((u.cell? ⟨w.heap.size,0,none⟩=some (.bool n1)∧u.cell? ⟨w.heap.size,1,none⟩=some (.slice a1 l1 c1))∧u.cell? ⟨w.heap.size,2,none⟩=some (.int .i64 x1))∧(u.cell? ⟨w.heap.size+1,0,none⟩=some (.bool n2)∧u.cell? ⟨w.heap.size+1,1,none⟩=some (.slice a2 l2 c2))∧u.cell? ⟨w.heap.size+1,2,none⟩=some (.int .i64 x2)):=fun u k=>⟨⟨⟨((k.below.cell (p:=⟨w.heap.size,0,none⟩) (by show w.heap.size<W.heap.size;omega)).trans (by rw[hW];simp[go_sem])),((k.below.cell (p:=⟨w.heap.size,1,none⟩) (by show w.heap.size<W.heap.size;omega)).trans (by rw[hW];simp[go_sem]))⟩,((k.below.cell (p:=⟨w.heap.size,2,none⟩) (by show w.heap.size<W.heap.size;omega)).trans (by rw[hW];simp[go_sem]))⟩,⟨((k.below.cell (p:=⟨w.heap.size+1,0,none⟩) (by show w.heap.size+1<W.heap.size;omega)).trans (by rw[hW];simp[go_sem])),((k.below.cell (p:=⟨w.heap.size+1,1,none⟩) (by show w.heap.size+1<W.heap.size;omega)).trans (by rw[hW];simp[go_sem]))⟩,((k.below.cell (p:=⟨w.heap.size+1,2,none⟩) (by show w.heap.size+1<W.heap.size;omega)).trans (by rw[hW];simp[go_sem]))⟩
 have HC:Hid (W.cell? ⟨w.heap.size+1+1,0,none⟩=some (.bool false)∧W.cell? ⟨w.heap.size+1+1,1,none⟩=some (.slice none 0 0)∧W.cell? ⟨w.heap.size+1+1,2,none⟩=some (.int .i64 0)∧∀o,W.frozen? ⟨w.heap.size+1+1,o,none⟩=false):=by rw[hW];exact⟨by simp[go_sem],by simp[go_sem],by simp[go_sem],fun o=>by simp[go_sem]⟩
 go_enter Tryz.func90,Tryz.ntmps90
 go_upto_region 1 with fail
 rw[←hW]
 clear hW
 have e0:=HS.out _ (qlv W)
 go_wp2_with fail
 refine(KP.out _ hK).mono ?_
 rintro e x2 ⟨⟨v,rfl,hN⟩,kr2⟩
 obtain⟨vn,va,vl,vc,vx,rfl⟩:=hN.shape5
 have hc:=HC.out
 obtain⟨f0,f1,f2,f3⟩:=qJ (w.heap.size+1+1) (by omega) kr2 hc.1 hc.2.1 hc.2.2.1 hc.2.2.2
 have kF:=(hK.trans kr2).setCell (p:=⟨w.heap.size+1+1,0,none⟩) (by show w.heap.size≤w.heap.size+1+1;omega) (.bool vn)|>.setCell (p:=⟨w.heap.size+1+1,1,none⟩) (by show w.heap.size≤w.heap.size+1+1;omega) (.slice va vl vc)|>.setCell (p:=⟨w.heap.size+1+1,2,none⟩) (by show w.heap.size≤w.heap.size+1+1;omega) (.int .i64 vx)
 have hd:=(hN.imp (Q:=fun c=>(P c∧c<w.heap.size)∨W.heap.size≤c) (fun b hb=>hb.imp id (fun h=>h))).done (w.heap.size+1+1) (fun b hb=>by rcases hb with h|h<;>omega) (.bool vn) (.slice va vl vc) (.int .i64 vx)
 go_wp2
 refine qlu (v:=.agg #[.bool vn,.slice va vl vc,.int .i64 vx]) (by simp[results,Tryz.results90,go_sem,f0,f1,f2]) rfl ⟨⟨_,rfl,hd.imp (fun b hb=>by rcases hb with h|h;exact Or.inl h.1;exact Or.inr (by omega))⟩,kF⟩
end Go.Proofs.YtelbefihigkhjaaGreatDoor
namespace Go.Proofs.YtelbefihigkhjaaGreatDoor
open Go.ChangeShapes Go.WideShapes Go.ChangeAt Go.RowKit
set_option maxHeartbeats 16000000
set_option maxRecDepth 100000
set_option linter.unusedVariables false
set_option linter.unusedSimpArgs false
theorem jL (a:Nm)(h:vld a=true):Cn a.mag∧a.mag.length≤2000∧-1048576≤a.exp∧a.exp≤1048576:=by
 obtain⟨n,L,x⟩:=a
 by_cases e:L=[]
 ·subst e
  obtain⟨-,rfl⟩:=ja _ _ h
  exact⟨⟨Dg.nil,fun h=>absurd rfl h⟩,by simp,by dsimp only;omega,by dsimp only;omega⟩
 ·obtain⟨p1,p2,p3,p4,p5,p6⟩:=qw n L x e h
  exact⟨⟨p2,fun _=>p3⟩,p1,p5,p6⟩
theorem qe0 (b:Nm)(h:b.mag≠[]):trn b=ng b:=by
 have:¬b.mag.length=0:=fun e=>h (List.length_eq_zero_iff.1 e)
 simp[trn,ng,this]
theorem YU (b:Nm)(h:b.mag=[]):trn b=b:=by
 obtain⟨n,L,x⟩:=b
 dsimp only at h
 subst h
 rfl
theorem YV (b:Nm)(h:vld b=true):vld (trn b)=true:=by
 by_cases e:b.mag=[]
 ·rw[YU b e];exact h
 ·rw[qe0 b e];exact VV b.neg b.mag b.exp h e
theorem qbh (a b:Nat)(ha:a≠0)(hb:b≠0):bl a+bl b-1≤bl (a*b):=by
 have h1:=qu a ha
 have h2:=qu b hb
 have h3:2^(bl a-1)*2^(bl b-1)≤a*b:=Nat.mul_le_mul h1.1 h2.1
 rw[←qlg]at h3
 have:=qdc _ _ h3
 omega
theorem qhm (a b:Nm)(ha:vld a=true)(hb:vld b=true):Qs a b=if vld (tms a b)=true then some (tms a b)else none:=by
 obtain⟨n1,L1,x1⟩:=a
 obtain⟨n2,L2,x2⟩:=b
 have q1:=jL _ ha
 have q2:=jL _ hb
 unfold Qs tms
 dsimp only at *
 have b1:bl (nv L1)≤60000:=qlp (qN _ _ (qV L1 q1.1.1)) (by omega)
 have b2:bl (nv L2)≤60000:=qlp (qN _ _ (qV L2 q2.1.1)) (by omega)
 rw[←kJ]
 by_cases hfit:(bl (nv L1):Int)+(bl (nv L2):Int)-1≤60000∧-1048576≤x1+x2∧x1+x2≤1048576
 ·rw[if_pos hfit]
 ·rw[if_neg hfit]
  by_cases e1:L1=[]
  ·subst e1
   obtain⟨-,rfl⟩:=ja _ _ ha
   exfalso
   apply hfit
   refine⟨?_,by omega,by omega⟩
   have:bl (nv [])=0:=by simp[nv,bl]
   rw[this]
   omega
  by_cases e2:L2=[]
  ·subst e2
   obtain⟨-,rfl⟩:=ja _ _ hb
   exfalso
   apply hfit
   refine⟨?_,by omega,by omega⟩
   have:bl (nv [])=0:=by simp[nv,bl]
   rw[this]
   omega
  obtain⟨p1,p2,p3,p4,p5,p6⟩:=qw n1 L1 x1 e1 ha
  obtain⟨r1,r2,r3,r4,r5,r6⟩:=qw n2 L2 x2 e2 hb
  have o1:=xz L1 p2 p4
  have o2:=xz L2 r2 r4
  have o3:nv L1*nv L2%2=1:=by rw[Nat.mul_mod,o1,o2]
  have hz:=ya _ o3
  have hge:=qbh (nv L1) (nv L2) (by omega) (by omega)
  unfold frm
  rw[if_neg (by omega),hz,if_neg]
  rintro⟨g1,g2,g3⟩
  apply hfit
  simp only[Int.natCast_zero,Int.add_zero]at g2 g3
  have hw:wrap64 (x1+x2)=x1+x2:=by unfold wrap64;omega
  rw[hw]at g2 g3
  exact⟨by omega,g2,g3⟩
theorem XR (n1 n2:Bool)(L1 L2:List Int)(x1 x2:Int)(h1:L1≠[])(h2:L2≠[])(hv1:vld ⟨n1,L1,x1⟩=true)(hv2:vld ⟨n2,L2,x2⟩=true)(hlt:x1<x2)(hfar:60001<x2+(bl (nv L2):Int)-x1)(neg:Bool)(T:Int)(hT:T=sg n1 ((nv L1:Nat):Int)+sg n2 ((nv L2*2^(x2-x1).toNat:Nat):Int)):frm neg T.natAbs x1=none:=by
 obtain⟨p1,p2,p3,p4,p5,p6⟩:=qw n1 L1 x1 h1 hv1
 obtain⟨r1,r2,r3,r4,r5,r6⟩:=qw n2 L2 x2 h2 hv2
 have o1:=xz L1 p2 p4
 have v2:=jr n2 L2 x2 h2 hv2
 obtain⟨k,hk⟩:∃k,(x2-x1).toNat=k:=⟨_,rfl⟩
 rw[hk]at hT
 have hk1:0<k:=by omega
 obtain⟨N,hN⟩:∃N:Nat,N=60000:=⟨_,rfl⟩
 have lt1:nv L1<2^N:=qlf (qV L1 p2) (qlh (by decide) (by omega))
 have hb:=xC (nv L2) k (by omega)
 have hge:2^(N+1)≤nv L2*2^k:=by
  have:=(qu (nv L2*2^k) (by have:=Nat.mul_pos v2 (qle k);omega)).1
  refine qlp (qlh (by decide) ?_) this
  rw[hb]
  omega
 have hev:nv L2*2^k%2=0:=by
  obtain⟨j,rfl⟩:∃j,k=j+1:=⟨k-1,by omega⟩
  rw[qlq,←qlk]
  omega
 generalize nv L2*2^k=Y at *
 rw[qlq]at hge
 have habs:2^N≤T.natAbs:=by
  rw[hT]
  cases n1<;>cases n2<;>simp only[sg,Bool.false_eq_true,if_false,if_true]<;>omega
 have hodd:T.natAbs%2=1:=by
  rw[hT]
  cases n1<;>cases n2<;>simp only[sg,Bool.false_eq_true,if_false,if_true]<;>omega
 have hz:=ya _ hodd
 have hbl:=qdc _ _ habs
 unfold frm
 rw[if_neg (by omega),hz,if_neg]
 rintro⟨g1,-,-⟩
 omega
theorem JA (a b:Nm)(ha:vld a=true)(hb:vld b=true):xw a b=if vld (pls a b)=true then some (pls a b)else none:=by
 obtain⟨n1,L1,x1⟩:=a
 obtain⟨n2,L2,x2⟩:=b
 unfold xw pls
 dsimp only
 by_cases e1:L1=[]
 ·rw[if_pos e1,if_pos e1,if_pos hb]
  by_cases e2:L2=[]
  ·subst e2
   obtain⟨rfl,rfl⟩:=ja _ _ hb
   rw[if_pos rfl]
  ·rw[if_neg e2]
 ·rw [if_neg e1,if_neg e1]
  by_cases e2:L2=[]
  ·rw[if_pos e2,if_pos e2,if_pos ha]
  ·rw[if_neg e2,if_neg e2,←kJ]
   unfold qd6
   dsimp only
   by_cases hr:max (tp ⟨n1,L1,x1⟩) (tp ⟨n2,L2,x2⟩)-min x1 x2≤60001
   ·rw[if_pos hr]
   ·rw[if_neg hr]
    have q1:=jL _ ha
    have q2:=jL _ hb
    have b1:bl (nv L1)≤60000:=qlp (qN _ _ (qV L1 q1.1.1)) (by have:=q1.2.1;dsimp only at this;omega)
    have b2:bl (nv L2)≤60000:=qlp (qN _ _ (qV L2 q2.1.1)) (by have:=q2.2.1;dsimp only at this;omega)
    unfold tp at hr
    dsimp only at hr
    rcases Int.lt_trichotomy x1 x2 with h|h|h
    ·have hm:min x1 x2=x1:=by omega
     rw[hm]at hr ⊢
     refine(XR n1 n2 L1 L2 x1 x2 e1 e2 ha hb h (by omega) _ _ ?_).symm
     rw[kL n1 n2 L1 L2 x1 x2 x1 0 (x2-x1).toNat (by omega) rfl,Nat.pow_zero,Nat.mul_one]
    ·exfalso
     omega
    ·have hm:min x1 x2=x2:=by omega
     rw[hm]at hr ⊢
     refine(XR n2 n1 L2 L1 x2 x1 e2 e1 hb ha h (by omega) _ _ ?_).symm
     rw[kL n1 n2 L1 L2 x1 x2 x2 (x1-x2).toNat 0 rfl (by omega),Nat.pow_zero,Nat.mul_one,Int.add_comm]
theorem qhn (a b:Nm)(ha:vld a=true)(hb:vld b=true):xw a (ng b)=if vld (pls a (trn b))=true then some (pls a (trn b))else none:=by
 by_cases e:b.mag=[]
 ·rw[YU b e,←JA a b ha hb]
  unfold xw ng
  dsimp only
  rw[if_pos e,if_pos e,if_pos e,if_pos e]
 ·rw[←qe0 b e]
  exact JA a (trn b) ha (YV b hb)
abbrev PL (P:Nat→Prop)(w:World):Nat→Prop:=fun c=>P c∨w.heap.size≤c
theorem qho {P:Nat→Prop}{w:World}{n:Bool}{ao:Option Addr}{c:Nat}{L:List Int}{x:Int}(h:RNp P w (.agg #[.bool n,.slice ao L.length c,.int .i64 x]) ⟨n,L,x⟩):RNp P w (.agg #[.bool (if L.length=0 then n else !n),.slice ao L.length c,.int .i64 x]) (trn ⟨n,L,x⟩):=by
 obtain⟨s,e,hs⟩:=h
 cases e
 exact⟨_,rfl,hs⟩
theorem qbi (P:Nat→Prop)(w:World)(a b:Nm)(va vb:Value)(ha:RNp P w va a)(hb:RNp P w vb b)(ca:vld a=true)(cb:vld b=true):
  Calls Tryz.prog 125 #[va,vb] w fun e w'=>(∃v,e=.returned v∧RNp (PL P w) w' v (pls a (trn b)))∧Kept w w':=by
 have qa:=jL a ca
 have qb:=jL _ (YV b cb)
 obtain⟨n1,L1,x1⟩:=a
 obtain⟨n2,L2,x2⟩:=b
 obtain⟨a1,c1,rfl,-⟩:=ha.shape
 obtain⟨a2,c2,rfl,-⟩:=hb.shape
 refine Yf P w n1 n2 a1 a2 L1.length c1 L2.length c2 x1 x2 _ (if L2.length=0 then n2 else !n2) (fun u k=>Qk n2 a2 L2.length c2 x2 u) (fun u k=>?_)
 exact QF _ u ⟨n1,L1,x1⟩ (trn ⟨n2,L2,x2⟩) _ _ (ha.here.kept k) (qho (hb.here.kept k)) qa.1 qb.1 (by have:=qa.2.1;omega) (by have:=qb.2.1;omega) (by have:=qa.2.2;omega) (by have:=qb.2.2;omega)
theorem qbj (P:Nat→Prop)(w:World)(a b:Nm)(va vb:Value)(ha:RNp P w va a)(hb:RNp P w vb b)(ca:vld a=true)(cb:vld b=true):
  Calls Tryz.prog 89 #[va,vb] w fun e w'=>(∃v,e=.returned v∧RNp (PL P w) w' v (pls a b))∧Kept w w':=by
 have qa:=jL a ca
 have qb:=jL b cb
 obtain⟨n1,L1,x1⟩:=a
 obtain⟨n2,L2,x2⟩:=b
 obtain⟨a1,c1,rfl,-⟩:=ha.shape
 obtain⟨a2,c2,rfl,-⟩:=hb.shape
 exact qju P w n1 n2 a1 a2 L1.length c1 L2.length c2 x1 x2 _ (fun u k=>QF _ u ⟨n1,L1,x1⟩ ⟨n2,L2,x2⟩ _ _ (ha.here.kept k) (hb.here.kept k) qa.1 qb.1 (by have:=qa.2.1;omega) (by have:=qb.2.1;omega) (by have:=qa.2.2;omega) (by have:=qb.2.2;omega))
theorem Yg (P:Nat→Prop)(w:World)(a b:Nm)(va vb:Value)(ha:RNp P w va a)(hb:RNp P w vb b)(ca:vld a=true)(cb:vld b=true):
  Calls Tryz.prog 39 #[va,vb] w fun e w'=>(∃v,e=.returned v∧RNp (PL P w) w' v (pls a (trn b)))∧Kept w w':=by
 obtain⟨n1,L1,x1⟩:=a
 obtain⟨n2,L2,x2⟩:=b
 obtain⟨a1,c1,rfl,-⟩:=ha.shape
 obtain⟨a2,c2,rfl,-⟩:=hb.shape
 exact qhk P w n1 n2 a1 a2 L1.length c1 L2.length c2 x1 x2 _ (fun u k=>qbi _ u ⟨n1,L1,x1⟩ ⟨n2,L2,x2⟩ _ _ (ha.here.kept k) (hb.here.kept k) ca cb)
theorem XS (P:Nat→Prop)(w:World)(a b:Nm)(va vb:Value)(ha:RNp P w va a)(hb:RNp P w vb b)(ca:vld a=true)(cb:vld b=true):
  Calls Tryz.prog 170 #[va,vb] w fun e w'=>(∃v,e=.returned v∧RNp (PL P w) w' v (tms a b))∧Kept w w':=by
 have qa:=jL a ca
 have qb:=jL b cb
 obtain⟨n1,L1,x1⟩:=a
 obtain⟨n2,L2,x2⟩:=b
 obtain⟨a1,c1,rfl,hra⟩:=ha.shape
 obtain⟨a2,c2,rfl,hrb⟩:=hb.shape
 dsimp only at *
 have d1:=kK qa.1
 have d2:=kK qb.1
 refine Jz P w n1 n2 a1 a2 L1.length c1 L2.length c2 x1 x2 _ (nv L1*nv L2) (x1+x2) (by rw[qc];omega) (fun u k=>?_) ?_ rfl
 ·have:=vO u (nv L1) (nv L2) (.slice a1 L1.length c1) (.slice a2 L2.length c2) (by rw[d1];exact hra.rl.kept k) (by rw[d2];exact hrb.rl.kept k) (by rw[d1];omega) (by rw[d2];omega)
  exact this
 ·obtain⟨N,hN⟩:∃N:Nat,N=4000:=⟨_,rfl⟩
  have h1:=qV L1 qa.1.1
  have h2:=qV L2 qb.1.1
  have h3:nv L1*nv L2<2^(30*N):=by
   have:=Nat.mul_lt_mul'' h1 h2
   rw[←qlg]at this
   exact qlf this (qlh (by decide) (by omega))
  have:=ql _ _ h3
  omega
theorem Yh (P:Nat→Prop)(w:World)(a b:Nm)(va vb:Value)(ha:RNp P w va a)(hb:RNp P w vb b)(ca:vld a=true)(cb:vld b=true):
  Calls Tryz.prog 90 #[va,vb] w fun e w'=>(∃v,e=.returned v∧RNp (PL P w) w' v (tms a b))∧Kept w w':=by
 obtain⟨n1,L1,x1⟩:=a
 obtain⟨n2,L2,x2⟩:=b
 obtain⟨a1,c1,rfl,-⟩:=ha.shape
 obtain⟨a2,c2,rfl,-⟩:=hb.shape
 exact qhl P w n1 n2 a1 a2 L1.length c1 L2.length c2 x1 x2 _ (fun u k=>XS _ u ⟨n1,L1,x1⟩ ⟨n2,L2,x2⟩ _ _ (ha.here.kept k) (hb.here.kept k) ca cb)
end Go.Proofs.YtelbefihigkhjaaGreatDoor
