/-  -/
import Derived.Test.YtaglkncdedeipaaGreatDoorWs16
import Derived.Test.YtaglkncdedeipaaGreatDoorWs17
import Derived.Test.YtaglkncdedeipaaGreatDoorWs23
import Derived.Test.YtaglkncdedeipaaGreatDoorWs26
import Derived.Test.YtaglkncdedeipaaGreatDoorWs15
namespace Go.Proofs.YtaglkncdedeipaaGreatDoor
open Go.ChangeShapes Go.WideShapes Go.ChangeAt Go.RowKit
set_option linter.unusedVariables false
set_option linter.unusedSimpArgs false
set_option maxHeartbeats 16000000
set_option maxRecDepth 100000
theorem Kn (w:World)(v:Nat)(hv:v≤9223372036854775807):Calls Tryz.prog 89 #[.int .i64 (v:Int)] w fun e w'=>(∃r,e=.returned r∧RNp (qj w.heap.size) w' r (nrm false v 0))∧Kept w w':=by
 have hK:Kept w (qD w):=(qia w).alloc _ _
 have hl:(digs v).length≤3:=qo v 3 (by omega)
 have KF:Hid (Calls Tryz.prog 101 #[.int .i64 (v:Int)] (qD w) fun e w'=>(∃r,e=.returned r∧RLp (qj (qD w).heap.size) w' r (digs v))∧Kept (qD w) w'):=yh (qD w) v hv
 have KN:Hid (∀u va,Kept (qD w) u→RLp (qj (qD w).heap.size) u va (digs v)→Calls Tryz.prog 100 #[.bool false,va,.int .i64 0] u fun e w'=>(∃r,e=.returned r∧RNp (qj (qD w).heap.size) w' r (nrm false v 0))∧Kept u w'):=fun u va k h=>by
  have:=vN u false (digs v) va h.rl (qK v) (by omega) 0
  rw[qI]at this
  refine this.mono ?_
  rintro e w' ⟨⟨r,rfl,hr⟩,kk⟩
  exact⟨⟨r,rfl,hr.imp (fun b hb=>qh4 k.below.size hb)⟩,kk⟩
 have hv0:¬(v:Int)<0:=by omega
 go_enter Tryz.func89,Tryz.ntmps89
 go_wp2_with (first|(go_at_call 101;refine KF.out.mono ?_;rintro e w1 ⟨⟨va,rfl,hva⟩,k1⟩)|(go_at_call 100;refine(KN.out _ _ k1 hva).mono ?_;rintro e w2 ⟨⟨r,rfl,hN⟩,k2⟩;obtain⟨vn,ao,vl,vc,vx,rfl⟩:=hN.shape5;obtain⟨f0,f1,f2,f3⟩:=je (k1.trans k2)))
 have hd:=(hN.done w.heap.size (fun b hb=>by simp[qj]at hb;omega) (.bool vn) (.slice ao vl vc) (.int .i64 vx)).imp (Q:=qj w.heap.size) (fun b hb=>by simp[qj]at hb ⊢;omega)
 have hkk:=(hK.trans (k1.trans k2)).setCell (p:=⟨w.heap.size,0,none⟩) (qhy _) (.bool vn)|>.setCell (p:=⟨w.heap.size,1,none⟩) (qhy _) (.slice ao vl vc)|>.setCell (p:=⟨w.heap.size,2,none⟩) (qhy _) (.int .i64 vx)
 refine qh9 (v:=.agg #[.bool vn,.slice ao vl vc,.int .i64 vx]) (by simp[results,Tryz.results89,go_sem,f0,f1,f2]) rfl ⟨⟨_,rfl,hd⟩,hkk⟩
theorem VG (b n:Int)(hb1:-9223372036854775808≤b)(hb2:b≤9223372036854775807)(hn:n=64∨n=32)(hc:cls b n<3)(w:World):Calls Tryz.prog 75 #[.int .i64 b,.int .i64 n] w fun e w'=>(∃v,e=.returned v∧RNp (qj w.heap.size) w' v (nrm (qS b n) (qw b n).toNat (qA b n)))∧Kept w w':=by
 have hK:Kept w (qD w):=(qia w).alloc _ _
 have hf:=yZ b n hn hc
 have KP:Hid (∀u,Calls Tryz.prog 99 #[.int .i64 b,.int .i64 n] u fun e w'=>e=.returned (.tuple #[.bool (qS b n),.int .i64 (qw b n),.int .i64 (qA b n),.bool true])∧Kept u w'):=fun u=>by
  have:=Vi b n hb1 hb2 u
  rw[Zy b n hn hc]at this
  exact this
 have hm53:qw b n<9223372036854775807:=by
  have h1:=hf.2.1
  have h2:(2:Int)^(qF n).toNat≤9007199254740992:=by rcases hn with rfl|rfl<;>decide
  omega
 obtain⟨v,hv⟩:∃v:Nat,qw b n=(v:Int):=⟨(qw b n).toNat,by have:=hf.1;omega⟩
 have hv2:(qw b n).toNat=v:=by omega
 have hv9:v≤9223372036854775807:=by omega
 rw[hv]at KP
 rw[hv2]
 have KF:Hid (∀u,Kept (qD w) u→Calls Tryz.prog 101 #[.int .i64 (v:Int)] u fun e w'=>(∃r,e=.returned r∧RLp (qj (qD w).heap.size) w' r (digs v))∧Kept u w'):=fun u k=>(yh u v hv9).mono (by
  rintro e w' ⟨⟨r,rfl,hr⟩,kk⟩
  exact⟨⟨r,rfl,hr.imp (fun b hb=>qh4 k.below.size hb)⟩,kk⟩)
 have hl:(digs v).length≤3:=qo v 3 (by omega)
 have KN:Hid (∀u va,Kept (qD w) u→RLp (qj (qD w).heap.size) u va (digs v)→Calls Tryz.prog 100 #[.bool (qS b n),va,.int .i64 (qA b n)] u fun e w'=>(∃r,e=.returned r∧RNp (qj (qD w).heap.size) w' r (nrm (qS b n) v (qA b n)))∧Kept u w'):=fun u va k h=>by
  have:=vN u (qS b n) (digs v) va h.rl (qK v) (by omega) (qA b n)
  rw[qI]at this
  refine this.mono ?_
  rintro e w' ⟨⟨r,rfl,hr⟩,kk⟩
  exact⟨⟨r,rfl,hr.imp (fun b hb=>qh4 k.below.size hb)⟩,kk⟩
 clear hf hm53 hv hv2 hl
 generalize nrm (qS b n) v (qA b n)=NR at *
 generalize qS b n=pn at *
 generalize qA b n=px at *
 go_enter Tryz.func75,Tryz.ntmps75
 go_wp2_with (first|(go_at_call 99;refine(KP.out _).mono ?_;rintro e w1 ⟨rfl,k1⟩)|(go_at_call 101;refine(KF.out _ k1).mono ?_;rintro e w2 ⟨⟨va,rfl,hva⟩,k2⟩)|(go_at_call 100;refine(KN.out _ _ (k1.trans k2) hva).mono ?_;rintro e w3 ⟨⟨r,rfl,hN⟩,k3⟩;obtain⟨vn,ao,vl,vc,vx,rfl⟩:=hN.shape5;obtain⟨f0,f1,f2,f3⟩:=je (k1.trans (k2.trans k3))))
 have hd:=(hN.done w.heap.size (fun b hb=>by simp[qj]at hb;omega) (.bool vn) (.slice ao vl vc) (.int .i64 vx)).imp (Q:=qj w.heap.size) (fun b hb=>by simp[qj]at hb ⊢;omega)
 have hkk:=(hK.trans (k1.trans (k2.trans k3))).setCell (p:=⟨w.heap.size,0,none⟩) (qhy _) (.bool vn)|>.setCell (p:=⟨w.heap.size,1,none⟩) (qhy _) (.slice ao vl vc)|>.setCell (p:=⟨w.heap.size,2,none⟩) (qhy _) (.int .i64 vx)
 refine qh9 (v:=.agg #[.bool vn,.slice ao vl vc,.int .i64 vx]) (by simp[results,Tryz.results75,go_sem,f0,f1,f2]) rfl ⟨⟨_,rfl,hd⟩,hkk⟩
theorem qfa (b n:Int)(hn:n=64∨n=32)(hc:cls b n<3):vld (nrm (qS b n) (qw b n).toNat (qA b n))=true∧ofN b n=nrm (qS b n) (qw b n).toNat (qA b n):=by
 have h1:=Zz b n hn hc
 rw[ZS]at h1
 by_cases h:vld (nrm (qS b n) (qw b n).toNat (qA b n))=true
 ·rw[if_pos h]at h1
  exact⟨h,(Option.some.inj h1).symm⟩
 ·rw[if_neg h]at h1
  cases h1
def trn (b:Nm):Nm:=⟨if b.mag.length=0 then b.neg else !b.neg,b.mag,b.exp⟩
def tms (a b:Nm):Nm:=nrm (a.neg != b.neg) (nv a.mag*nv b.mag) (a.exp+b.exp)
theorem Vv (P:Nat→Prop)(w:World)(n1 n2:Bool)(a1 a2:Option Addr)(l1 c1 l2 c2:Nat)(x1 x2:Int)(r:Nm)(m2:Bool)
  (KT:Hid (∀u,Kept w u→Calls Tryz.prog 96 #[.agg #[.bool n2,.slice a2 l2 c2,.int .i64 x2]] u fun e w'=>e=.returned (.agg #[.bool m2,.slice a2 l2 c2,.int .i64 x2])∧Kept u w'))
  (KP:Hid (∀u,Kept w u→Calls Tryz.prog 94 #[.agg #[.bool n1,.slice a1 l1 c1,.int .i64 x1],.agg #[.bool m2,.slice a2 l2 c2,.int .i64 x2]] u fun e w'=>(∃v,e=.returned v∧RNp (fun c=>(P c∧c<w.heap.size)∨u.heap.size≤c) w' v r)∧Kept u w')):
  Calls Tryz.prog 117 #[.agg #[.bool n1,.slice a1 l1 c1,.int .i64 x1],.agg #[.bool n2,.slice a2 l2 c2,.int .i64 x2]] w fun e w'=>(∃v,e=.returned v∧RNp (fun c=>P c∨w.heap.size≤c) w' v r)∧Kept w w':=by
 obtain⟨W,hW⟩:∃W,W=(((w.alloc (.cells #[.bool n1,.slice a1 l1 c1,.int .i64 x1] 31)).alloc (.cells #[.bool n2,.slice a2 l2 c2,.int .i64 x2] 31)).alloc zn):=⟨_,rfl⟩
 have hK:Kept w W:=by rw[hW];exact(((qia w).alloc _ _).alloc _ _).alloc _ _
 have hWs:W.heap.size=w.heap.size+3:=by rw[hW];simp
 have HS:Hid (∀u,Kept W u→((u.cell? ⟨w.heap.size,0,none⟩=some (.bool n1)∧u.cell? ⟨w.heap.size,1,none⟩=some (.slice a1 l1 c1))∧u.cell? ⟨w.heap.size,2,none⟩=some (.int .i64 x1))∧(u.cell? ⟨w.heap.size+1,0,none⟩=some (.bool n2)∧u.cell? ⟨w.heap.size+1,1,none⟩=some (.slice a2 l2 c2))∧u.cell? ⟨w.heap.size+1,2,none⟩=some (.int .i64 x2)):=fun u k=>⟨⟨⟨((k.below.cell (p:=⟨w.heap.size,0,none⟩) (by show w.heap.size<W.heap.size;omega)).trans (by rw[hW];simp[go_sem])),((k.below.cell (p:=⟨w.heap.size,1,none⟩) (by show w.heap.size<W.heap.size;omega)).trans (by rw[hW];simp[go_sem]))⟩,((k.below.cell (p:=⟨w.heap.size,2,none⟩) (by show w.heap.size<W.heap.size;omega)).trans (by rw[hW];simp[go_sem]))⟩,⟨((k.below.cell (p:=⟨w.heap.size+1,0,none⟩) (by show w.heap.size+1<W.heap.size;omega)).trans (by rw[hW];simp[go_sem])),((k.below.cell (p:=⟨w.heap.size+1,1,none⟩) (by show w.heap.size+1<W.heap.size;omega)).trans (by rw[hW];simp[go_sem]))⟩,((k.below.cell (p:=⟨w.heap.size+1,2,none⟩) (by show w.heap.size+1<W.heap.size;omega)).trans (by rw[hW];simp[go_sem]))⟩
 have HC:Hid (W.cell? ⟨w.heap.size+1+1,0,none⟩=some (.bool false)∧W.cell? ⟨w.heap.size+1+1,1,none⟩=some (.slice none 0 0)∧W.cell? ⟨w.heap.size+1+1,2,none⟩=some (.int .i64 0)∧∀o,W.frozen? ⟨w.heap.size+1+1,o,none⟩=false):=by rw[hW];exact⟨by simp[go_sem],by simp[go_sem],by simp[go_sem],fun o=>by simp[go_sem]⟩
 go_enter Tryz.func117,Tryz.ntmps117
 go_upto_region 1 with fail
 rw[←hW]
 clear hW
 have kr0:=(qia W).drew
 refine qib (S:=fun u=>Kept w u∧((u.cell? ⟨w.heap.size,0,none⟩=some (.bool n1)∧u.cell? ⟨w.heap.size,1,none⟩=some (.slice a1 l1 c1))∧u.cell? ⟨w.heap.size,2,none⟩=some (.int .i64 x1))∧(u.cell? ⟨w.heap.size+1,0,none⟩=some (.bool n2)∧u.cell? ⟨w.heap.size+1,1,none⟩=some (.slice a2 l2 c2))∧u.cell? ⟨w.heap.size+1,2,none⟩=some (.int .i64 x2)) (by kernel_rfl) ⟨hK.trans kr0,HS.out _ kr0⟩ (fun hHeld0=>?_)
 refine tk (i:=0) (v:=?_) rfl ?_
 simp only[zz]
 refine tk (i:=1) (v:=?_) rfl ?_
 simp only[zz]
 refine qh8 (rs:=[2]) (by kernel_rfl) (by simp) ?_
 refine qh6 rfl (fun K hK9=>?_) qh7
 go_simp
 go_wp2_with fail
 refine(KT.out _ (hK.trans kr0)).mono ?_
 rintro e x1 ⟨rfl,qq⟩
 have kr1:=kr0.trans qq
 refine hK9.out _ _ ⟨hK.trans kr1,HS.out _ kr1⟩ (fun hHeld1=>?_)
 clear hK9 K
 refine qh8 (rs:=[3]) (by kernel_rfl) (by simp) ?_
 refine qh6 rfl (fun K hK9=>?_) qh7
 go_simp
 go_wp2_with fail
 refine(KP.out _ (hK.trans kr1)).mono ?_
 rintro e x2 ⟨⟨v,rfl,hN⟩,qq2⟩
 obtain⟨vn,va,vl,vc,vx,rfl⟩:=hN.shape5
 have kr2:=kr1.trans qq2
 refine hK9.out _ _ ⟨hK.trans kr2,HS.out _ kr2⟩ (fun hHeld2=>?_)
 clear hK9 K
 have hc:=HC.out
 obtain⟨f0,f1,f2,f3⟩:=qT (w.heap.size+1+1) (by omega) kr2 hc.1 hc.2.1 hc.2.2.1 hc.2.2.2
 have kF:=(hK.trans kr2).setCell (p:=⟨w.heap.size+1+1,0,none⟩) (by show w.heap.size≤w.heap.size+1+1;omega) (.bool vn)|>.setCell (p:=⟨w.heap.size+1+1,1,none⟩) (by show w.heap.size≤w.heap.size+1+1;omega) (.slice va vl vc)|>.setCell (p:=⟨w.heap.size+1+1,2,none⟩) (by show w.heap.size≤w.heap.size+1+1;omega) (.int .i64 vx)
 refine qh8 (rs:=[4]) (by kernel_rfl) (by simp) ?_
 refine qh6 rfl (fun K hK9=>?_) qh7
 go_simp
 refine hK9.out _ _ ⟨kF,by have q:=HS.out _ kr2;obtain⟨⟨⟨q0,q1⟩,q2⟩,⟨q3,q4⟩,q5⟩:=q;refine⟨⟨⟨?_,?_⟩,?_⟩,⟨?_,?_⟩,?_⟩<;>simp[go_sem,q0,q1,q2,q3,q4,q5]⟩ (fun hHeld9=>?_)
 clear hK9 K
 refine qic (by kernel_rfl) ?_ _
 clear hHeld0 hHeld1 hHeld2 hHeld9
 have hd:=(hN.imp (Q:=fun c=>(P c∧c<w.heap.size)∨W.heap.size≤c) (fun b hb=>hb.imp id (qh4 kr1.below.size))).done (w.heap.size+1+1) (fun b hb=>by rcases hb with h|h<;>omega) (.bool vn) (.slice va vl vc) (.int .i64 vx)
 go_wp2
 refine qh9 (v:=.agg #[.bool vn,.slice va vl vc,.int .i64 vx]) (by simp[results,Tryz.results117,go_sem,f0,f1,f2]) rfl ⟨⟨_,rfl,hd.imp (fun b hb=>by rcases hb with h|h;exact Or.inl h.1;exact Or.inr (by omega))⟩,kF⟩
theorem Vw (P:Nat→Prop)(w:World)(n1 n2:Bool)(a1 a2:Option Addr)(l1 c1 l2 c2:Nat)(x1 x2:Int)(r:Nm)(z:Nat)(y:Int)(hy:IntKind.i64.wrap (x1+x2)=y)
  (KM:Hid (∀u,Kept w u→Calls Tryz.prog 118 #[.slice a1 l1 c1,.slice a2 l2 c2] u fun e w'=>(∃s,e=.returned s∧RLp (qj u.heap.size) w' s (digs z))∧Kept u w'))
  (hz:(digs z).length<1000000) (hr:nrm (!(n1==n2)) z y=r):
  Calls Tryz.prog 91 #[.agg #[.bool n1,.slice a1 l1 c1,.int .i64 x1],.agg #[.bool n2,.slice a2 l2 c2,.int .i64 x2]] w fun e w'=>(∃v,e=.returned v∧RNp (fun c=>P c∨w.heap.size≤c) w' v r)∧Kept w w':=by
 obtain⟨W,hW⟩:∃W,W=(((w.alloc (.cells #[.bool n1,.slice a1 l1 c1,.int .i64 x1] 31)).alloc (.cells #[.bool n2,.slice a2 l2 c2,.int .i64 x2] 31)).alloc zn):=⟨_,rfl⟩
 have hK:Kept w W:=by rw[hW];exact(((qia w).alloc _ _).alloc _ _).alloc _ _
 have hWs:W.heap.size=w.heap.size+3:=by rw[hW];simp
 have HS:Hid (∀u,Kept W u→((u.cell? ⟨w.heap.size,0,none⟩=some (.bool n1)∧u.cell? ⟨w.heap.size,1,none⟩=some (.slice a1 l1 c1))∧u.cell? ⟨w.heap.size,2,none⟩=some (.int .i64 x1))∧(u.cell? ⟨w.heap.size+1,0,none⟩=some (.bool n2)∧u.cell? ⟨w.heap.size+1,1,none⟩=some (.slice a2 l2 c2))∧u.cell? ⟨w.heap.size+1,2,none⟩=some (.int .i64 x2)):=fun u k=>⟨⟨⟨((k.below.cell (p:=⟨w.heap.size,0,none⟩) (by show w.heap.size<W.heap.size;omega)).trans (by rw[hW];simp[go_sem])),((k.below.cell (p:=⟨w.heap.size,1,none⟩) (by show w.heap.size<W.heap.size;omega)).trans (by rw[hW];simp[go_sem]))⟩,((k.below.cell (p:=⟨w.heap.size,2,none⟩) (by show w.heap.size<W.heap.size;omega)).trans (by rw[hW];simp[go_sem]))⟩,⟨((k.below.cell (p:=⟨w.heap.size+1,0,none⟩) (by show w.heap.size+1<W.heap.size;omega)).trans (by rw[hW];simp[go_sem])),((k.below.cell (p:=⟨w.heap.size+1,1,none⟩) (by show w.heap.size+1<W.heap.size;omega)).trans (by rw[hW];simp[go_sem]))⟩,((k.below.cell (p:=⟨w.heap.size+1,2,none⟩) (by show w.heap.size+1<W.heap.size;omega)).trans (by rw[hW];simp[go_sem]))⟩
 have HC:Hid (W.cell? ⟨w.heap.size+1+1,0,none⟩=some (.bool false)∧W.cell? ⟨w.heap.size+1+1,1,none⟩=some (.slice none 0 0)∧W.cell? ⟨w.heap.size+1+1,2,none⟩=some (.int .i64 0)∧∀o,W.frozen? ⟨w.heap.size+1+1,o,none⟩=false):=by rw[hW];exact⟨by simp[go_sem],by simp[go_sem],by simp[go_sem],fun o=>by simp[go_sem]⟩
 have KN:Hid (∀u0 u {vs:Value},RLp (qj u0.heap.size) u vs (digs z)→Kept W u0→Kept W u→Calls Tryz.prog 100 #[.bool (!(n1==n2)),vs,.int .i64 y] u fun e w'=>(∃v,e=.returned v∧RNp (qj W.heap.size) w' v r)∧Kept u w'):=fun u0 u vs h k0 k=>by
  have:=vN u (!(n1==n2)) (digs z) vs h.rl (qK z) hz y
  rw[qI,hr]at this
  refine this.mono ?_
  rintro e w' ⟨⟨v,rfl,hv⟩,kk⟩
  exact⟨⟨v,rfl,hv.imp (fun b hb=>qh4 k.below.size hb)⟩,kk⟩
 clear hr
 go_enter Tryz.func91,Tryz.ntmps91
 go_upto_region 1 with fail
 rw[←hW]
 clear hW
 have kr0:=(qia W).drew
 refine qib (S:=fun u=>Kept w u∧((u.cell? ⟨w.heap.size,0,none⟩=some (.bool n1)∧u.cell? ⟨w.heap.size,1,none⟩=some (.slice a1 l1 c1))∧u.cell? ⟨w.heap.size,2,none⟩=some (.int .i64 x1))∧(u.cell? ⟨w.heap.size+1,0,none⟩=some (.bool n2)∧u.cell? ⟨w.heap.size+1,1,none⟩=some (.slice a2 l2 c2))∧u.cell? ⟨w.heap.size+1,2,none⟩=some (.int .i64 x2)) (by kernel_rfl) ⟨hK.trans kr0,HS.out _ kr0⟩ (fun hHeld0=>?_)
 refine tk (i:=0) (v:=?_) rfl ?_
 simp only[zz]
 refine tk (i:=1) (v:=?_) rfl ?_
 simp only[zz]
 refine tk (i:=2) (v:=?_) rfl ?_
 simp only[zz]
 refine tk (i:=3) (v:=?_) rfl ?_
 simp only[zz]
 refine tk (i:=4) (v:=?_) rfl ?_
 simp only[zz]
 refine tk (i:=5) (v:=?_) rfl ?_
 simp only[zz]
 refine tk (i:=6) (v:=?_) rfl ?_
 simp only[zz]
 refine tk (i:=7) (v:=?_) rfl ?_
 simp only[zz]
 refine tk (i:=8) (v:=?_) rfl ?_
 simp only[zz]
 refine tk (i:=10) (v:=?_) rfl ?_
 simp only[zz]
 refine tk (i:=11) (v:=?_) rfl ?_
 simp only[zz]
 refine tk (i:=12) (v:=?_) rfl ?_
 simp only[zz]
 refine tk (i:=13) (v:=?_) rfl ?_
 simp only[zz]
 refine tk (i:=14) (v:=?_) rfl ?_
 simp only[zz]
 refine qh8 (rs:=[9]) (by kernel_rfl) (by simp) ?_
 refine qh6 rfl (fun K hK9=>?_) qh7
 go_simp
 go_wp2_with fail
 refine(KM.out _ (hK.trans kr0)).mono ?_
 rintro e x1 ⟨⟨vs,rfl,hs⟩,qq⟩
 have kr1:=kr0.trans qq
 refine hK9.out _ _ ⟨hK.trans kr1,HS.out _ kr1⟩ (fun hHeld1=>?_)
 clear hK9 K
 refine qh8 (rs:=[15]) (by kernel_rfl) (by simp) ?_
 refine qh6 rfl (fun K hK9=>?_) qh7
 go_simp
 go_wp2_with fail
 refine(KN.out _ _ hs kr0 kr1).mono ?_
 rintro e x2 ⟨⟨v,rfl,hN⟩,qq2⟩
 obtain⟨vn,va,vl,vc,vx,rfl⟩:=hN.shape5
 have kr2:=kr1.trans qq2
 refine hK9.out _ _ ⟨hK.trans kr2,HS.out _ kr2⟩ (fun hHeld2=>?_)
 clear hK9 K
 have hc:=HC.out
 obtain⟨f0,f1,f2,f3⟩:=qT (w.heap.size+1+1) (by omega) kr2 hc.1 hc.2.1 hc.2.2.1 hc.2.2.2
 have kF:=(hK.trans kr2).setCell (p:=⟨w.heap.size+1+1,0,none⟩) (by show w.heap.size≤w.heap.size+1+1;omega) (.bool vn)|>.setCell (p:=⟨w.heap.size+1+1,1,none⟩) (by show w.heap.size≤w.heap.size+1+1;omega) (.slice va vl vc)|>.setCell (p:=⟨w.heap.size+1+1,2,none⟩) (by show w.heap.size≤w.heap.size+1+1;omega) (.int .i64 vx)
 refine qh8 (rs:=[16]) (by kernel_rfl) (by simp) ?_
 refine qh6 rfl (fun K hK9=>?_) qh7
 go_simp
 refine hK9.out _ _ ⟨kF,by have q:=HS.out _ kr2;obtain⟨⟨⟨q0,q1⟩,q2⟩,⟨q3,q4⟩,q5⟩:=q;refine⟨⟨⟨?_,?_⟩,?_⟩,⟨?_,?_⟩,?_⟩<;>simp[go_sem,q0,q1,q2,q3,q4,q5]⟩ (fun hHeld9=>?_)
 clear hK9 K
 refine qic (by kernel_rfl) ?_ _
 clear hHeld0 hHeld1 hHeld2 hHeld9
 have hd:=hN.done (w.heap.size+1+1) (fun b hb=>by simp[qj]at hb;omega) (.bool vn) (.slice va vl vc) (.int .i64 vx)
 go_wp2
 refine qh9 (v:=.agg #[.bool vn,.slice va vl vc,.int .i64 vx]) (by simp[results,Tryz.results91,go_sem,f0,f1,f2]) rfl ⟨⟨_,rfl,hd.imp (fun b hb=>Or.inr (by simp[qj]at hb;omega))⟩,kF⟩
theorem qe1 (P:Nat→Prop)(w:World)(n1 n2:Bool)(a1 a2:Option Addr)(l1 c1 l2 c2:Nat)(x1 x2:Int)(r:Nm)(G:Int)
  (KM:Hid (∀u,Kept w u→Calls Tryz.prog 117 #[.agg #[.bool n1,.slice a1 l1 c1,.int .i64 x1],.agg #[.bool n2,.slice a2 l2 c2,.int .i64 x2]] u fun e w'=>(∃v,e=.returned v∧RNp (fun c=>P c∨u.heap.size≤c) w' v r)∧Kept u w')) (hG:sgz r.neg r.mag=G):
  Calls Tryz.prog 90 #[.agg #[.bool n1,.slice a1 l1 c1,.int .i64 x1],.agg #[.bool n2,.slice a2 l2 c2,.int .i64 x2]] w fun e w'=>e=.returned (.int .i64 G)∧Kept w w':=by
 obtain⟨W,hW⟩:∃W,W=((w.alloc (.cells #[.bool n1,.slice a1 l1 c1,.int .i64 x1] 31)).alloc (.cells #[.bool n2,.slice a2 l2 c2,.int .i64 x2] 31)):=⟨_,rfl⟩
 have hK:Kept w W:=by rw[hW];exact((qia w).alloc _ _).alloc _ _
 have hWs:W.heap.size=w.heap.size+2:=by rw[hW];simp
 have HS:Hid (∀u,Kept W u→((u.cell? ⟨w.heap.size,0,none⟩=some (.bool n1)∧u.cell? ⟨w.heap.size,1,none⟩=some (.slice a1 l1 c1))∧u.cell? ⟨w.heap.size,2,none⟩=some (.int .i64 x1))∧(u.cell? ⟨w.heap.size+1,0,none⟩=some (.bool n2)∧u.cell? ⟨w.heap.size+1,1,none⟩=some (.slice a2 l2 c2))∧u.cell? ⟨w.heap.size+1,2,none⟩=some (.int .i64 x2)):=fun u k=>⟨⟨⟨((k.below.cell (p:=⟨w.heap.size,0,none⟩) (by show w.heap.size<W.heap.size;omega)).trans (by rw[hW];simp[go_sem])),((k.below.cell (p:=⟨w.heap.size,1,none⟩) (by show w.heap.size<W.heap.size;omega)).trans (by rw[hW];simp[go_sem]))⟩,((k.below.cell (p:=⟨w.heap.size,2,none⟩) (by show w.heap.size<W.heap.size;omega)).trans (by rw[hW];simp[go_sem]))⟩,⟨((k.below.cell (p:=⟨w.heap.size+1,0,none⟩) (by show w.heap.size+1<W.heap.size;omega)).trans (by rw[hW];simp[go_sem])),((k.below.cell (p:=⟨w.heap.size+1,1,none⟩) (by show w.heap.size+1<W.heap.size;omega)).trans (by rw[hW];simp[go_sem]))⟩,((k.below.cell (p:=⟨w.heap.size+1,2,none⟩) (by show w.heap.size+1<W.heap.size;omega)).trans (by rw[hW];simp[go_sem]))⟩
 go_enter Tryz.func90,Tryz.ntmps90
 go_upto_region 1 with fail
 rw[←hW]
 clear hW
 have e0:=HS.out _ (qia W)
 go_wp2_with fail
 refine(KM.out _ hK).mono ?_
 rintro e x2 ⟨⟨v,rfl,hN⟩,kr2⟩
 obtain⟨ao,c,rfl,-⟩:=hN.shape
 have KS:Hid (Calls Tryz.prog 95 #[.agg #[.bool r.neg,.slice ao r.mag.length c,.int .i64 r.exp]] x2 fun e w'=>e=.returned (.int .i64 G)∧Kept x2 w'):=by
  have:=qao r.neg ao r.mag.length c r.exp x2
  rw[←hG]
  exact this
 clear hG e0
 generalize r.mag.length=rl at *
 generalize r.neg=rn at *
 generalize r.exp=rx at *
 go_wp2_with fail
 refine KS.out.mono ?_
 rintro e x3 ⟨rfl,kr3⟩
 go_wp2
 go_ret
 exact⟨rfl,hK.trans (kr2.trans kr3)⟩
theorem xq (a:Nm)(h:vld a=true):Cn a.mag∧a.mag.length≤2000∧-1048576≤a.exp∧a.exp≤1048576:=by
 obtain⟨n,L,x⟩:=a
 by_cases e:L=[]
 ·subst e
  obtain⟨-,rfl⟩:=jM _ _ h
  exact⟨⟨Dg.nil,fun h=>absurd rfl h⟩,by simp,by dsimp only;omega,by dsimp only;omega⟩
 ·obtain⟨p1,p2,p3,p4,p5,p6⟩:=qX n L x e h
  exact⟨⟨p2,fun _=>p3⟩,p1,p5,p6⟩
theorem Vx (b:Nm)(h:b.mag≠[]):trn b=ng b:=by
 have:¬b.mag.length=0:=fun e=>h (List.length_eq_zero_iff.1 e)
 simp[trn,ng,this]
theorem ZR (b:Nm)(h:b.mag=[]):trn b=b:=by
 obtain⟨n,L,x⟩:=b
 dsimp only at h
 subst h
 rfl
theorem Yc (b:Nm)(h:vld b=true):vld (trn b)=true:=by
 by_cases e:b.mag=[]
 ·rw[ZR b e];exact h
 ·rw[Vx b e];exact qgi b.neg b.mag b.exp h e
theorem Xj (n1 n2:Bool)(L1 L2:List Int)(x1 x2:Int)(h1:L1≠[])(h2:L2≠[])(hv1:vld ⟨n1,L1,x1⟩=true)(hv2:vld ⟨n2,L2,x2⟩=true)(hlt:x1<x2)(hfar:60001<x2+(bl (nv L2):Int)-x1)(neg:Bool)(T:Int)(hT:T=sg n1 ((nv L1:Nat):Int)+sg n2 ((nv L2*2^(x2-x1).toNat:Nat):Int)):frm neg T.natAbs x1=none:=by
 obtain⟨p1,p2,p3,p4,p5,p6⟩:=qX n1 L1 x1 h1 hv1
 obtain⟨r1,r2,r3,r4,r5,r6⟩:=qX n2 L2 x2 h2 hv2
 have o1:=Zb L1 p2 p4
 have v2:=zN n2 L2 x2 h2 hv2
 obtain⟨k,hk⟩:∃k,(x2-x1).toNat=k:=⟨_,rfl⟩
 rw[hk]at hT
 have hk1:0<k:=by omega
 obtain⟨N,hN⟩:∃N:Nat,N=60000:=⟨_,rfl⟩
 have lt1:nv L1<2^N:=qhu (zp L1 p2) (qhw (by decide) (by omega))
 have hb:=yX (nv L2) k (by omega)
 have hge:2^(N+1)≤nv L2*2^k:=by
  have:=(qJ (nv L2*2^k) (by have:=Nat.mul_pos v2 (qht k);omega)).1
  refine qh4 (qhw (by decide) ?_) this
  rw[hb]
  omega
 have hev:nv L2*2^k%2=0:=by
  obtain⟨j,rfl⟩:∃j,k=j+1:=⟨k-1,by omega⟩
  rw[qh5,←qhz]
  omega
 generalize nv L2*2^k=Y at *
 rw[qh5]at hge
 have habs:2^N≤T.natAbs:=by
  rw[hT]
  cases n1<;>cases n2<;>simp only[sg,Bool.false_eq_true,if_false,if_true]<;>omega
 have hodd:T.natAbs%2=1:=by
  rw[hT]
  cases n1<;>cases n2<;>simp only[sg,Bool.false_eq_true,if_false,if_true]<;>omega
 have hz:=yu _ hodd
 have hbl:=qfd _ _ habs
 unfold frm
 rw[if_neg (by omega),hz,if_neg]
 rintro⟨g1,-,-⟩
 omega
theorem qe2 (a b:Nm)(ha:vld a=true)(hb:vld b=true):qbq a b=if vld (pls a b)=true then some (pls a b)else none:=by
 obtain⟨n1,L1,x1⟩:=a
 obtain⟨n2,L2,x2⟩:=b
 unfold qbq pls
 dsimp only
 by_cases e1:L1=[]
 ·rw[if_pos e1,if_pos e1,if_pos hb]
  by_cases e2:L2=[]
  ·subst e2
   obtain⟨rfl,rfl⟩:=jM _ _ hb
   rw[if_pos rfl]
  ·rw[if_neg e2]
 ·rw [if_neg e1,if_neg e1]
  by_cases e2:L2=[]
  ·rw[if_pos e2,if_pos e2,if_pos ha]
  ·rw[if_neg e2,if_neg e2,←ZS]
   unfold qgf
   dsimp only
   by_cases hr:max (tp ⟨n1,L1,x1⟩) (tp ⟨n2,L2,x2⟩)-min x1 x2≤60001
   ·rw[if_pos hr]
   ·rw[if_neg hr]
    have q1:=xq _ ha
    have q2:=xq _ hb
    have b1:bl (nv L1)≤60000:=qh4 (qY _ _ (zp L1 q1.1.1)) (by have:=q1.2.1;dsimp only at this;omega)
    have b2:bl (nv L2)≤60000:=qh4 (qY _ _ (zp L2 q2.1.1)) (by have:=q2.2.1;dsimp only at this;omega)
    unfold tp at hr
    dsimp only at hr
    rcases Int.lt_trichotomy x1 x2 with h|h|h
    ·have hm:min x1 x2=x1:=by omega
     rw[hm]at hr ⊢
     refine(Xj n1 n2 L1 L2 x1 x2 e1 e2 ha hb h (by omega) _ _ ?_).symm
     rw[ZT n1 n2 L1 L2 x1 x2 x1 0 (x2-x1).toNat (by omega) rfl,Nat.pow_zero,Nat.mul_one]
    ·exfalso
     omega
    ·have hm:min x1 x2=x2:=by omega
     rw[hm]at hr ⊢
     refine(Xj n2 n1 L2 L1 x2 x1 e2 e1 hb ha h (by omega) _ _ ?_).symm
     rw[ZT n1 n2 L1 L2 x1 x2 x2 (x1-x2).toNat 0 rfl (by omega),Nat.pow_zero,Nat.mul_one,Int.add_comm]
theorem qe3 (t:Int)(lo:Int):sgz (nrm (decide (t<0)) t.natAbs lo).neg (nrm (decide (t<0)) t.natAbs lo).mag=cz t 0:=by
 unfold nrm
 by_cases h:t=0
 ·subst h
  rfl
 ·rw[if_neg (by omega)]
  dsimp only
  have hne:digs (t.natAbs/2^tzn t.natAbs)≠[]:=fun e=>by
   have h1:=qI (t.natAbs/2^tzn t.natAbs)
   rw[e]at h1
   exact(jP t.natAbs (by omega)).2 h1.symm
  rw[JX _ _ hne]
  unfold cz
  by_cases g:t<0
  ·rw[if_pos (by simpa using g),if_pos g]
  ·rw[if_neg (by simpa using g),if_neg g,if_pos (by omega)]
theorem qgt (s:Int)(a b:Nm)(ha:vld a=true)(hb:vld b=true)(ga:a.mag≠[]→s≤a.exp)(gb:b.mag≠[]→s≤b.exp):sgz (pls a (trn b)).neg (pls a (trn b)).mag=cz (vz s a) (vz s b):=by
 by_cases e1:a.mag=[]
 ·have hp:pls a (trn b)=trn b:=by rw[pls,if_pos e1]
  have z1:vz s a=0:=by obtain⟨n,L,x⟩:=a;dsimp only at e1;subst e1;exact zj _ _ _
  rw[hp,qbn s (trn b) (Yc b hb),z1,←qbo 0 (vz s b)]
  by_cases e2:b.mag=[]
  ·rw[ZR b e2]
   have z2:vz s b=0:=by obtain⟨n,L,x⟩:=b;dsimp only at e2;subst e2;exact zj _ _ _
   rw[z2]
   rfl
  ·rw[Vx b e2,qha,Int.zero_sub]
 ·by_cases e2:b.mag=[]
  ·have hp:pls a (trn b)=a:=by
    rw[ZR b e2,pls,if_neg e1,if_pos e2]
   have z2:vz s b=0:=by obtain⟨n,L,x⟩:=b;dsimp only at e2;subst e2;exact zj _ _ _
   rw[hp,qbn s a ha,z2]
  ·have hp:pls a (trn b)=nrm (decide (tot a (ng b) (min a.exp b.exp)<0)) (tot a (ng b) (min a.exp b.exp)).natAbs (min a.exp b.exp):=by
    rw[Vx b e2,pls,if_neg e1,if_neg (by exact e2)]
    rfl
   rw[hp,qe3]
   have key:vz s a-vz s b=tot a (ng b) (min a.exp b.exp)*2^(min a.exp b.exp-s).toNat:=by
    have la:=ga e1
    have lb:=gb e2
    have q1:(a.exp-s).toNat=(a.exp-min a.exp b.exp).toNat+(min a.exp b.exp-s).toNat:=by omega
    have q2:(b.exp-s).toNat=(b.exp-min a.exp b.exp).toNat+(min a.exp b.exp-s).toNat:=by omega
    unfold vz tot ng
    dsimp only
    rw[q1,q2,jr,jr,Int.add_mul,Int.sub_eq_add_neg]
    congr 1
    ·cases a.neg<;>simp[sg,Int.mul_assoc,Int.neg_mul]
    ·cases b.neg<;>simp[sg,Int.mul_assoc,Int.neg_mul]
   rw[←qbo (vz s a) (vz s b),key]
   have:=qgh (tot a (ng b) (min a.exp b.exp)) 0 (min a.exp b.exp-s).toNat
   rw[Int.zero_mul]at this
   exact this.symm
abbrev PL (P:Nat→Prop)(w:World):Nat→Prop:=fun c=>P c∨w.heap.size≤c
theorem qe4 {P:Nat→Prop}{w:World}{n:Bool}{ao:Option Addr}{c:Nat}{L:List Int}{x:Int}(h:RNp P w (.agg #[.bool n,.slice ao L.length c,.int .i64 x]) ⟨n,L,x⟩):RNp P w (.agg #[.bool (if L.length=0 then n else !n),.slice ao L.length c,.int .i64 x]) (trn ⟨n,L,x⟩):=by
 obtain⟨s,e,hs⟩:=h
 cases e
 exact⟨_,rfl,hs⟩
theorem Kd (P:Nat→Prop)(w:World)(a b:Nm)(va vb:Value)(ha:RNp P w va a)(hb:RNp P w vb b)(ca:vld a=true)(cb:vld b=true):
  Calls Tryz.prog 117 #[va,vb] w fun e w'=>(∃v,e=.returned v∧RNp (PL P w) w' v (pls a (trn b)))∧Kept w w':=by
 have qa:=xq a ca
 have qb:=xq _ (Yc b cb)
 obtain⟨n1,L1,x1⟩:=a
 obtain⟨n2,L2,x2⟩:=b
 obtain⟨a1,c1,rfl,-⟩:=ha.shape
 obtain⟨a2,c2,rfl,-⟩:=hb.shape
 refine Vv P w n1 n2 a1 a2 L1.length c1 L2.length c2 x1 x2 _ (if L2.length=0 then n2 else !n2) (fun u k=>XR n2 a2 L2.length c2 x2 u) (fun u k=>?_)
 exact Xl _ u ⟨n1,L1,x1⟩ (trn ⟨n2,L2,x2⟩) _ _ (ha.here.kept k) (qe4 (hb.here.kept k)) qa.1 qb.1 (by have:=qa.2.1;omega) (by have:=qb.2.1;omega) (by have:=qa.2.2;omega) (by have:=qb.2.2;omega)
theorem QP (P:Nat→Prop)(w:World)(a b:Nm)(va vb:Value)(ha:RNp P w va a)(hb:RNp P w vb b)(ca:vld a=true)(cb:vld b=true):
  Calls Tryz.prog 91 #[va,vb] w fun e w'=>(∃v,e=.returned v∧RNp (PL P w) w' v (tms a b))∧Kept w w':=by
 have qa:=xq a ca
 have qb:=xq b cb
 obtain⟨n1,L1,x1⟩:=a
 obtain⟨n2,L2,x2⟩:=b
 obtain⟨a1,c1,rfl,hra⟩:=ha.shape
 obtain⟨a2,c2,rfl,hrb⟩:=hb.shape
 dsimp only at *
 have d1:=yD qa.1
 have d2:=yD qb.1
 refine Vw P w n1 n2 a1 a2 L1.length c1 L2.length c2 x1 x2 _ (nv L1*nv L2) (x1+x2) (by rw[qc];omega) (fun u k=>?_) ?_ rfl
 ·have:=Vz u (nv L1) (nv L2) (.slice a1 L1.length c1) (.slice a2 L2.length c2) (by rw[d1];exact hra.rl.kept k) (by rw[d2];exact hrb.rl.kept k) (by rw[d1];omega) (by rw[d2];omega)
  exact this
 ·obtain⟨N,hN⟩:∃N:Nat,N=4000:=⟨_,rfl⟩
  have h1:=zp L1 qa.1.1
  have h2:=zp L2 qb.1.1
  have h3:nv L1*nv L2<2^(30*N):=by
   have:=Nat.mul_lt_mul'' h1 h2
   rw[←qhv]at this
   exact qhu this (qhw (by decide) (by omega))
  have:=qo _ _ h3
  omega
theorem Vy (P:Nat→Prop)(w:World)(a b:Nm)(va vb:Value)(ha:RNp P w va a)(hb:RNp P w vb b)(ca:vld a=true)(cb:vld b=true)(G:Int)(hG:sgz (pls a (trn b)).neg (pls a (trn b)).mag=G):
  Calls Tryz.prog 90 #[va,vb] w fun e w'=>e=.returned (.int .i64 G)∧Kept w w':=by
 obtain⟨n1,L1,x1⟩:=a
 obtain⟨n2,L2,x2⟩:=b
 obtain⟨a1,c1,rfl,-⟩:=ha.shape
 obtain⟨a2,c2,rfl,-⟩:=hb.shape
 exact qe1 P w n1 n2 a1 a2 L1.length c1 L2.length c2 x1 x2 _ G (fun u k=>Kd _ u ⟨n1,L1,x1⟩ ⟨n2,L2,x2⟩ _ _ (ha.kept k) (hb.kept k) ca cb) hG
end Go.Proofs.YtaglkncdedeipaaGreatDoor
