/-  -/
import Derived.Test.YtelbefihigkhjaaGreatDoorWm30
import Derived.Test.YtelbefihigkhjaaGreatDoorWm32
import Derived.Test.YtelbefihigkhjaaGreatDoorWm34
import Derived.Test.YtelbefihigkhjaaGreatDoorWm42
import Derived.Test.YtelbefihigkhjaaGreatDoorWm29
import Derived.Test.YtelbefihigkhjaaGreatDoorWm37
import Derived.Test.YtelbefihigkhjaaGreatDoorWm33
import Derived.Test.YtelbefihigkhjaaGreatDoorWm13
import Derived.Outline
namespace Go.Proofs.YtelbefihigkhjaaGreatDoor
open Go.ChangeShapes Go.WideShapes Go.ChangeAt Go.RowKit
set_option maxHeartbeats 16000000
set_option maxRecDepth 100000
set_option linter.unusedVariables false
set_option linter.unusedSimpArgs false
theorem qfw (P:Nat→Prop)(w:World)(n1 n2:Bool)(a1 a2:Option Addr)(l1 c1 l2 c2:Nat)(x1 x2:Int)(r:Nm)(KP:Hid (∀u,Kept w u→Calls Tryz.prog 89 #[.agg #[.bool n1,.slice a1 l1 c1,.int .i64 x1],.agg #[.bool n2,.slice a2 l2 c2,.int .i64 x2]] u fun e w'=>(∃v,e=.returned v∧RNp (fun c=>(P c∧c<w.heap.size)∨u.heap.size≤c) w' v r)∧Kept u w')):Calls Tryz.prog 37 #[.agg #[.bool n1,.slice a1 l1 c1,.int .i64 x1],.agg #[.bool n2,.slice a2 l2 c2,.int .i64 x2]] w fun e w'=>(∃v,e=.returned v∧RNp (fun c=>P c∨w.heap.size≤c) w' v r)∧Kept w w':=by
 obtain⟨W,hW⟩:∃W,W=(((w.alloc (.cells #[.bool n1,.slice a1 l1 c1,.int .i64 x1] 78)).alloc (.cells #[.bool n2,.slice a2 l2 c2,.int .i64 x2] 78)).alloc zc):=⟨_,rfl⟩
 have hK:Kept w W:=by rw[hW];exact(((qlv w).alloc _ _).alloc _ _).alloc _ _
 have hWs:W.heap.size=w.heap.size+3:=by rw[hW];simp
 have HS:Hid (∀u,Kept W u→((u.cell? ⟨w.heap.size,0,none⟩=some (.bool n1)∧u.cell? ⟨w.heap.size,1,none⟩=some (.slice a1 l1 c1))∧u.cell? ⟨w.heap.size,2,none⟩=some (.int .i64 x1))∧(u.cell? ⟨w.heap.size+1,0,none⟩=some (.bool n2)∧u.cell? ⟨w.heap.size+1,1,none⟩=some (.slice a2 l2 c2))∧u.cell? ⟨w.heap.size+1,2,none⟩=some (.int .i64 x2)):=fun u k=>⟨⟨⟨((k.below.cell (p:=⟨w.heap.size,0,none⟩) (by show w.heap.size<W.heap.size;omega)).trans (by rw[hW];simp[go_sem])),((k.below.cell (p:=⟨w.heap.size,1,none⟩) (by show w.heap.size<W.heap.size;omega)).trans (by rw[hW];simp[go_sem]))⟩,((k.below.cell (p:=⟨w.heap.size,2,none⟩) (by show w.heap.size<W.heap.size;omega)).trans (by rw[hW];simp[go_sem]))⟩,⟨((k.below.cell (p:=⟨w.heap.size+1,0,none⟩) (by show w.heap.size+1<W.heap.size;omega)).trans (by rw[hW];simp[go_sem])),((k.below.cell (p:=⟨w.heap.size+1,1,none⟩) (by show w.heap.size+1<W.heap.size;omega)).trans (by rw[hW];simp[go_sem]))⟩,((k.below.cell (p:=⟨w.heap.size+1,2,none⟩) (by show w.heap.size+1<W.heap.size;omega)).trans (by rw[hW];simp[go_sem]))⟩
 have HC:Hid (W.cell? ⟨w.heap.size+1+1,0,none⟩=some (.bool false)∧W.cell? ⟨w.heap.size+1+1,1,none⟩=some (.slice none 0 0)∧W.cell? ⟨w.heap.size+1+1,2,none⟩=some (.int .i64 0)∧∀o,W.frozen? ⟨w.heap.size+1+1,o,none⟩=false):=by rw[hW];exact⟨by simp[go_sem],by simp[go_sem],by simp[go_sem],fun o=>by simp[go_sem]⟩
 go_enter Tryz.func37,Tryz.ntmps37
 go_upto_region 1 with fail
 rw[←hW]
 clear hW
 have e0:=HS.out _ (qlv W)
 go_wp2_with fail
 refine(KP.out _ hK).mono ?_
 rintro e x2 ⟨⟨v,rfl,hN⟩,kr2⟩
 obtain⟨vn,va,vl,vc,vx,rfl⟩:=hN.shape5
 have hc:=HC.out
 obtain⟨f0,f1,f2,f3⟩:=qJ (w.heap.size+1+1) (by omega) kr2 hc.1 hc.2.1 hc.2.2.1 hc.2.2.2
 have kF:=(hK.trans kr2).setCell (p:=⟨w.heap.size+1+1,0,none⟩) (by show w.heap.size≤w.heap.size+1+1;omega) (.bool vn)|>.setCell (p:=⟨w.heap.size+1+1,1,none⟩) (by show w.heap.size≤w.heap.size+1+1;omega) (.slice va vl vc)|>.setCell (p:=⟨w.heap.size+1+1,2,none⟩) (by show w.heap.size≤w.heap.size+1+1;omega) (.int .i64 vx)
 have hd:=(hN.imp (Q:=fun c=>(P c∧c<w.heap.size)∨W.heap.size≤c) (fun b hb=>hb.imp id (fun h=>h))).done (w.heap.size+1+1) (fun b hb=>by rcases hb with h|h<;>omega) (.bool vn) (.slice va vl vc) (.int .i64 vx)
 go_wp2
 refine qlu (v:=.agg #[.bool vn,.slice va vl vc,.int .i64 vx]) (by simp[results,Tryz.results37,go_sem,f0,f1,f2]) rfl ⟨⟨_,rfl,hd.imp (fun b hb=>by rcases hb with h|h;exact Or.inl h.1;exact Or.inr (by omega))⟩,kF⟩
theorem qcj (P:Nat→Prop)(w:World)(n1 n2:Bool)(a1 a2:Option Addr)(l1 c1 l2 c2:Nat)(x1 x2:Int)(r:Nm)(KP:Hid (∀u,Kept w u→Calls Tryz.prog 90 #[.agg #[.bool n1,.slice a1 l1 c1,.int .i64 x1],.agg #[.bool n2,.slice a2 l2 c2,.int .i64 x2]] u fun e w'=>(∃v,e=.returned v∧RNp (fun c=>(P c∧c<w.heap.size)∨u.heap.size≤c) w' v r)∧Kept u w')):Calls Tryz.prog 38 #[.agg #[.bool n1,.slice a1 l1 c1,.int .i64 x1],.agg #[.bool n2,.slice a2 l2 c2,.int .i64 x2]] w fun e w'=>(∃v,e=.returned v∧RNp (fun c=>P c∨w.heap.size≤c) w' v r)∧Kept w w':=by
 obtain⟨W,hW⟩:∃W,W=(((w.alloc (.cells #[.bool n1,.slice a1 l1 c1,.int .i64 x1] 78)).alloc (.cells #[.bool n2,.slice a2 l2 c2,.int .i64 x2] 78)).alloc zc):=⟨_,rfl⟩
 have hK:Kept w W:=by rw[hW];exact(((qlv w).alloc _ _).alloc _ _).alloc _ _
 have hWs:W.heap.size=w.heap.size+3:=by rw[hW];simp
 have HS:Hid (∀u,Kept W u→((u.cell? ⟨w.heap.size,0,none⟩=some (.bool n1)∧u.cell? ⟨w.heap.size,1,none⟩=some (.slice a1 l1 c1))∧u.cell? ⟨w.heap.size,2,none⟩=some (.int .i64 x1))∧(u.cell? ⟨w.heap.size+1,0,none⟩=some (.bool n2)∧u.cell? ⟨w.heap.size+1,1,none⟩=some (.slice a2 l2 c2))∧u.cell? ⟨w.heap.size+1,2,none⟩=some (.int .i64 x2)):=fun u k=>⟨⟨⟨((k.below.cell (p:=⟨w.heap.size,0,none⟩) (by show w.heap.size<W.heap.size;omega)).trans (by rw[hW];simp[go_sem])),((k.below.cell (p:=⟨w.heap.size,1,none⟩) (by show w.heap.size<W.heap.size;omega)).trans (by rw[hW];simp[go_sem]))⟩,((k.below.cell (p:=⟨w.heap.size,2,none⟩) (by show w.heap.size<W.heap.size;omega)).trans (by rw[hW];simp[go_sem]))⟩,⟨((k.below.cell (p:=⟨w.heap.size+1,0,none⟩) (by show w.heap.size+1<W.heap.size;omega)).trans (by rw[hW];simp[go_sem])),((k.below.cell (p:=⟨w.heap.size+1,1,none⟩) (by show w.heap.size+1<W.heap.size;omega)).trans (by rw[hW];simp[go_sem]))⟩,((k.below.cell (p:=⟨w.heap.size+1,2,none⟩) (by show w.heap.size+1<W.heap.size;omega)).trans (by rw[hW];simp[go_sem]))⟩
 have HC:Hid (W.cell? ⟨w.heap.size+1+1,0,none⟩=some (.bool false)∧W.cell? ⟨w.heap.size+1+1,1,none⟩=some (.slice none 0 0)∧W.cell? ⟨w.heap.size+1+1,2,none⟩=some (.int .i64 0)∧∀o,W.frozen? ⟨w.heap.size+1+1,o,none⟩=false):=by rw[hW];exact⟨by simp[go_sem],by simp[go_sem],by simp[go_sem],fun o=>by simp[go_sem]⟩
 go_enter Tryz.func38,Tryz.ntmps38
 go_upto_region 1 with fail
 rw[←hW]
 clear hW
 have e0:=HS.out _ (qlv W)
 go_wp2_with fail
 refine(KP.out _ hK).mono ?_
 rintro e x2 ⟨⟨v,rfl,hN⟩,kr2⟩
 obtain⟨vn,va,vl,vc,vx,rfl⟩:=hN.shape5
 have hc:=HC.out
 obtain⟨f0,f1,f2,f3⟩:=qJ (w.heap.size+1+1) (by omega) kr2 hc.1 hc.2.1 hc.2.2.1 hc.2.2.2
 have kF:=(hK.trans kr2).setCell (p:=⟨w.heap.size+1+1,0,none⟩) (by show w.heap.size≤w.heap.size+1+1;omega) (.bool vn)|>.setCell (p:=⟨w.heap.size+1+1,1,none⟩) (by show w.heap.size≤w.heap.size+1+1;omega) (.slice va vl vc)|>.setCell (p:=⟨w.heap.size+1+1,2,none⟩) (by show w.heap.size≤w.heap.size+1+1;omega) (.int .i64 vx)
 have hd:=(hN.imp (Q:=fun c=>(P c∧c<w.heap.size)∨W.heap.size≤c) (fun b hb=>hb.imp id (fun h=>h))).done (w.heap.size+1+1) (fun b hb=>by rcases hb with h|h<;>omega) (.bool vn) (.slice va vl vc) (.int .i64 vx)
 go_wp2
 refine qlu (v:=.agg #[.bool vn,.slice va vl vc,.int .i64 vx]) (by simp[results,Tryz.results38,go_sem,f0,f1,f2]) rfl ⟨⟨_,rfl,hd.imp (fun b hb=>by rcases hb with h|h;exact Or.inl h.1;exact Or.inr (by omega))⟩,kF⟩
theorem qio (P:Nat→Prop)(w:World)(a b:Nm)(va vb:Value)(ha:RNp P w va a)(hb:RNp P w vb b)(ca:vld a=true)(cb:vld b=true):
  Calls Tryz.prog 37 #[va,vb] w fun e w'=>(∃v,e=.returned v∧RNp (PL P w) w' v (pls a b))∧Kept w w':=by
 obtain⟨n1,L1,x1⟩:=a
 obtain⟨n2,L2,x2⟩:=b
 obtain⟨a1,c1,rfl,-⟩:=ha.shape
 obtain⟨a2,c2,rfl,-⟩:=hb.shape
 exact qfw P w n1 n2 a1 a2 L1.length c1 L2.length c2 x1 x2 _ (fun u k=>qbj _ u ⟨n1,L1,x1⟩ ⟨n2,L2,x2⟩ _ _ (ha.here.kept k) (hb.here.kept k) ca cb)
theorem qfx (P:Nat→Prop)(w:World)(a b:Nm)(va vb:Value)(ha:RNp P w va a)(hb:RNp P w vb b)(ca:vld a=true)(cb:vld b=true):
  Calls Tryz.prog 38 #[va,vb] w fun e w'=>(∃v,e=.returned v∧RNp (PL P w) w' v (tms a b))∧Kept w w':=by
 obtain⟨n1,L1,x1⟩:=a
 obtain⟨n2,L2,x2⟩:=b
 obtain⟨a1,c1,rfl,-⟩:=ha.shape
 obtain⟨a2,c2,rfl,-⟩:=hb.shape
 exact qcj P w n1 n2 a1 a2 L1.length c1 L2.length c2 x1 x2 _ (fun u k=>Yh _ u ⟨n1,L1,x1⟩ ⟨n2,L2,x2⟩ _ _ (ha.here.kept k) (hb.here.kept k) ca cb)
theorem qj8 (b:Int)(hb1:-9223372036854775808≤b)(hb2:b≤9223372036854775807)(hc:cls b 64<3)(w:World):Calls Tryz.prog 35 #[.int .i64 b] w fun e w'=>(∃v,e=.returned v∧RNp (qj w.heap.size) w' v (nrm (qT b 64) (qx b 64).toNat (qE b 64)))∧Kept w w':=by
 have hK:Kept w (qh w):=(qlv w).alloc _ _
 have KE:Hid (Calls Tryz.prog 32 #[.int .i64 b,.int .i64 64] (qh w) fun e w'=>(∃v,e=.returned v∧RNp (qj (qh w).heap.size) w' v (nrm (qT b 64) (qx b 64).toNat (qE b 64)))∧Kept (qh w) w'):=kh b 64 hb1 hb2 (.inl rfl) hc (qh w)
 generalize nrm (qT b 64) (qx b 64).toNat (qE b 64)=NR at *
 go_enter Tryz.func35,Tryz.ntmps35
 go_wp2_with (first|(go_at_call 32;refine KE.out.mono ?_;rintro e w3 ⟨⟨r,rfl,hN⟩,k3⟩;obtain⟨vn,ao,vl,vc,vx,rfl⟩:=hN.shape5;obtain⟨f0,f1,f2,f3⟩:=qI k3))
 have hd:=(hN.done w.heap.size (fun b hb=>by simp[qj]at hb;omega) (.bool vn) (.slice ao vl vc) (.int .i64 vx)).imp (Q:=qj w.heap.size) (fun b hb=>by simp[qj]at hb ⊢;omega)
 have hkk:=(hK.trans k3).setCell (p:=⟨w.heap.size,0,none⟩) (qlj _) (.bool vn)|>.setCell (p:=⟨w.heap.size,1,none⟩) (qlj _) (.slice ao vl vc)|>.setCell (p:=⟨w.heap.size,2,none⟩) (qlj _) (.int .i64 vx)
 refine qlu (v:=.agg #[.bool vn,.slice ao vl vc,.int .i64 vx]) (by simp[results,Tryz.results35,go_sem,f0,f1,f2]) rfl ⟨⟨_,rfl,hd⟩,hkk⟩
theorem qfy (n:Int)(r:Nm)(w:World)(K:Hid (∀u,Kept w u→Calls Tryz.prog 122 #[.int .i64 n] u fun e w'=>(∃v,e=.returned v∧RNp (qj u.heap.size) w' v r)∧Kept u w')):Calls Tryz.prog 34 #[.int .i64 n] w fun e w'=>(∃v,e=.returned v∧RNp (qj w.heap.size) w' v r)∧Kept w w':=by
 have hK:Kept w (qh w):=(qlv w).alloc _ _
 have KE:Hid (Calls Tryz.prog 122 #[.int .i64 n] (qh w) fun e w'=>(∃v,e=.returned v∧RNp (qj (qh w).heap.size) w' v r)∧Kept (qh w) w'):=K.out _ hK
 clear K
 go_enter Tryz.func34,Tryz.ntmps34
 go_wp2_with (first|(go_at_call 122;refine KE.out.mono ?_;rintro e w3 ⟨⟨r,rfl,hN⟩,k3⟩;obtain⟨vn,ao,vl,vc,vx,rfl⟩:=hN.shape5;obtain⟨f0,f1,f2,f3⟩:=qI k3))
 have hd:=(hN.done w.heap.size (fun b hb=>by simp[qj]at hb;omega) (.bool vn) (.slice ao vl vc) (.int .i64 vx)).imp (Q:=qj w.heap.size) (fun b hb=>by simp[qj]at hb ⊢;omega)
 have hkk:=(hK.trans k3).setCell (p:=⟨w.heap.size,0,none⟩) (qlj _) (.bool vn)|>.setCell (p:=⟨w.heap.size,1,none⟩) (qlj _) (.slice ao vl vc)|>.setCell (p:=⟨w.heap.size,2,none⟩) (qlj _) (.int .i64 vx)
 refine qlu (v:=.agg #[.bool vn,.slice ao vl vc,.int .i64 vx]) (by simp[results,Tryz.results34,go_sem,f0,f1,f2]) rfl ⟨⟨_,rfl,hd⟩,hkk⟩
theorem Qb (v:Nat)(hv:v≠0)(h:v≤9223372036854775808):tzn v≤63:=by
 obtain⟨h1,h2⟩:=z8 v hv
 have h3:bl v≤64:=qN v 64 (by omega)
 have h4:=qu _ h2
 omega
theorem Kq (u v:Nat)(hu:u≤9223372036854775808)(hv:v≤9223372036854775808):pls (nrm false u 0) (nrm false v 0)=nrm false (u+v) 0:=by
 by_cases u0:u=0
 ·subst u0
  rw[Nat.zero_add]
  simp[pls,nrm]
 by_cases v0:v=0
 ·subst v0
  rw[Nat.add_zero]
  unfold pls
  split
  ·rename_i h
   have:=JC false u 0
   rw[this.2]at h
   exfalso
   have h1:=qC (u/2^tzn u)
   rw[h]at h1
   exact(z8 u u0).2 h1.symm
  ·simp[nrm]
 have tu:=Qb u u0 hu
 have tv:=Qb v v0 hv
 obtain⟨bu,nu⟩:=z8 u u0
 obtain⟨bv,nvv⟩:=z8 v v0
 obtain⟨-,mu⟩:=ve u u0
 obtain⟨-,mv⟩:=ve v v0
 have eu:nrm false u 0=⟨false,digs (u/2^tzn u),(tzn u:Int)⟩:=by
  rw[nrm,if_neg u0,Int.zero_add]
  congr 1
  unfold wrap64;omega
 have ev:nrm false v 0=⟨false,digs (v/2^tzn v),(tzn v:Int)⟩:=by
  rw[nrm,if_neg v0,Int.zero_add]
  congr 1
  unfold wrap64;omega
 rw[eu,ev]
 have d1:digs (u/2^tzn u)≠[]:=fun e=>by
  have:=qC (u/2^tzn u);rw[e]at this;exact nu this.symm
 have d2:digs (v/2^tzn v)≠[]:=fun e=>by
  have:=qC (v/2^tzn v);rw[e]at this;exact nvv this.symm
 unfold pls
 dsimp only
 rw[if_neg d1,if_neg d2]
 generalize tzn u=a at *
 generalize tzn v=b at *
 generalize u/2^a=q at *
 generalize v/2^b=r at *
 obtain⟨m,hm⟩:∃m:Nat,min a b=m:=⟨_,rfl⟩
 have hmi:min (a:Int) (b:Int)=(m:Int):=by omega
 rw[hmi,kL false false _ _ (a:Int) (b:Int) (m:Int) (a-m) (b-m) (by omega) (by omega),qC,qC]
 have e:sg false ((q*2^(a-m):Nat):Int)+sg false ((r*2^(b-m):Nat):Int)=((q*2^(a-m)+r*2^(b-m):Nat):Int):=by simp[sg]
 rw[e]
 have hd:decide (((q*2^(a-m)+r*2^(b-m):Nat):Int)<0)=false:=qlo (Int.not_lt.2 (Int.natCast_nonneg _))
 rw[hd,Int.natAbs_natCast]
 have hs:u+v=(q*2^(a-m)+r*2^(b-m))*2^m:=by
  rw[Nat.add_mul,qlk,qlk,←qlg,←qlg,show a-m+m=a by omega,show b-m+m=b by omega,←mu,←mv]
 rw[hs,qbt,Int.zero_add]
theorem Kt (w:World)(n:Int)(h0:-9223372036854775808≤n)(h1:n<0):Calls Tryz.prog 122 #[.int .i64 n] w fun e w'=>(∃r,e=.returned r∧RNp (qj w.heap.size) w' r (nrm true n.natAbs 0))∧Kept w w':=by
 have hK:Kept w (qh w):=(qlv w).alloc _ _
 obtain⟨m,hm⟩:∃m:Nat,-(n+1)=(m:Int):=⟨(-(n+1)).toNat,by omega⟩
 have z1:IntKind.i64.wrap (n+1)=n+1:=by rw[qc];omega
 have z2:IntKind.i64.wrap (-(n+1))=(m:Int):=by rw[qc];omega
 have hs:pls (nrm false m 0) (nrm false 1 0)=nrm false n.natAbs 0:=by
  rw[Kq m 1 (by omega) (by omega)]
  congr 1
  omega
 have K1:Hid (∀u,Kept (qh w) u→Calls Tryz.prog 122 #[.int .i64 (m:Int)] u fun e w'=>(∃r,e=.returned r∧RNp (qj (qh w).heap.size) w' r (nrm false m 0))∧Kept u w'):=fun u k=>(yR u m (by omega)).mono (by
  rintro e w' ⟨⟨r,rfl,hr⟩,kk⟩
  exact⟨⟨r,rfl,hr.imp (fun b hb=>qlp k.below.size hb)⟩,kk⟩)
 have K2:Hid (∀u,Kept (qh w) u→Calls Tryz.prog 122 #[.int .i64 1] u fun e w'=>(∃r,e=.returned r∧RNp (qj (qh w).heap.size) w' r (nrm false 1 0))∧Kept u w'):=fun u k=>(yR u 1 (by omega)).mono (by
  rintro e w' ⟨⟨r,rfl,hr⟩,kk⟩
  exact⟨⟨r,rfl,hr.imp (fun b hb=>qlp k.below.size hb)⟩,kk⟩)
 have hex:∀v:Nat,v≤9223372036854775808→-4000000≤(nrm false v 0).exp∧(nrm false v 0).exp≤4000000∧(nrm false v 0).mag.length<100000:=by
  intro v hv
  have hl:(digs v).length≤3:=ql v 3 (by omega)
  have hr:=JC false v 0
  have hl2:=yN (v/2^tzn v) v (Nat.div_le_self _ _)
  rw[hr.2]
  unfold nrm
  split
  ·exact⟨by decide,by decide,by omega⟩
  ·rename_i hv0
   have ht:=Qb v hv0 hv
   refine⟨?_,?_,by omega⟩<;>(dsimp only;unfold wrap64;omega)
 have KP:Hid (∀u va vb,Kept (qh w) u→RNp (qj (qh w).heap.size) u va (nrm false m 0)→RNp (qj (qh w).heap.size) u vb (nrm false 1 0)→Calls Tryz.prog 169 #[va,vb] u fun e w'=>(∃r,e=.returned r∧RNp (qj (qh w).heap.size) w' r (nrm false n.natAbs 0))∧Kept u w'):=fun u va vb k ha hb=>by
  have e1:=hex m (by omega)
  have e2:=hex 1 (by omega)
  have:=QF _ u _ _ va vb ha hb (qfl _ _ _) (qfl _ _ _) e1.2.2 e2.2.2 ⟨e1.1,e1.2.1⟩ ⟨e2.1,e2.2.1⟩
  rw[hs]at this
  refine this.mono ?_
  rintro e w' ⟨⟨r,rfl,hr⟩,kk⟩
  exact⟨⟨r,rfl,hr.imp (fun b hb=>hb.elim id (fun h=>qlp k.below.size h))⟩,kk⟩
 have hne:(nrm false n.natAbs 0).mag.length≠0:=by
  rw[(JC false n.natAbs 0).2]
  intro e
  have h2:=qC (n.natAbs/2^tzn n.natAbs)
  rw[List.length_eq_zero_iff.1 e]at h2
  exact(z8 n.natAbs (by omega)).2 h2.symm
 have hT:nrm true n.natAbs 0=⟨!(nrm false n.natAbs 0).neg,(nrm false n.natAbs 0).mag,(nrm false n.natAbs 0).exp⟩:=by
  have:n.natAbs≠0:=by omega
  simp[nrm,this]
 have KT:Hid (∀u va,Kept (qh w) u→RNp (qj (qh w).heap.size) u va (nrm false n.natAbs 0)→Calls Tryz.prog 203 #[va] u fun e w'=>(∃r,e=.returned r∧RNp (qj (qh w).heap.size) w' r (nrm true n.natAbs 0))∧Kept u w'):=fun u va k h=>by
  obtain⟨ao,c,rfl,hs2⟩:=h.shape
  refine(Qk _ ao _ c _ u).mono ?_
  rintro e w' ⟨rfl,kk⟩
  refine⟨⟨_,rfl,?_⟩,kk⟩
  rw[if_neg hne,hT]
  exact⟨_,rfl,hs2.kept kk⟩
 clear hs hex hne hT
 generalize nrm true n.natAbs 0=RR at *
 generalize nrm false n.natAbs 0=PP at *
 generalize nrm false m 0=MM at *
 generalize nrm false 1 0=NN at *
 go_enter Tryz.func122,Tryz.ntmps122
 go_wp2_with fail
 refine(K1.out _ (qlv _)).mono ?_
 rintro e w1 ⟨⟨r1,rfl,h1'⟩,k1⟩
 go_wp2_with fail
 refine(K2.out _ k1).mono ?_
 rintro e w2 ⟨⟨r2,rfl,h2'⟩,k2⟩
 go_wp2_with fail
 refine(KP.out _ _ _ (k1.trans k2) (h1'.kept k2) h2').mono ?_
 rintro e w3 ⟨⟨r3,rfl,h3'⟩,k3⟩
 go_wp2_with fail
 refine(KT.out _ _ (k1.trans (k2.trans k3)) h3').mono ?_
 rintro e w4 ⟨⟨r4,rfl,hN⟩,k4⟩
 have kk:=k1.trans (k2.trans (k3.trans k4))
 obtain⟨vn,ao,vl,vc,vx,rfl⟩:=hN.shape5
 obtain⟨f0,f1,f2,f3⟩:=qI kk
 have hd:=(hN.done w.heap.size (fun b hb=>by simp[qj]at hb;omega) (.bool vn) (.slice ao vl vc) (.int .i64 vx)).imp (Q:=qj w.heap.size) (fun b hb=>by simp[qj]at hb ⊢;omega)
 have hkk:=(hK.trans kk).setCell (p:=⟨w.heap.size,0,none⟩) (qlj _) (.bool vn)|>.setCell (p:=⟨w.heap.size,1,none⟩) (qlj _) (.slice ao vl vc)|>.setCell (p:=⟨w.heap.size,2,none⟩) (qlj _) (.int .i64 vx)
 go_wp2
 refine qlu (v:=.agg #[.bool vn,.slice ao vl vc,.int .i64 vx]) (by simp[results,Tryz.results122,go_sem,f0,f1,f2]) rfl ⟨⟨_,rfl,hd⟩,hkk⟩
end Go.Proofs.YtelbefihigkhjaaGreatDoor

namespace Go.Proofs.YtelbefihigkhjaaGreatDoor
open Go.ChangeShapes Go.WideShapes Go.ChangeAt Go.RowKit
set_option maxHeartbeats 16000000
set_option maxRecDepth 100000
set_option linter.unusedVariables false
set_option linter.unusedSimpArgs false
abbrev RT (w:World)(v:Value)(r:Nm):Prop:=RNp (fun _=>True) w v r
theorem RNp.rt {P:Nat→Prop}{w:World}{v:Value}{r:Nm}(h:RNp P w v r):RT w v r:=h.imp fun _ _=>trivial
def VN (P:Nat→Prop)(w:World)(v:Value)(s Z:Int):Prop:=∃r,RNp P w v r∧Vz s Z r
theorem VN.kept {P:Nat→Prop}{w w':World}{v:Value}{s Z:Int}(h:VN P w v s Z)(k:Kept w w'):VN P w' v s Z:=by
 obtain⟨r,h1,h2⟩:=h
 exact⟨r,h1.kept k,h2⟩
theorem VN.imp {P Q:Nat→Prop}{w:World}{v:Value}{s Z:Int}(h:VN P w v s Z)(hpq:∀b,P b→Q b):VN Q w v s Z:=by
 obtain⟨r,h1,h2⟩:=h
 exact⟨r,h1.imp hpq,h2⟩
theorem VN.here {P:Nat→Prop}{w:World}{v:Value}{s Z:Int}(h:VN P w v s Z):VN (fun b=>P b∧b<w.heap.size) w v s Z:=by
 obtain⟨r,h1,h2⟩:=h
 exact⟨r,h1.here,h2⟩
theorem RNp.set {P:Nat→Prop}{w:World}{v:Value}{r:Nm}(h:RNp P w v r)(p:Addr)(hp:∀b,P b→b≠p.block)(u:Value):RNp P (w.setCell p u) v r:=by
 obtain⟨s,e,hs⟩:=h
 exact⟨s,e,hs.set p hp u⟩
theorem VN.set {P:Nat→Prop}{w:World}{v:Value}{s Z:Int}(h:VN P w v s Z)(p:Addr)(hp:∀b,P b→b≠p.block)(u:Value):VN P (w.setCell p u) v s Z:=by
 obtain⟨r,h1,h2⟩:=h
 exact⟨r,h1.set p hp u,h2⟩
theorem VN.shape {P:Nat→Prop}{w:World}{v:Value}{s Z:Int}(h:VN P w v s Z):∃n ao l c x,v=.agg #[.bool n,.slice ao l c,.int .i64 x]:=by
 obtain⟨r,h1,h2⟩:=h
 exact h1.shape5
theorem Vz.pls {s X Y:Int}{x y r:Nm}(hx:Vz s X x)(hy:Vz s Y y)(hr:Vz s (X+Y) r):pls x y=r:=by
 have h:=hx.add hy hr
 rw[JA x y hx.ok hy.ok]at h
 split at h
 ·exact Option.some.inj h
 ·cases h
theorem Vz.mns {s X Y:Int}{x y r:Nm}(hx:Vz s X x)(hy:Vz s Y y)(hr:Vz s (X-Y) r):Go.Proofs.YtelbefihigkhjaaGreatDoor.pls x (trn y)=r:=by
 have h:=hx.sub hy hr
 rw[qhn x y hx.ok hy.ok]at h
 split at h
 ·exact Option.some.inj h
 ·cases h
theorem Vz.tms {s t X Y:Int}{x y r:Nm}(h1:-20000≤s)(h2:s≤0)(hx:Vz s X x)(hy:Vz s Y y)(ht:t=s+s)(hr:Vz t (X*Y) r):tms x y=r:=by
 have h:=Vz.mul h1 h2 hx hy ht hr.eq
 rw[qhm x y hx.ok hy.ok]at h
 split at h
 ·exact Option.some.inj h
 ·cases h
theorem qck (k:Nat)(hk:k≤9000):(2:Nat)^k≤2^jz:=qlh (by decide) (by have:jz=9000:=rfl;omega)
theorem VN.down {P:Nat→Prop}{w:World}{v:Value}{s t Z:Int}(k:Nat)(hk:s=t+k)(h:VN P w v s Z)(h1:-20000≤t)(h2:t≤0)(E:Nat)(hE:E≤9000)(hz:(Z*2^k).natAbs<2^E):VN P w v t (Z*2^k):=by
 obtain⟨r,a,b⟩:=h
 exact⟨r,a,b.down k hk h1 h2 (qlf hz (qck E hE))⟩
theorem qcl {P:Nat→Prop}{s X Y:Int}(h1:-20000≤s)(h2:s≤0)(E:Nat)(hE:E≤9000)(hb:(X+Y).natAbs<2^E)(va vb:Value)(w:World)(hP:∀c,w.heap.size≤c→P c)(ha:VN P w va s X)(hy:VN P w vb s Y):Calls Tryz.prog 37 #[va,vb] w fun e w'=>∃v,e=.returned v∧VN P w' v s (X+Y)∧Kept w w':=by
 obtain⟨x,ax,bx⟩:=ha
 obtain⟨y,ay,by'⟩:=hy
 obtain⟨r,hr⟩:=Qv s (X+Y) h1 h2 (qlf hb (qck E hE))
 refine(qio _ w x y va vb ax ay bx.ok by'.ok).mono ?_
 rintro e w' ⟨⟨v,rfl,hv⟩,k⟩
 rw[bx.pls by' hr]at hv
 exact⟨v,rfl,⟨r,hv.imp (fun b hb=>hb.elim id (hP b)),hr⟩,k⟩
theorem qip {P:Nat→Prop}{s X Y:Int}(h1:-20000≤s)(h2:s≤0)(E:Nat)(hE:E≤9000)(hb:(X-Y).natAbs<2^E)(va vb:Value)(w:World)(hP:∀c,w.heap.size≤c→P c)(ha:VN P w va s X)(hy:VN P w vb s Y):Calls Tryz.prog 39 #[va,vb] w fun e w'=>∃v,e=.returned v∧VN P w' v s (X-Y)∧Kept w w':=by
 obtain⟨x,ax,bx⟩:=ha
 obtain⟨y,ay,by'⟩:=hy
 obtain⟨r,hr⟩:=Qv s (X-Y) h1 h2 (qlf hb (qck E hE))
 refine(Yg _ w x y va vb ax ay bx.ok by'.ok).mono ?_
 rintro e w' ⟨⟨v,rfl,hv⟩,k⟩
 rw[bx.mns by' hr]at hv
 exact⟨v,rfl,⟨r,hv.imp (fun b hb=>hb.elim id (hP b)),hr⟩,k⟩
theorem ZN {P:Nat→Prop}{s t X Y:Int}(ht:t=s+s)(h1:-10000≤s)(h2:s≤0)(E:Nat)(hE:E≤9000)(hb:(X*Y).natAbs<2^E)(va vb:Value)(w:World)(hP:∀c,w.heap.size≤c→P c)(ha:VN P w va s X)(hy:VN P w vb s Y):Calls Tryz.prog 38 #[va,vb] w fun e w'=>∃v,e=.returned v∧VN P w' v t (X*Y)∧Kept w w':=by
 obtain⟨x,ax,bx⟩:=ha
 obtain⟨y,ay,by'⟩:=hy
 obtain⟨r,hr⟩:=Qv t (X*Y) (by omega) (by omega) (qlf hb (qck E hE))
 refine(qfx _ w x y va vb ax ay bx.ok by'.ok).mono ?_
 rintro e w' ⟨⟨v,rfl,hv⟩,k⟩
 rw[Vz.tms (by omega) h2 bx by' ht hr]at hv
 exact⟨v,rfl,⟨r,hv.imp (fun b hb=>hb.elim id (hP b)),hr⟩,k⟩
theorem Vp (b:Int)(hb1:-9223372036854775808≤b)(hb2:b≤9223372036854775807)(hc:cls b 64<3)(w:World):Calls Tryz.prog 35 #[.int .i64 b] w fun e w'=>∃v,e=.returned v∧VN (qj w.heap.size) w' v (-1074) (zf b 64)∧Kept w w':=by
 refine(qj8 b hb1 hb2 hc w).mono ?_
 rintro e w' ⟨⟨v,rfl,hv⟩,k⟩
 rw[←(Y0 b 64 (.inl rfl) hc).2]at hv
 exact⟨v,rfl,⟨_,hv,(jh b 64 (.inl rfl) hc).1⟩,k⟩
theorem qiq (b n:Int)(hn:n=64∨n=32)(hb1:-9223372036854775808≤b)(hb2:b≤9223372036854775807)(hc:cls b n<3)(w:World):Calls Tryz.prog 32 #[.int .i64 b,.int .i64 n] w fun e w'=>∃v,e=.returned v∧VN (qj w.heap.size) w' v (-1074) (zf b n)∧Kept w w':=by
 refine(kh b n hb1 hb2 hn hc w).mono ?_
 rintro e w' ⟨⟨v,rfl,hv⟩,k⟩
 rw[←(Y0 b n hn hc).2]at hv
 exact⟨v,rfl,⟨_,hv,(jh b n hn hc).1⟩,k⟩
theorem qfz {Z s:Int}{r:Nm}(h:cfm Z s=some r):nrm (decide (Z<0)) Z.natAbs s=r:=by
 unfold cfm at h
 rw[kJ]at h
 split at h
 ·exact Option.some.inj h
 ·cases h
theorem yv (n:Int)(h1:-9223372036854775808≤n)(h2:n≤9223372036854775807)(y:Nm)(hy:cfm n 0=some y)(w:World):Calls Tryz.prog 34 #[.int .i64 n] w fun e w'=>∃v,e=.returned v∧RNp (qj w.heap.size) w' v y∧Kept w w':=by
 have hr:=qfz hy
 refine(qfy n y w (fun u k=>?_)).mono ?_
 ·by_cases h0:n<0
  ·have:=Kt u n h1 h0
   rw[qln h0]at hr
   rw[hr]at this
   exact this
  ·obtain⟨m,rfl⟩:∃m:Nat,n=(m:Int):=⟨n.toNat,by omega⟩
   have:=yR u m (by omega)
   rw[qlo h0,Int.natAbs_natCast]at hr
   rw[hr]at this
   exact this
 ·rintro e w' ⟨⟨v,rfl,hv⟩,k⟩
  exact⟨v,rfl,hv,k⟩
theorem Qc (n:Int)(h1:-9223372036854775808≤n)(h2:n≤9223372036854775807)(w:World):Calls Tryz.prog 34 #[.int .i64 n] w fun e w'=>∃v,e=.returned v∧VN (qj w.heap.size) w' v 0 n∧Kept w w':=by
 obtain⟨y,hy⟩:=Qv 0 n (by decide) (by decide) (qlf (show n.natAbs<2^64 by omega) (qck 64 (by decide)))
 refine(yv n h1 h2 y hy.eq w).mono ?_
 rintro e w' ⟨v,rfl,hv,k⟩
 exact⟨v,rfl,⟨y,hv,hy⟩,k⟩
theorem qj9 (n:Int)(ng:Bool)(ao:Option Addr)(l c:Nat)(x q:Int)(o:Bool)(w:World)
  (K:Hid (∀u,Kept w u→Calls Tryz.prog 126 #[.agg #[.bool ng,.slice ao l c,.int .i64 x],.int .i64 n,.int .i64 0] u fun e w'=>e=.returned (.tuple #[.int .i64 q,.bool o])∧Kept u w')):
  Calls Tryz.prog 40 #[.agg #[.bool ng,.slice ao l c,.int .i64 x],.int .i64 n] w fun e w'=>e=.returned (.int .i64 q)∧Kept w w':=by
 obtain⟨X,hX⟩:∃X,X=w.alloc (.cells #[.bool ng,.slice ao l c,.int .i64 x] 78):=⟨_,rfl⟩
 have hK:Kept w X:=by rw[hX];exact(qlv w).alloc _ _
 go_enter Tryz.func40,Tryz.ntmps40
 go_wp2_with fail
 rw[←hX]
 refine(K.out _ hK).mono ?_
 rintro e w1 ⟨rfl,k1⟩
 go_wp2_with fail
 go_ret
 exact⟨rfl,hK.trans k1⟩
theorem Za (n:Int)(hn:n=64∨n=32)(r:Nm)(hv:vld r=true)(va:Value)(w:World)(h:RT w va r):Calls Tryz.prog 40 #[va,.int .i64 n] w fun e w'=>e=.returned (.int .i64 (rzN n 0 r))∧Kept w w':=by
 obtain⟨ao,c,rfl,hs⟩:=h.shape
 refine qj9 n r.neg ao r.mag.length c r.exp _ _ w (fun u k=>Y2 n 0 hn r.neg ao r.mag.length c r.exp (rzN n 0 r) (oxN n 0 r) u (fun u2 k2=>?_))
 have hl:=(hs.rl.kept k).kept k2
 rcases hn with rfl|rfl
 ·exact qif 0 (.inl rfl) r hv _ u2 hl
 ·exact qig 0 (.inl rfl) r hv _ u2 hl
theorem qka (m:Nat)(hm2:m<9007199254740992):∃r:Nat,r<9218868437227405312∧(∀S:Nat,S=1021→zf (r:Int) 64=(m:Int)*2^S)∧∀w:World,Calls Tryz.prog 124 #[.bool false,.int .i64 m,.int .i64 (-53),.int .i64 64] w fun e w'=>∃g,e=.returned (.tuple #[.int .i64 r,.bool g])∧Kept w w':=by
 by_cases hm:m=0
 ·subst hm
  refine⟨0,by decide,fun S hS=>?_,fun w=>?_⟩
  ·rw[Int.natCast_zero,Int.zero_mul];decide+kernel
  ·refine(Qr false (-53) w).mono ?_
   rintro e w' ⟨rfl,hk⟩
   exact⟨true,rfl,hk⟩
 ·obtain⟨S,hS⟩:∃S:Nat,S=1021:=⟨_,rfl⟩
  obtain⟨r,h1,h2,h3⟩:=qc3 m (by omega) hm2 S hS
  refine⟨r,h1,fun S' hS'=>?_,fun w=>(h3 w).mono ?_⟩
  ·rw[show S'=S by omega]
   have hrb:qs FloatKind.f64.format r=rv (cbn 64) r:=rfl
   have hk:pz 64 (r:Int)=(r:Int):=by unfold pz;rw[if_pos rfl,if_neg (by omega)]
   have hi:ifn 64=9218868437227405312:=rfl
   obtain⟨l,v⟩:=qjb 64 (r:Int) (.inl rfl) (by omega) (by omega) (-1075) (by decide) (by decide)
   rw[hk]at v
   have hc:cls (r:Int) 64<3:=by
    have:=(JG 64 (r:Int) (.inl rfl) (by omega) (by omega)).2 ⟨by omega,by omega⟩
    rw[hk]at this
    exact this
   have z:=(jh (r:Int) 64 (.inl rfl) hc).1
   have hkv:kvz 64 (-1075) (r:Int)=((rv (cbn 64) r*2^1:Nat):Int):=by
    unfold kvz
    rw[if_neg (by omega),Int.natAbs_natCast]
    rfl
   rw[hkv,←hrb,h2]at v
   have h5:vz (-1075) (ofN (r:Int) 64)=2*vz (-1074) (ofN (r:Int) 64):=by
    unfold vz
    by_cases hne:(ofN (r:Int) 64).mag=[]
    ·rw[hne];cases (ofN (r:Int) 64).neg<;>simp[sg,nv]
    ·have hl:=z.lies.low hne
     obtain⟨j,hj⟩:∃j:Nat,((ofN (r:Int) 64).exp- -1074).toNat=j:=⟨_,rfl⟩
     rw[hj,show((ofN (r:Int) 64).exp- -1075).toNat=j+1 by omega,Int.pow_succ]
     generalize (nv (ofN (r:Int) 64).mag:Int)=q
     generalize (2:Int)^j=P
     cases (ofN (r:Int) 64).neg
     ·simp only[sg];rw[←Int.mul_assoc,Int.mul_comm];rfl
     ·simp only[sg,if_true];rw[←Int.mul_assoc,Int.mul_comm (q*P) 2,Int.mul_neg]
   rw[v,z.val]at h5
   have h6:((m*2^S*2^1:Nat):Int)=2*((m:Int)*2^S):=by
    push_cast
    rw[Int.mul_comm]
   rw[h6]at h5
   omega
  ·rintro e w' ⟨rfl,hk⟩
   exact⟨true,rfl,hk⟩
end Go.Proofs.YtelbefihigkhjaaGreatDoor

namespace Go.Proofs.YtelbefihigkhjaaGreatDoor
open Go.ChangeShapes Go.WideShapes Go.ChangeAt Go.RowKit
set_option maxHeartbeats 16000000
set_option maxRecDepth 100000
set_option linter.unusedSimpArgs false
set_option linter.unusedVariables false
theorem qgy (b:Int):cls b 32=4∨jo b=true∧2147483648≤b∨jo b=false∧b<2147483648:=by
 by_cases hc:cls b 32=4
 ·exact Or.inl hc
 ·have hv:=zd b hc
  refine Or.inr ?_
  have ht:thr b=true:=by simp[thr,hv]
  have e:jo b=decide (2147483648≤b):=by simp[jo,ht,sgn]
  by_cases h:2147483648≤b
  ·exact Or.inl ⟨by rw[e];simpa using h,h⟩
  ·exact Or.inr ⟨by rw[e];simpa using h,by omega⟩
theorem xH (b:Int)(hb1:-9223372036854775808≤b)(hb2:b≤9223372036854775807)(w:World):Calls Tryz.prog 240 #[.agg #[.int .i64 64,.int .i64 53,.int .i64 4503599627370496,.int .i64 2047,.int .i64 (-1074),.int .i64 1024,.int .i64 9218868437227405312,.int .i64 (-9223372036854775808),.int .i64 9221120237041090561],.int .i64 b] w fun e w'=>e=.returned (.bool (sgn b 64))∧Kept w w':=by
 go_enter Tryz.func240,Tryz.ntmps240
 go_wp2_with (first|(go_at_call 171;refine(Jk _ hb1 hb2 _).mono ?_;rintro e w2 ⟨rfl,hk2⟩))
 go_ret
 exact⟨rfl,((qlv _).alloc _ _).trans hk2⟩
theorem xI (b:Int)(w:World):Calls Tryz.prog 240 #[.agg #[.int .i64 32,.int .i64 24,.int .i64 8388608,.int .i64 255,.int .i64 (-149),.int .i64 128,.int .i64 2139095040,.int .i64 2147483648,.int .i64 2143289345],.int .i64 b] w fun e w'=>e=.returned (.bool (jo b))∧Kept w w':=by
 go_enter Tryz.func240,Tryz.ntmps240
 go_wp2_with (first|(go_at_call 171;refine(Jl _ _).mono ?_;rintro e w2 ⟨rfl,hk2⟩))
 go_ret
 exact⟨rfl,((qlv _).alloc _ _).trans hk2⟩
theorem qav (b:Int)(hb1:-9223372036854775808≤b)(hb2:b≤9223372036854775807)(w:World):Calls Tryz.prog 174 #[.int .i64 b,.int .i64 64] w fun e w'=>e=.returned (.int .i64 (if cls b 64=4 then 9221120237041090561 else if cls b 64=0 then 0 else b))∧Kept w w':=by
 obtain⟨g,hs,hg⟩:∃g:Bool,sgn b 64=g∧(g=true∧b<0∨g=false∧0≤b):=⟨_,rfl,by by_cases h:b<0<;>simp[sgn,h];omega⟩
 rcases hg with ⟨rfl,hg⟩|⟨rfl,hg⟩
 all_goals
  go_enter Tryz.func174,Tryz.ntmps174
  go_wp2_with (first|(go_at_call 116;refine(xD _).mono ?_;rintro e w1 ⟨rfl,hk1⟩)|(go_at_call 91;refine(qz _ _ hb1 hb2 _).mono ?_;rintro e w2 ⟨rfl,hk2⟩;first|(have hK:=hK.trans hk2;have hcl:=qe hK)|(have hK:=hk2;have hcl:=qe hK))|(go_at_call 240;refine(xH _ hb1 hb2 _).mono ?_;rintro e w3 ⟨rfl,hk3⟩;have hK:=hK.trans hk3;have hcl:=qe hK))
  all_goals
   go_ret
   refine⟨qt ?_,(hk1.alloc _ _).trans hK⟩
   try unfold wrap64
   (try simp only[Bool.not_eq_true',Bool.not_eq_false',Bool.not_eq_true,bne_iff_ne,bne_eq_false_iff_eq,beq_iff_eq,beq_eq_false_iff_ne,ne_eq]at *)<;>((repeat' split)<;>omega)
theorem qaw (b:Int)(hb1:-9223372036854775808≤b)(hb2:b≤9223372036854775807)(w:World):Calls Tryz.prog 174 #[.int .i64 b,.int .i64 32] w fun e w'=>e=.returned (.int .i64 (if cls b 32=4 then 2143289345 else if cls b 32=0 then 0 else b))∧Kept w w':=by
 obtain⟨g,hs,hg⟩:∃g:Bool,jo b=g∧(cls b 32=4∨g=true∧2147483648≤b∨g=false∧b<2147483648):=⟨_,rfl,qgy b⟩
 rcases hg with hg|⟨rfl,hg⟩|⟨rfl,hg⟩
 all_goals
  go_enter Tryz.func174,Tryz.ntmps174
  go_wp2_with (first|(go_at_call 116;refine(xE _).mono ?_;rintro e w1 ⟨rfl,hk1⟩)|(go_at_call 91;refine(qz _ _ hb1 hb2 _).mono ?_;rintro e w2 ⟨rfl,hk2⟩;first|(have hK:=hK.trans hk2;have hcl:=qe hK)|(have hK:=hk2;have hcl:=qe hK))|(go_at_call 240;refine(xI _ _).mono ?_;rintro e w3 ⟨rfl,hk3⟩;have hK:=hK.trans hk3;have hcl:=qe hK))
  all_goals
   go_ret
   refine⟨qt ?_,(hk1.alloc _ _).trans hK⟩
   try unfold wrap64
   (try simp only[Bool.not_eq_true',Bool.not_eq_false',Bool.not_eq_true,bne_iff_ne,bne_eq_false_iff_eq,beq_iff_eq,beq_eq_false_iff_ne,ne_eq]at *)<;>((repeat' split)<;>omega)
theorem qd5 (b n:Int)(h1:(n==32)=false)(h2:(n==64)=false)(w:World):Calls Tryz.prog 174 #[.int .i64 b,.int .i64 n] w fun e w'=>e=.returned (.int .i64 (0))∧Kept w w':=by
 go_enter Tryz.func174,Tryz.ntmps174
 go_wp2_with (first|(go_at_call 116;refine(qgw _ h1 h2 _).mono ?_;rintro e w1 ⟨rfl,hk1⟩))
 go_ret
 exact⟨rfl,hk1.alloc _ _⟩
end Go.Proofs.YtelbefihigkhjaaGreatDoor
