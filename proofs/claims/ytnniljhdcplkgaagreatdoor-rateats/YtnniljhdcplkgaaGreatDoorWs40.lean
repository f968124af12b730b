/-  -/
import Derived.Test.YtnniljhdcplkgaaGreatDoorWs31
import Derived.Test.YtnniljhdcplkgaaGreatDoorWs33
import Derived.Test.YtnniljhdcplkgaaGreatDoorWs34
import Derived.Test.YtnniljhdcplkgaaGreatDoorWs36
import Derived.Test.YtnniljhdcplkgaaGreatDoorWs39
import Derived.Test.YtnniljhdcplkgaaGreatDoorWs38
import Derived.Test.YtnniljhdcplkgaaGreatDoorWs13
import Derived.Outline
namespace Go.Proofs.YtnniljhdcplkgaaGreatDoor
open Go.ChangeShapes Go.WideShapes Go.ChangeAt Go.RowKit
set_option maxHeartbeats 16000000
set_option maxRecDepth 100000
set_option linter.unusedVariables false
set_option linter.unusedSimpArgs false
theorem w18Times (P:Nat→Prop)(w:World)(n1 n2:Bool)(a1 a2:Option Addr)(l1 c1 l2 c2:Nat)(x1 x2:Int)(r:Nm)(KP:Hid (∀u,Kept w u→Calls Tryz.prog 28 #[.agg #[.bool n1,.slice a1 l1 c1,.int .i64 x1],.agg #[.bool n2,.slice a2 l2 c2,.int .i64 x2]] u fun e w'=>(∃v,e=.returned v∧RNp (fun c=>(P c∧c<w.heap.size)∨u.heap.size≤c) w' v r)∧Kept u w')):Calls Tryz.prog 14 #[.agg #[.bool n1,.slice a1 l1 c1,.int .i64 x1],.agg #[.bool n2,.slice a2 l2 c2,.int .i64 x2]] w fun e w'=>(∃v,e=.returned v∧RNp (fun c=>P c∨w.heap.size≤c) w' v r)∧Kept w w':=by
 obtain⟨W,hW⟩:∃W,W=(((w.alloc (.cells #[.bool n1,.slice a1 l1 c1,.int .i64 x1] 43)).alloc (.cells #[.bool n2,.slice a2 l2 c2,.int .i64 x2] 43)).alloc nilNum):=⟨_,rfl⟩
 have hK:Kept w W:=by rw[hW];exact(((Kept.refl w).alloc _ _).alloc _ _).alloc _ _
 have hWs:W.heap.size=w.heap.size+3:=by rw[hW];simp
 have HS:Hid (∀u,Kept W u→((u.cell? ⟨w.heap.size,0,none⟩=some (.bool n1)∧u.cell? ⟨w.heap.size,1,none⟩=some (.slice a1 l1 c1))∧u.cell? ⟨w.heap.size,2,none⟩=some (.int .i64 x1))∧(u.cell? ⟨w.heap.size+1,0,none⟩=some (.bool n2)∧u.cell? ⟨w.heap.size+1,1,none⟩=some (.slice a2 l2 c2))∧u.cell? ⟨w.heap.size+1,2,none⟩=some (.int .i64 x2)):=fun u k=>⟨⟨⟨((k.below.cell (p:=⟨w.heap.size,0,none⟩) (by show w.heap.size<W.heap.size;omega)).trans (by rw[hW];simp[go_sem])),((k.below.cell (p:=⟨w.heap.size,1,none⟩) (by show w.heap.size<W.heap.size;omega)).trans (by rw[hW];simp[go_sem]))⟩,((k.below.cell (p:=⟨w.heap.size,2,none⟩) (by show w.heap.size<W.heap.size;omega)).trans (by rw[hW];simp[go_sem]))⟩,⟨((k.below.cell (p:=⟨w.heap.size+1,0,none⟩) (by show w.heap.size+1<W.heap.size;omega)).trans (by rw[hW];simp[go_sem])),((k.below.cell (p:=⟨w.heap.size+1,1,none⟩) (by show w.heap.size+1<W.heap.size;omega)).trans (by rw[hW];simp[go_sem]))⟩,((k.below.cell (p:=⟨w.heap.size+1,2,none⟩) (by show w.heap.size+1<W.heap.size;omega)).trans (by rw[hW];simp[go_sem]))⟩
 have HC:Hid (W.cell? ⟨w.heap.size+1+1,0,none⟩=some (.bool false)∧W.cell? ⟨w.heap.size+1+1,1,none⟩=some (.slice none 0 0)∧W.cell? ⟨w.heap.size+1+1,2,none⟩=some (.int .i64 0)∧∀o,W.frozen? ⟨w.heap.size+1+1,o,none⟩=false):=by rw[hW];exact⟨by simp[go_sem],by simp[go_sem],by simp[go_sem],fun o=>by simp[go_sem]⟩
 go_enter Tryz.func14,Tryz.ntmps14
 go_upto_region 1 with fail
 rw[←hW]
 clear hW
 have e0:=HS.out _ (Kept.refl W)
 go_wp2_with fail
 refine(KP.out _ hK).mono ?_
 rintro e x2 ⟨⟨v,rfl,hN⟩,kr2⟩
 obtain⟨vn,va,vl,vc,vx,rfl⟩:=hN.shape5
 have hc:=HC.out
 obtain⟨f0,f1,f2,f3⟩:=res_cells (w.heap.size+1+1) (by omega) kr2 hc.1 hc.2.1 hc.2.2.1 hc.2.2.2
 have kF:=(hK.trans kr2).setCell (p:=⟨w.heap.size+1+1,0,none⟩) (by show w.heap.size≤w.heap.size+1+1;omega) (.bool vn)|>.setCell (p:=⟨w.heap.size+1+1,1,none⟩) (by show w.heap.size≤w.heap.size+1+1;omega) (.slice va vl vc)|>.setCell (p:=⟨w.heap.size+1+1,2,none⟩) (by show w.heap.size≤w.heap.size+1+1;omega) (.int .i64 vx)
 have hd:=(hN.imp (Q:=fun c=>(P c∧c<w.heap.size)∨W.heap.size≤c) (fun b hb=>hb.imp id (fun h=>h))).done (w.heap.size+1+1) (fun b hb=>by rcases hb with h|h<;>omega) (.bool vn) (.slice va vl vc) (.int .i64 vx)
 go_wp2
 refine bodyPost_ret (v:=.agg #[.bool vn,.slice va vl vc,.int .i64 vx]) (by simp[results,Tryz.results14,go_sem,f0,f1,f2]) rfl ⟨⟨_,rfl,hd.imp (fun b hb=>by rcases hb with h|h;exact Or.inl h.1;exact Or.inr (by omega))⟩,kF⟩
theorem times18 (P:Nat→Prop)(w:World)(a b:Nm)(va vb:Value)(ha:RNp P w va a)(hb:RNp P w vb b)(ca:vld a=true)(cb:vld b=true):
  Calls Tryz.prog 14 #[va,vb] w fun e w'=>(∃v,e=.returned v∧RNp (PL P w) w' v (tms a b))∧Kept w w':=by
 obtain⟨n1,L1,x1⟩:=a
 obtain⟨n2,L2,x2⟩:=b
 obtain⟨a1,c1,rfl,-⟩:=ha.shape
 obtain⟨a2,c2,rfl,-⟩:=hb.shape
 exact w18Times P w n1 n2 a1 a2 L1.length c1 L2.length c2 x1 x2 _ (fun u k=>times2_any _ u ⟨n1,L1,x1⟩ ⟨n2,L2,x2⟩ _ _ (ha.here.kept k) (hb.here.kept k) ca cb)
theorem num18 (b:Int)(hb1:-9223372036854775808≤b)(hb2:b≤9223372036854775807)(hc:cls b 64<3)(w:World):Calls Tryz.prog 15 #[.int .i64 b] w fun e w'=>(∃v,e=.returned v∧RNp (Fresh w.heap.size) w' v (nrm (pneg b 64) (pmag b 64).toNat (pexp b 64)))∧Kept w w':=by
 have hK:Kept w (numW w):=(Kept.refl w).alloc _ _
 have KE:Hid (Calls Tryz.prog 29 #[.int .i64 b,.int .i64 64] (numW w) fun e w'=>(∃v,e=.returned v∧RNp (Fresh (numW w).heap.size) w' v (nrm (pneg b 64) (pmag b 64).toNat (pexp b 64)))∧Kept (numW w) w'):=rexact2_any b 64 hb1 hb2 (.inl rfl) hc (numW w)
 generalize nrm (pneg b 64) (pmag b 64).toNat (pexp b 64)=NR at *
 go_enter Tryz.func15,Tryz.ntmps15
 go_wp2_with (first|(go_at_call 29;refine KE.out.mono ?_;rintro e w3 ⟨⟨r,rfl,hN⟩,k3⟩;obtain⟨vn,ao,vl,vc,vx,rfl⟩:=hN.shape5;obtain⟨f0,f1,f2,f3⟩:=num_cells k3))
 have hd:=(hN.done w.heap.size (fun b hb=>by simp[Fresh]at hb;omega) (.bool vn) (.slice ao vl vc) (.int .i64 vx)).imp (Q:=Fresh w.heap.size) (fun b hb=>by simp[Fresh]at hb ⊢;omega)
 have hkk:=(hK.trans k3).setCell (p:=⟨w.heap.size,0,none⟩) (Nat.le_refl _) (.bool vn)|>.setCell (p:=⟨w.heap.size,1,none⟩) (Nat.le_refl _) (.slice ao vl vc)|>.setCell (p:=⟨w.heap.size,2,none⟩) (Nat.le_refl _) (.int .i64 vx)
 refine bodyPost_ret (v:=.agg #[.bool vn,.slice ao vl vc,.int .i64 vx]) (by simp[results,Tryz.results15,go_sem,f0,f1,f2]) rfl ⟨⟨_,rfl,hd⟩,hkk⟩
theorem whole18 (n:Int)(r:Nm)(w:World)(K:Hid (∀u,Kept w u→Calls Tryz.prog 30 #[.int .i64 n] u fun e w'=>(∃v,e=.returned v∧RNp (Fresh u.heap.size) w' v r)∧Kept u w')):Calls Tryz.prog 16 #[.int .i64 n] w fun e w'=>(∃v,e=.returned v∧RNp (Fresh w.heap.size) w' v r)∧Kept w w':=by
 have hK:Kept w (numW w):=(Kept.refl w).alloc _ _
 have KE:Hid (Calls Tryz.prog 30 #[.int .i64 n] (numW w) fun e w'=>(∃v,e=.returned v∧RNp (Fresh (numW w).heap.size) w' v r)∧Kept (numW w) w'):=K.out _ hK
 clear K
 go_enter Tryz.func16,Tryz.ntmps16
 go_wp2_with (first|(go_at_call 30;refine KE.out.mono ?_;rintro e w3 ⟨⟨r,rfl,hN⟩,k3⟩;obtain⟨vn,ao,vl,vc,vx,rfl⟩:=hN.shape5;obtain⟨f0,f1,f2,f3⟩:=num_cells k3))
 have hd:=(hN.done w.heap.size (fun b hb=>by simp[Fresh]at hb;omega) (.bool vn) (.slice ao vl vc) (.int .i64 vx)).imp (Q:=Fresh w.heap.size) (fun b hb=>by simp[Fresh]at hb ⊢;omega)
 have hkk:=(hK.trans k3).setCell (p:=⟨w.heap.size,0,none⟩) (Nat.le_refl _) (.bool vn)|>.setCell (p:=⟨w.heap.size,1,none⟩) (Nat.le_refl _) (.slice ao vl vc)|>.setCell (p:=⟨w.heap.size,2,none⟩) (Nat.le_refl _) (.int .i64 vx)
 refine bodyPost_ret (v:=.agg #[.bool vn,.slice ao vl vc,.int .i64 vx]) (by simp[results,Tryz.results16,go_sem,f0,f1,f2]) rfl ⟨⟨_,rfl,hd⟩,hkk⟩
theorem RNp.set {P:Nat→Prop}{w:World}{v:Value}{r:Nm}(h:RNp P w v r)(p:Addr)(hp:∀b,P b→b≠p.block)(u:Value):RNp P (w.setCell p u) v r:=by
 obtain⟨s,e,hs⟩:=h
 exact⟨s,e,hs.set p hp u⟩
abbrev RT (w:World)(v:Value)(r:Nm):Prop:=RNp (fun _=>True) w v r
theorem RNp.rt {P:Nat→Prop}{w:World}{v:Value}{r:Nm}(h:RNp P w v r):RT w v r:=h.imp fun _ _=>trivial
theorem cfm_nrm {Z s:Int}{r:Nm}(h:cfm Z s=some r):nrm (decide (Z<0)) Z.natAbs s=r:=by
 unfold cfm at h
 rw[frm_nrm]at h
 split at h
 ·exact Option.some.inj h
 ·cases h
theorem rnear (n:Int)(ng:Bool)(ao:Option Addr)(l c:Nat)(x q:Int)(o:Bool)(w:World)
  (K:Hid (∀u,Kept w u→Calls Tryz.prog 53 #[.agg #[.bool ng,.slice ao l c,.int .i64 x],.int .i64 n,.int .i64 0] u fun e w'=>e=.returned (.tuple #[.int .i64 q,.bool o])∧Kept u w')):
  Calls Tryz.prog 31 #[.agg #[.bool ng,.slice ao l c,.int .i64 x],.int .i64 n] w fun e w'=>e=.returned (.int .i64 q)∧Kept w w':=by
 obtain⟨X,hX⟩:∃X,X=w.alloc (.cells #[.bool ng,.slice ao l c,.int .i64 x] 43):=⟨_,rfl⟩
 have hK:Kept w X:=by rw[hX];exact(Kept.refl w).alloc _ _
 go_enter Tryz.func31,Tryz.ntmps31
 go_wp2_with fail
 rw[←hX]
 refine(K.out _ hK).mono ?_
 rintro e w1 ⟨rfl,k1⟩
 go_wp2_with fail
 go_ret
 exact⟨rfl,hK.trans k1⟩
theorem vnear (n:Int)(hn:n=64∨n=32)(r:Nm)(hv:vld r=true)(va:Value)(w:World)(h:RT w va r):Calls Tryz.prog 31 #[va,.int .i64 n] w fun e w'=>e=.returned (.int .i64 (rzN n 0 r))∧Kept w w':=by
 obtain⟨ao,c,rfl,hs⟩:=h.shape
 refine rnear n r.neg ao r.mag.length c r.exp _ _ w (fun u k=>ref2round n 0 hn r.neg ao r.mag.length c r.exp (rzN n 0 r) (oxN n 0 r) u (fun u2 k2=>?_))
 have hl:=(hs.rl.kept k).kept k2
 rcases hn with rfl|rfl
 ·exact rto_64 0 (.inl rfl) r hv _ u2 hl
 ·exact rto_32 0 (.inl rfl) r hv _ u2 hl
theorem rq_any (n way:Int)(hn:n=64∨n=32)(n1 n2:Bool)(a1 a2:Option Addr)(l1 c1 l2 c2:Nat)(x1 x2 b:Int)(od:Bool)(w:World)(KT:Hid (∀u,Kept w u→Calls Tryz.prog 46 #[knd n,.agg #[.bool n1,.slice a1 l1 c1,.int .i64 x1],.agg #[.bool n2,.slice a2 l2 c2,.int .i64 x2],.int .i64 way] u fun e w'=>e=.returned (.tuple #[.int .i64 b,.bool od])∧Kept u w')):Calls Tryz.prog 13 #[.agg #[.bool n1,.slice a1 l1 c1,.int .i64 x1],.agg #[.bool n2,.slice a2 l2 c2,.int .i64 x2],.int .i64 n,.int .i64 way] w fun e w'=>e=.returned (.int .i64 b)∧Kept w w':=by
 have KO:Hid (∀u,Kept w u→Calls Tryz.prog 27 #[.agg #[.bool n1,.slice a1 l1 c1,.int .i64 x1],.agg #[.bool n2,.slice a2 l2 c2,.int .i64 x2],.int .i64 n,.int .i64 way] u fun e w'=>e=.returned (.tuple #[.int .i64 b,.bool od])∧Kept u w'):=fun u k=>ref2quot n way hn n1 n2 a1 a2 l1 c1 l2 c2 x1 x2 b od u (fun v kv=>KT.out v (k.trans kv))
 clear KT
 go_enter Tryz.func13,Tryz.ntmps13
 go_wp2_with (first|(go_at_call 27;refine(KO.out _ (((Kept.refl w).alloc _ _).alloc _ _)).mono ?_;rintro e w1 ⟨rfl,k1⟩))
 go_ret
 exact⟨rfl,(((Kept.refl w).alloc _ _).alloc _ _).trans k1⟩
abbrev NI (l:List Nat)(w:World)(v:Value)(r:Nm):Prop:=RNp (fun c=>c∉l) w v r
theorem ni_call {l:List Nat}{W u:World}{v:Value}{r:Nm}(h:RNp (Fresh W.heap.size) u v r)(hl:∀b∈l,b<W.heap.size):NI l u v r:=h.imp fun c hc hm=>by
 have h1:=hl c hm
 have h2:W.heap.size≤c:=hc
 omega
theorem ni_alloc {l:List Nat}{W W':World}{v:Value}{r:Nm}(b:Nat)(h:NI l W v r)(k:Kept W W')(hb:b=W.heap.size):NI (b::l) W' v r:=(h.here.kept k).imp fun c hc hm=>by
 rcases List.mem_cons.1 hm with e|e
 ·have:=hc.2;omega
 ·exact hc.1 e
theorem ni_set {l:List Nat}{W:World}{v:Value}{r:Nm}{b:Nat}(h:NI l W v r)(hb:b∈l)(o:Nat)(x:Value):NI l (W.setCell ⟨b,o,none⟩ x) v r:=RNp.set h ⟨b,o,none⟩ (fun c hc e=>hc (by rw[show c=b from e];exact hb)) x
theorem RNp.rt2 {P:Nat→Prop}{w:World}{v:Value}{r:Nm}(h:RNp P w v r):RT w v r:=h.imp fun _ _=>trivial
theorem whole_v (n:Int)(h0:0≤n)(h1:n≤9223372036854775807)(w:World):Calls Tryz.prog 16 #[.int .i64 n] w fun e w'=>(∃v,e=.returned v∧RNp (Fresh w.heap.size) w' v (nrm false n.toNat 0))∧Kept w w':=by
 refine whole18 n _ w (fun u k=>?_)
 have:=whole_pos u n.toNat (by omega)
 rwa [show((n.toNat:Nat):Int)=n by omega]at this
theorem num_v (b:Int)(hb1:-9223372036854775808≤b)(hb2:b≤9223372036854775807)(hc:cls b 64<3)(w:World):Calls Tryz.prog 15 #[.int .i64 b] w fun e w'=>(∃v,e=.returned v∧RNp (Fresh w.heap.size) w' v (ofN b 64))∧Kept w w':=by
 have:=num18 b hb1 hb2 hc w
 rwa [←(ofN_nrm b 64 (.inl rfl) hc).2]at this
end Go.Proofs.YtnniljhdcplkgaaGreatDoor

namespace Go.Proofs.YtnniljhdcplkgaaGreatDoor
open Go.ChangeShapes Go.WideShapes Go.ChangeAt Go.RowKit
set_option maxHeartbeats 16000000
set_option maxRecDepth 100000
set_option linter.unusedVariables false
set_option linter.unusedSimpArgs false
theorem times_ni (l:List Nat)(w:World)(hl:∀b∈l,b<w.heap.size)(a b:Nm)(va vb:Value)(ha:NI l w va a)(hb:NI l w vb b)(ca:vld a=true)(cb:vld b=true):Calls Tryz.prog 14 #[va,vb] w fun e w'=>∃v,e=.returned v∧NI l w' v (tms a b)∧Kept w w':=
 (times18 _ w a b va vb ha hb ca cb).mono fun e w' ⟨⟨v,h1,h2⟩,k⟩=>⟨v,h1,h2.imp (fun c hc hm=>hc.elim (fun h=>h hm) (fun h=>by have:=hl c hm;omega)),k⟩
theorem pow18_walk (n1:Bool)(a1:Option Addr)(l1 c1:Nat)(x1:Int)(n:Nat)(hn6:n≤1000000)(f:Nat→Nm)(x:Nm)(w:World)(hx:RT w (.agg #[.bool n1,.slice a1 l1 c1,.int .i64 x1]) x)
  (KW:Hid (∀u,Kept w u→Calls Tryz.prog 16 #[.int .i64 1] u fun e w'=>∃v,e=.returned v∧RNp (Fresh u.heap.size) w' v (f 0)∧Kept u w'))
  (KT:Hid (∀u i va vb l,i<n→(∀b∈l,b<u.heap.size)→NI l u va (f i)→NI l u vb x→Calls Tryz.prog 14 #[va,vb] u fun e w'=>∃v,e=.returned v∧NI l w' v (f (i+1))∧Kept u w')):
  Calls Tryz.prog 32 #[.agg #[.bool n1,.slice a1 l1 c1,.int .i64 x1],.int .i64 (n:Int)] w fun e w'=>∃v,e=.returned v∧RT w' v (f n)∧Kept w w':=by
 obtain⟨X,hX⟩:∃X,X=(w.alloc (.cells #[.bool n1,.slice a1 l1 c1,.int .i64 x1] 43)).alloc (.cells #[.bool false,.slice none 0 0,.int .i64 0] 43):=⟨_,rfl⟩
 have hK:Kept w X:=by rw[hX];exact((Kept.refl w).alloc _ _).alloc _ _
 have hP0:N3 X w.heap.size (.bool n1) (.slice a1 l1 c1) (.int .i64 x1):=by rw[hX];exact(N3.new w _ _ _ 43).alloc _ _
 have hP1:N3 X (w.heap.size+1) (.bool false) (.slice none 0 0) (.int .i64 0):=by
  rw[hX]
  have:=N3.new (w.alloc (.cells #[.bool n1,.slice a1 l1 c1,.int .i64 x1] 43)) (.bool false) (.slice none 0 0) (.int .i64 0) 43
  simpa using this
 obtain⟨B2,hB2⟩:∃B,B=w.heap.size:=⟨_,rfl⟩
 obtain⟨B4,hB4⟩:∃B,B=w.heap.size+1:=⟨_,rfl⟩
 rw[←hB2]at hP0
 rw[←hB4]at hP1
 have hx0:=hx.here
 have HB:=hidr (show w.heap.size≤B2∧w.heap.size≤B4∧B2≠B4 from⟨by omega,by omega,by omega⟩)
 go_enter Tryz.func32,Tryz.ntmps32
 go_upto_region 1 with fail
 rw[←hX,←hB4,←hB2]
 clear hX hB2 hB4
 go_upto_region 2 with (first|(go_at_call 16;refine(KW.out _ hK).mono ?_;rintro e w1 ⟨v1,rfl,N1,k1⟩;obtain⟨n5,a5,l5,c5,x5,rfl⟩:=N1.shape5))
 obtain⟨Y,hY⟩:∃Y,Y=w1.alloc (.cells #[.bool n5,.slice a5 l5 c5,.int .i64 x5] 43):=⟨_,rfl⟩
 have kY:Kept w1 Y:=by rw[hY];exact(Kept.refl w1).alloc _ _
 have hP5:N3 Y w1.heap.size (.bool n5) (.slice a5 l5 c5) (.int .i64 x5):=by rw[hY];exact N3.new w1 _ _ _ 43
 obtain⟨B5,hB5⟩:∃B,B=w1.heap.size:=⟨_,rfl⟩
 have hlt2:=hP0.lt
 have hlt4:=hP1.lt
 have hX1:=k1.below.size
 have M1:NI [B5,B2,B4] Y (.agg #[.bool n5,.slice a5 l5 c5,.int .i64 x5]) (f 0):=ni_alloc B5 (ni_call (l:=[B2,B4]) N1 (fun b hb=>by simp at hb;rcases hb with rfl|rfl<;>omega)) kY hB5
 have hXw:=hK.below.size
 have MX:NI [B5,B2,B4] Y (.agg #[.bool n1,.slice a1 l1 c1,.int .i64 x1]) x:=(hx0.kept (hK.trans (k1.trans kY))).imp (fun c hc hm=>by
  have h1:=hc.2
  have h2:=HB.out
  simp at hm
  omega)
 rw[←hB5]at hP5
 rw[←hY,←hB5]
 have HB5:=hidr (show w.heap.size≤B5∧B2≠B5∧B4≠B5 from⟨by omega,by omega,by omega⟩)
 clear hY hB5
 have H0:=hidr (show(∃n a l c e,N3 Y B5 (.bool n) (.slice a l c) (.int .i64 e)∧NI [B5,B2,B4] Y (.agg #[.bool n,.slice a l c,.int .i64 e]) (f 0))∧N3 Y B2 (.bool n1) (.slice a1 l1 c1) (.int .i64 x1)∧N3 Y B4 (.bool false) (.slice none 0 0) (.int .i64 0)∧NI [B5,B2,B4] Y (.agg #[.bool n1,.slice a1 l1 c1,.int .i64 x1]) x∧Kept w Y from⟨⟨n5,a5,l5,c5,x5,hP5,M1⟩,hP0.kept (k1.trans kY),hP1.kept (k1.trans kY),MX,hK.trans (k1.trans kY)⟩)
 clear N1 k1 kY hP0 hP1 hP5 hK M1 MX hlt2 hlt4 hX1 hXw hx hx0
 go_wp2_with fail
 go_loopw [6] (fun iv wr=>∃i:Nat,i≤n∧iv=.int .i64 (i:Int)∧Hid ((∃n a l c e,N3 wr B5 (.bool n) (.slice a l c) (.int .i64 e)∧NI [B5,B2,B4] wr (.agg #[.bool n,.slice a l c,.int .i64 e]) (f i))∧N3 wr B2 (.bool n1) (.slice a1 l1 c1) (.int .i64 x1)∧N3 wr B4 (.bool false) (.slice none 0 0) (.int .i64 0)∧NI [B5,B2,B4] wr (.agg #[.bool n1,.slice a1 l1 c1,.int .i64 x1]) x∧Kept w wr)) (fun iv _=>n-(intOf iv).toNat)
 case atStart=>exact⟨0,Nat.zero_le _,rfl,H0⟩
 case round=>
  clear H0
  obtain⟨i,hi,rfl,HR⟩:=hrel
  obtain⟨⟨n5,a5,l5,c5,x5,p5,N5⟩,p2,p4,NX,kr⟩:=HR.out
  have lt5:=p5.lt
  have lt2:=p2.lt
  have lt4:=p4.lt
  have c0:=p5.c0
  have c1':=p5.c1
  have c2:=p5.c2
  have fz:=p5.fz
  have d0:=p2.c0
  have d1:=p2.c1
  have d2:=p2.c2
  by_cases hin:i<n
  ·have hin':(i:Int)<(n:Int):=by omega
   have z1:IntKind.i64.wrap ((i:Int)+1)=(i:Int)+1:=by rw[wrap_i64];omega
   have HP:=hidr (And.intro p5 (And.intro p2 (And.intro p4 (And.intro NX kr))))
   have KT2:=hidr (KT.out wr i _ _ [B5,B2,B4] hin (fun b hb=>by simp at hb;rcases hb with rfl|rfl|rfl<;>assumption) N5 NX)
   clear p5 p2 p4 N5 NX HR
   go_upto_region 4 with (first|(go_at_call 14;refine KT2.out.mono ?_;rintro e w2 ⟨v2,rfl,N2,k2⟩;obtain⟨n2,a2,l2,c2',x2,rfl⟩:=N2.shape5;clear c0 c1' c2 fz d0 d1 d2;obtain⟨c0,c1',c2,fz⟩:=HP.out.1.kept k2))
   clear c0 c1' c2 fz
   obtain⟨Y1,hY1⟩:∃Y,Y=st3w w2 B5 (.bool n2) (.slice a2 l2 c2') (.int .i64 x2):=⟨_,rfl⟩
   have P5:=(HP.out.1.kept k2).set (.bool n2) (.slice a2 l2 c2') (.int .i64 x2)
   have P2:=(HP.out.2.1.kept k2).far HB5.out.2.1 (.bool n2) (.slice a2 l2 c2') (.int .i64 x2)
   have P4:=(HP.out.2.2.1.kept k2).far HB5.out.2.2 (.bool n2) (.slice a2 l2 c2') (.int .i64 x2)
   have KR:=kept_st3 (kr.trans k2) HB5.out.1 (.bool n2) (.slice a2 l2 c2') (.int .i64 x2)
   have N2':=ni_set (ni_set (ni_set N2 (b:=B5) (by simp) 0 (.bool n2)) (b:=B5) (by simp) 1 (.slice a2 l2 c2')) (b:=B5) (by simp) 2 (.int .i64 x2)
   have NX':=ni_set (ni_set (ni_set (HP.out.2.2.2.1.kept k2) (b:=B5) (by simp) 0 (.bool n2)) (b:=B5) (by simp) 1 (.slice a2 l2 c2')) (b:=B5) (by simp) 2 (.int .i64 x2)
   rw[show((w2.setCell ⟨B5,0,none⟩ (.bool n2)).setCell ⟨B5,1,none⟩ (.slice a2 l2 c2')).setCell ⟨B5,2,none⟩ (.int .i64 x2)=Y1 from hY1.symm]at N2' NX' ⊢
   rw[←hY1]at P5 P2 P4 KR
   have HF:=hidr (show(∃n a l c e,N3 Y1 B5 (.bool n) (.slice a l c) (.int .i64 e)∧NI [B5,B2,B4] Y1 (.agg #[.bool n,.slice a l c,.int .i64 e]) (f (i+1)))∧N3 Y1 B2 (.bool n1) (.slice a1 l1 c1) (.int .i64 x1)∧N3 Y1 B4 (.bool false) (.slice none 0 0) (.int .i64 0)∧NI [B5,B2,B4] Y1 (.agg #[.bool n1,.slice a1 l1 c1,.int .i64 x1]) x∧Kept w Y1 from⟨⟨_,_,_,_,_,P5,N2'⟩,P2,P4,NX',KR⟩)
   clear P5 P2 P4 KR N2' NX' HP hY1 N2 k2 KT2
   go_wp2_with fail
   go_roundw
   case rel=>exact⟨i+1,by omega,by go_num,HF⟩
   case measure=>simp[intOf];omega
  ·obtain rfl:i=n:=by omega
   obtain⟨q0,q1,q2,qf⟩:=p4
   have Q4:=hidr (show N3 wr B4 (.bool false) (.slice none 0 0) (.int .i64 0)from⟨q0,q1,q2,qf⟩)
   have hne:¬B4=B5:=HB5.out.2.2
   have hne':¬B5=B4:=fun e=>hne e.symm
   have NF:=ni_set (ni_set (ni_set N5 (b:=B4) (by simp) 0 (.bool n5)) (b:=B4) (by simp) 1 (.slice a5 l5 c5)) (b:=B4) (by simp) 2 (.int .i64 x5)
   have hFF:=hidr (And.intro NF.rt2 (kept_st3 kr HB.out.2.1 (.bool n5) (.slice a5 l5 c5) (.int .i64 x5)))
   clear p5 p2 N5 NX HR NF d0 d1 d2
   go_wp2_with fail
   obtain⟨f0,f1,f2,ff⟩:=Q4.out.set (.bool n5) (.slice a5 l5 c5) (.int .i64 x5)
   exact bodyPost_ret (v:=.agg #[.bool n5,.slice a5 l5 c5,.int .i64 x5]) (by simp[results,Tryz.results32,go_sem,f0,f1,f2,q0,q1,q2]) rfl ⟨_,rfl,hFF.out.1,hFF.out.2⟩
theorem least_any (a b:Int)(w:World):Calls Tryz.prog 33 #[.int .i64 a,.int .i64 b] w fun e w'=>e=.returned (.int .i64 (min a b))∧Kept w w':=by
 by_cases h:a<b
 ·rw[Int.min_eq_left (by omega)]
  go_enter Tryz.func33,Tryz.ntmps33
  go_wp2_with fail
  go_ret
  exact⟨rfl,Kept.refl w⟩
 ·rw[Int.min_eq_right (by omega)]
  go_enter Tryz.func33,Tryz.ntmps33
  go_wp2_with fail
  go_ret
  exact⟨rfl,Kept.refl w⟩
end Go.Proofs.YtnniljhdcplkgaaGreatDoor

namespace Go.Proofs.YtnniljhdcplkgaaGreatDoor
open Go.ChangeShapes Go.WideShapes Go.ChangeAt Go.RowKit
set_option maxHeartbeats 16000000
set_option maxRecDepth 100000
set_option linter.unusedSimpArgs false
set_option linter.unusedVariables false
theorem sg32_or (b:Int):cls b 32=4∨sg32 b=true∧2147483648≤b∨sg32 b=false∧b<2147483648:=by
 by_cases hc:cls b 32=4
 ·exact Or.inl hc
 ·have hv:=cls_valid b hc
  refine Or.inr ?_
  have ht:thr b=true:=by simp[thr,hv]
  have e:sg32 b=decide (2147483648≤b):=by simp[sg32,ht,sgn]
  by_cases h:2147483648≤b
  ·exact Or.inl ⟨by rw[e];simpa using h,h⟩
  ·exact Or.inr ⟨by rw[e];simpa using h,by omega⟩
theorem negative_64 (b:Int)(hb1:-9223372036854775808≤b)(hb2:b≤9223372036854775807)(w:World):Calls Tryz.prog 138 #[.agg #[.int .i64 64,.int .i64 53,.int .i64 4503599627370496,.int .i64 2047,.int .i64 (-1074),.int .i64 1024,.int .i64 9218868437227405312,.int .i64 (-9223372036854775808),.int .i64 9221120237041090561],.int .i64 b] w fun e w'=>e=.returned (.bool (sgn b 64))∧Kept w w':=by
 go_enter Tryz.func138,Tryz.ntmps138
 go_wp2_with (first|(go_at_call 60;refine(cut_64 _ hb1 hb2 _).mono ?_;rintro e w2 ⟨rfl,hk2⟩))
 go_ret
 exact⟨rfl,((Kept.refl _).alloc _ _).trans hk2⟩
theorem negative_32 (b:Int)(w:World):Calls Tryz.prog 138 #[.agg #[.int .i64 32,.int .i64 24,.int .i64 8388608,.int .i64 255,.int .i64 (-149),.int .i64 128,.int .i64 2139095040,.int .i64 2147483648,.int .i64 2143289345],.int .i64 b] w fun e w'=>e=.returned (.bool (sg32 b))∧Kept w w':=by
 go_enter Tryz.func138,Tryz.ntmps138
 go_wp2_with (first|(go_at_call 60;refine(cut_32 _ _).mono ?_;rintro e w2 ⟨rfl,hk2⟩))
 go_ret
 exact⟨rfl,((Kept.refl _).alloc _ _).trans hk2⟩
theorem rcanon_64 (b:Int)(hb1:-9223372036854775808≤b)(hb2:b≤9223372036854775807)(w:World):Calls Tryz.prog 116 #[.int .i64 b,.int .i64 64] w fun e w'=>e=.returned (.int .i64 (if cls b 64=4 then 9221120237041090561 else if cls b 64=0 then 0 else b))∧Kept w w':=by
 obtain⟨g,hs,hg⟩:∃g:Bool,sgn b 64=g∧(g=true∧b<0∨g=false∧0≤b):=⟨_,rfl,by by_cases h:b<0<;>simp[sgn,h];omega⟩
 rcases hg with ⟨rfl,hg⟩|⟨rfl,hg⟩
 all_goals
  go_enter Tryz.func116,Tryz.ntmps116
  go_wp2_with (first|(go_at_call 45;refine(of_64 _).mono ?_;rintro e w1 ⟨rfl,hk1⟩)|(go_at_call 37;refine(rclass_any _ _ hb1 hb2 _).mono ?_;rintro e w2 ⟨rfl,hk2⟩;first|(have hK:=hK.trans hk2;have hcl:=laid_cell hK)|(have hK:=hk2;have hcl:=laid_cell hK))|(go_at_call 138;refine(negative_64 _ hb1 hb2 _).mono ?_;rintro e w3 ⟨rfl,hk3⟩;have hK:=hK.trans hk3;have hcl:=laid_cell hK))
  all_goals
   go_ret
   refine⟨ret_int ?_,(hk1.alloc _ _).trans hK⟩
   try unfold wrap64
   (try simp only[Bool.not_eq_true',Bool.not_eq_false',Bool.not_eq_true,bne_iff_ne,bne_eq_false_iff_eq,beq_iff_eq,beq_eq_false_iff_ne,ne_eq]at *)<;>((repeat' split)<;>omega)
theorem rcanon_32 (b:Int)(hb1:-9223372036854775808≤b)(hb2:b≤9223372036854775807)(w:World):Calls Tryz.prog 116 #[.int .i64 b,.int .i64 32] w fun e w'=>e=.returned (.int .i64 (if cls b 32=4 then 2143289345 else if cls b 32=0 then 0 else b))∧Kept w w':=by
 obtain⟨g,hs,hg⟩:∃g:Bool,sg32 b=g∧(cls b 32=4∨g=true∧2147483648≤b∨g=false∧b<2147483648):=⟨_,rfl,sg32_or b⟩
 rcases hg with hg|⟨rfl,hg⟩|⟨rfl,hg⟩
 all_goals
  go_enter Tryz.func116,Tryz.ntmps116
  go_wp2_with (first|(go_at_call 45;refine(of_32 _).mono ?_;rintro e w1 ⟨rfl,hk1⟩)|(go_at_call 37;refine(rclass_any _ _ hb1 hb2 _).mono ?_;rintro e w2 ⟨rfl,hk2⟩;first|(have hK:=hK.trans hk2;have hcl:=laid_cell hK)|(have hK:=hk2;have hcl:=laid_cell hK))|(go_at_call 138;refine(negative_32 _ _).mono ?_;rintro e w3 ⟨rfl,hk3⟩;have hK:=hK.trans hk3;have hcl:=laid_cell hK))
  all_goals
   go_ret
   refine⟨ret_int ?_,(hk1.alloc _ _).trans hK⟩
   try unfold wrap64
   (try simp only[Bool.not_eq_true',Bool.not_eq_false',Bool.not_eq_true,bne_iff_ne,bne_eq_false_iff_eq,beq_iff_eq,beq_eq_false_iff_ne,ne_eq]at *)<;>((repeat' split)<;>omega)
theorem rcanon_0 (b n:Int)(h1:(n==32)=false)(h2:(n==64)=false)(w:World):Calls Tryz.prog 116 #[.int .i64 b,.int .i64 n] w fun e w'=>e=.returned (.int .i64 (0))∧Kept w w':=by
 go_enter Tryz.func116,Tryz.ntmps116
 go_wp2_with (first|(go_at_call 45;refine(of_0 _ h1 h2 _).mono ?_;rintro e w1 ⟨rfl,hk1⟩))
 go_ret
 exact⟨rfl,hk1.alloc _ _⟩
end Go.Proofs.YtnniljhdcplkgaaGreatDoor

namespace Go.Proofs.YtnniljhdcplkgaaGreatDoor
open Go.ChangeShapes Go.WideShapes Go.ChangeAt Go.RowKit
set_option maxHeartbeats 16000000
set_option maxRecDepth 100000
theorem cls_zero_64 (b:Int)(hb1:-9223372036854775808≤b)(hb2:b≤9223372036854775807):cls b 64=0↔b=0∨b=-9223372036854775808:=by
 unfold cls clsOf
 rw[if_pos rfl]
 (repeat' split)<;>omega
theorem cls_zero_32 (b:Int):cls b 32=0↔b=0∨b=2147483648:=by
 unfold cls clsOf
 rw[if_neg (by decide),if_pos rfl]
 (repeat' split)<;>omega
theorem rcanon_any (b n:Int)(hb1:-9223372036854775808≤b)(hb2:b≤9223372036854775807)(w:World):Calls Tryz.prog 116 #[.int .i64 b,.int .i64 n] w fun e w'=>e=.returned (.int .i64 (can b n))∧Kept w w':=by
 by_cases h64:n=64
 ·subst h64
  refine(rcanon_64 b hb1 hb2 w).mono ?_
  rintro e w' ⟨rfl,hk⟩
  refine⟨ret_int ?_,hk⟩
  have hz:=cls_zero_64 b hb1 hb2
  by_cases hc:cls b 64=4
  ·simp[can,isnum,nanOf,hc]
  ·have hi:isnum b 64=true:=by simp[isnum,hc]
   unfold can
   rw[if_neg hc,if_pos hi,if_pos rfl]
   (repeat' split)<;>omega
 ·by_cases h32:n=32
  ·subst h32
   refine(rcanon_32 b hb1 hb2 w).mono ?_
   rintro e w' ⟨rfl,hk⟩
   refine⟨ret_int ?_,hk⟩
   have hz:=cls_zero_32 b
   by_cases hc:cls b 32=4
   ·simp[can,isnum,nanOf,hc]
   ·have hi:isnum b 32=true:=by simp[isnum,hc]
    unfold can
    rw[if_neg hc,if_pos hi,if_neg (by decide:¬(32:Int)=64)]
    (repeat' split)<;>omega
  ·refine(rcanon_0 b n (by simpa using h32) (by simpa using h64) w).mono ?_
   rintro e w' ⟨rfl,hk⟩
   exact⟨ret_int (by simp[can,isnum_0 b n h64 h32,nanOf_0 n h64 h32]),hk⟩
end Go.Proofs.YtnniljhdcplkgaaGreatDoor

namespace Go.Proofs.YtnniljhdcplkgaaGreatDoor
open Go.ChangeShapes Go.WideShapes Go.ChangeAt Go.RowKit
set_option maxHeartbeats 16000000
set_option maxRecDepth 100000
set_option linter.unusedVariables false
end Go.Proofs.YtnniljhdcplkgaaGreatDoor

namespace Go.Proofs.YtnniljhdcplkgaaGreatDoor
open Go.ChangeShapes Go.WideShapes Go.ChangeAt Go.RowKit
set_option maxHeartbeats 16000000
set_option maxRecDepth 100000
set_option linter.unusedVariables false
set_option linter.unusedSimpArgs false
end Go.Proofs.YtnniljhdcplkgaaGreatDoor
