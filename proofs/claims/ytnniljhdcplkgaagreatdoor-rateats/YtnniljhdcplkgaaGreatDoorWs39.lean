/-  -/
import Derived.Test.YtnniljhdcplkgaaGreatDoorWs38
import Derived.Laws.Shifts
namespace Go.Proofs.YtnniljhdcplkgaaGreatDoor
open Go.ChangeShapes Go.WideShapes Go.ChangeAt Go.RowKit
set_option maxHeartbeats 16000000
set_option maxRecDepth 100000
set_option linter.unusedVariables false
set_option linter.unusedSimpArgs false
theorem hidr {p:Prop}(h:p):Hid p:=h
theorem sch_cells (w:World)(kd ba fa wa ev tt:Int)(t:TypeId)(X:World)(hX:X=w.alloc (.cells #[.int .i64 kd,.int .i64 ba,.int .i64 fa,.int .i64 wa,.int .i64 ev,.int .i64 tt] t))(u:World)(k:Kept X u):u.cell? ⟨w.heap.size,0,none⟩=some (.int .i64 kd)∧u.cell? ⟨w.heap.size,1,none⟩=some (.int .i64 ba)∧u.cell? ⟨w.heap.size,2,none⟩=some (.int .i64 fa)∧u.cell? ⟨w.heap.size,3,none⟩=some (.int .i64 wa)∧u.cell? ⟨w.heap.size,4,none⟩=some (.int .i64 ev)∧u.cell? ⟨w.heap.size,5,none⟩=some (.int .i64 tt):=by
 have hs:w.heap.size<X.heap.size:=by rw[hX];simp
 refine⟨(k.below.cell (p:=⟨w.heap.size,0,none⟩) hs).trans ?_,(k.below.cell (p:=⟨w.heap.size,1,none⟩) hs).trans ?_,(k.below.cell (p:=⟨w.heap.size,2,none⟩) hs).trans ?_,(k.below.cell (p:=⟨w.heap.size,3,none⟩) hs).trans ?_,(k.below.cell (p:=⟨w.heap.size,4,none⟩) hs).trans ?_,(k.below.cell (p:=⟨w.heap.size,5,none⟩) hs).trans ?_⟩<;>(rw[hX];simp[go_sem])
theorem constant_walk (kd ba fa wa ev tt:Int)(k:Int)(x:Nm)(s:Int)(w:World)
  (KO:Hid (∀u,Kept w u→Calls Tryz.prog 42 #[.int .i64 ba,.int .i64 64] u fun e w'=>∃v,e=.returned v∧New u w' v x∧Kept u w'))
  (KR:Hid (∀u v,Kept w u→NumAt u v x→Calls Tryz.prog 90 #[v,.int .i64 64] u fun e w'=>e=.returned (.int .i64 s)∧Kept u w')):
  Calls Tryz.prog 61 #[.agg #[.int .i64 kd,.int .i64 ba,.int .i64 fa,.int .i64 wa,.int .i64 ev,.int .i64 tt],.int .i64 k] w fun e w'=>e=.returned (.int .i64 s)∧Kept w w':=by
 obtain⟨X,hX⟩:∃X,X=w.alloc (.cells #[.int .i64 kd,.int .i64 ba,.int .i64 fa,.int .i64 wa,.int .i64 ev,.int .i64 tt] 23):=⟨_,rfl⟩
 have hK:Kept w X:=by rw[hX];exact(Kept.refl w).alloc _ _
 have HS0:Hid (∀u,Kept X u→u.cell? ⟨w.heap.size,0,none⟩=some (.int .i64 kd)∧u.cell? ⟨w.heap.size,1,none⟩=some (.int .i64 ba)∧u.cell? ⟨w.heap.size,2,none⟩=some (.int .i64 fa)∧u.cell? ⟨w.heap.size,3,none⟩=some (.int .i64 wa)∧u.cell? ⟨w.heap.size,4,none⟩=some (.int .i64 ev)∧u.cell? ⟨w.heap.size,5,none⟩=some (.int .i64 tt)):=fun u k=>sch_cells w kd ba fa wa ev tt _ X hX u k
 obtain⟨B0,hB0⟩:∃B,B=w.heap.size:=⟨_,rfl⟩
 rw[←hB0]at HS0
 go_enter Tryz.func61,Tryz.ntmps61
 go_upto_region 1 with fail
 rw[←hX,←hB0]
 have hBX:B0<X.heap.size:=by rw[hB0,hX];simp
 clear hX hB0
 obtain⟨c0,c1,c2,c3,c4,c5⟩:=HS0.out _ (Kept.refl X)
 go_wp2_with fail
 refine(KO.out _ hK).mono ?_
 rintro e w1 ⟨v1,rfl,N1,k1⟩
 clear c0 c1 c2 c3 c4 c5
 go_wp2_with fail
 refine(KR.out _ _ (hK.trans k1) N1.numAt).mono ?_
 rintro e w2 ⟨rfl,k2⟩
 go_wp2_with fail
 go_ret
 exact⟨rfl,hK.trans (k1.trans k2)⟩
theorem linear_walk (kd ba fa wa ev tt:Int)(k:Int)(s:Int)(w:World)
  (KF:Hid (∀u,Kept w u→Calls Tryz.prog 92 #[.agg #[.int .i64 kd,.int .i64 ba,.int .i64 fa,.int .i64 wa,.int .i64 ev,.int .i64 tt],.int .i64 k,.int .i64 1] u fun e w'=>e=.returned (.int .i64 s)∧Kept u w')):
  Calls Tryz.prog 63 #[.agg #[.int .i64 kd,.int .i64 ba,.int .i64 fa,.int .i64 wa,.int .i64 ev,.int .i64 tt],.int .i64 k] w fun e w'=>e=.returned (.int .i64 s)∧Kept w w':=by
 obtain⟨X,hX⟩:∃X,X=w.alloc (.cells #[.int .i64 kd,.int .i64 ba,.int .i64 fa,.int .i64 wa,.int .i64 ev,.int .i64 tt] 23):=⟨_,rfl⟩
 have hK:Kept w X:=by rw[hX];exact(Kept.refl w).alloc _ _
 have HS0:Hid (∀u,Kept X u→u.cell? ⟨w.heap.size,0,none⟩=some (.int .i64 kd)∧u.cell? ⟨w.heap.size,1,none⟩=some (.int .i64 ba)∧u.cell? ⟨w.heap.size,2,none⟩=some (.int .i64 fa)∧u.cell? ⟨w.heap.size,3,none⟩=some (.int .i64 wa)∧u.cell? ⟨w.heap.size,4,none⟩=some (.int .i64 ev)∧u.cell? ⟨w.heap.size,5,none⟩=some (.int .i64 tt)):=fun u k=>sch_cells w kd ba fa wa ev tt _ X hX u k
 obtain⟨B0,hB0⟩:∃B,B=w.heap.size:=⟨_,rfl⟩
 rw[←hB0]at HS0
 go_enter Tryz.func63,Tryz.ntmps63
 go_upto_region 1 with fail
 rw[←hX,←hB0]
 have hBX:B0<X.heap.size:=by rw[hB0,hX];simp
 clear hX hB0
 obtain⟨c0,c1,c2,c3,c4,c5⟩:=HS0.out _ (Kept.refl X)
 go_wp2_with fail
 refine(KF.out _ hK).mono ?_
 rintro e w1 ⟨rfl,k1⟩
 clear c0 c1 c2 c3 c4 c5
 go_wp2_with fail
 go_ret
 exact⟨rfl,hK.trans k1⟩
theorem power_walk (kd ba fa wa ev tt:Int)(k:Int)(s:Int)(w:World)
  (KF:Hid (∀u,Kept w u→Calls Tryz.prog 92 #[.agg #[.int .i64 kd,.int .i64 ba,.int .i64 fa,.int .i64 wa,.int .i64 ev,.int .i64 tt],.int .i64 k,.int .i64 ev] u fun e w'=>e=.returned (.int .i64 s)∧Kept u w')):
  Calls Tryz.prog 66 #[.agg #[.int .i64 kd,.int .i64 ba,.int .i64 fa,.int .i64 wa,.int .i64 ev,.int .i64 tt],.int .i64 k] w fun e w'=>e=.returned (.int .i64 s)∧Kept w w':=by
 obtain⟨X,hX⟩:∃X,X=w.alloc (.cells #[.int .i64 kd,.int .i64 ba,.int .i64 fa,.int .i64 wa,.int .i64 ev,.int .i64 tt] 23):=⟨_,rfl⟩
 have hK:Kept w X:=by rw[hX];exact(Kept.refl w).alloc _ _
 have HS0:Hid (∀u,Kept X u→u.cell? ⟨w.heap.size,0,none⟩=some (.int .i64 kd)∧u.cell? ⟨w.heap.size,1,none⟩=some (.int .i64 ba)∧u.cell? ⟨w.heap.size,2,none⟩=some (.int .i64 fa)∧u.cell? ⟨w.heap.size,3,none⟩=some (.int .i64 wa)∧u.cell? ⟨w.heap.size,4,none⟩=some (.int .i64 ev)∧u.cell? ⟨w.heap.size,5,none⟩=some (.int .i64 tt)):=fun u k=>sch_cells w kd ba fa wa ev tt _ X hX u k
 obtain⟨B0,hB0⟩:∃B,B=w.heap.size:=⟨_,rfl⟩
 rw[←hB0]at HS0
 go_enter Tryz.func66,Tryz.ntmps66
 go_upto_region 1 with fail
 rw[←hX,←hB0]
 have hBX:B0<X.heap.size:=by rw[hB0,hX];simp
 clear hX hB0
 obtain⟨c0,c1,c2,c3,c4,c5⟩:=HS0.out _ (Kept.refl X)
 go_wp2_with fail
 refine(KF.out _ hK).mono ?_
 rintro e w1 ⟨rfl,k1⟩
 clear c0 c1 c2 c3 c4 c5
 go_wp2_with fail
 go_ret
 exact⟨rfl,hK.trans k1⟩
theorem rroot_walk (kd ba fa wa ev tt:Int)(k ek:Int)(hek:IntKind.i64.wrap (ev+k)=ek)(x y z1 z2 t:Nm)(s:Int)(w:World)
  (KO:Hid (∀u,Kept w u→Calls Tryz.prog 42 #[.int .i64 ba,.int .i64 64] u fun e w'=>∃v,e=.returned v∧New u w' v x∧Kept u w'))
  (KM1:Hid (∀u v,Kept w u→NumAt u v x→Calls Tryz.prog 41 #[v,v] u fun e w'=>∃v,e=.returned v∧New u w' v y∧Kept u w'))
  (KI1:Hid (∀u,Kept w u→Calls Tryz.prog 23 #[.int .i64 ev] u fun e w'=>∃v,e=.returned v∧New u w' v z1∧Kept u w'))
  (KM2:Hid (∀u v v',Kept w u→NumAt u v y→NumAt u v' z1→Calls Tryz.prog 41 #[v,v'] u fun e w'=>∃v,e=.returned v∧New u w' v t∧Kept u w'))
  (KI2:Hid (∀u,Kept w u→Calls Tryz.prog 23 #[.int .i64 ek] u fun e w'=>∃v,e=.returned v∧New u w' v z2∧Kept u w'))
  (KR:Hid (∀u v v',Kept w u→NumAt u v t→NumAt u v' z2→Calls Tryz.prog 93 #[v,v',.int .i64 64] u fun e w'=>e=.returned (.int .i64 s)∧Kept u w')):
  Calls Tryz.prog 64 #[.agg #[.int .i64 kd,.int .i64 ba,.int .i64 fa,.int .i64 wa,.int .i64 ev,.int .i64 tt],.int .i64 k] w fun e w'=>e=.returned (.int .i64 s)∧Kept w w':=by
 obtain⟨X,hX⟩:∃X,X=w.alloc (.cells #[.int .i64 kd,.int .i64 ba,.int .i64 fa,.int .i64 wa,.int .i64 ev,.int .i64 tt] 23):=⟨_,rfl⟩
 have hK:Kept w X:=by rw[hX];exact(Kept.refl w).alloc _ _
 have HS0:Hid (∀u,Kept X u→u.cell? ⟨w.heap.size,0,none⟩=some (.int .i64 kd)∧u.cell? ⟨w.heap.size,1,none⟩=some (.int .i64 ba)∧u.cell? ⟨w.heap.size,2,none⟩=some (.int .i64 fa)∧u.cell? ⟨w.heap.size,3,none⟩=some (.int .i64 wa)∧u.cell? ⟨w.heap.size,4,none⟩=some (.int .i64 ev)∧u.cell? ⟨w.heap.size,5,none⟩=some (.int .i64 tt)):=fun u k=>sch_cells w kd ba fa wa ev tt _ X hX u k
 obtain⟨B0,hB0⟩:∃B,B=w.heap.size:=⟨_,rfl⟩
 rw[←hB0]at HS0
 go_enter Tryz.func64,Tryz.ntmps64
 go_upto_region 1 with fail
 rw[←hX,←hB0]
 have hBX:B0<X.heap.size:=by rw[hB0,hX];simp
 clear hX hB0
 obtain⟨c0,c1,c2,c3,c4,c5⟩:=HS0.out _ (Kept.refl X)
 go_upto_region 2 with (first|(go_at_call 42;refine(KO.out _ hK).mono ?_;rintro e w1 ⟨v1,rfl,N1,k1⟩;obtain⟨n1,a1,l1,c1',x1,rfl⟩:=N1.shape))
 clear c0 c1 c2 c3 c4 c5
 obtain⟨Y1,hY1⟩:∃Y,Y=w1.alloc (.cells #[.bool n1,.slice a1 l1 c1',.int .i64 x1] 43):=⟨_,rfl⟩
 have kY1:Kept w1 Y1:=by rw[hY1];exact(Kept.refl w1).alloc _ _
 have d0:Y1.cell? ⟨w1.heap.size,0,none⟩=some (.bool n1):=by rw[hY1];simp[go_sem]
 have d1:Y1.cell? ⟨w1.heap.size,1,none⟩=some (.slice a1 l1 c1'):=by rw[hY1];simp[go_sem]
 have d2:Y1.cell? ⟨w1.heap.size,2,none⟩=some (.int .i64 x1):=by rw[hY1];simp[go_sem]
 obtain⟨B1,hB1⟩:∃B,B=w1.heap.size:=⟨_,rfl⟩
 rw[←hB1]at d0 d1 d2
 rw[←hY1,←hB1]
 clear hY1 hB1
 have q1:=k1.trans kY1
 have A1:=hidr (N1.kept kY1).numAt
 clear N1 k1 kY1
 go_upto_region 3 with (first|(go_at_call 41;refine(KM1.out _ _ (hK.trans q1) A1.out).mono ?_;rintro e w2 ⟨v2,rfl,N2,k2⟩;obtain⟨n2,a2,l2,c2,x2,rfl⟩:=N2.shape))
 clear d0 d1 d2
 obtain⟨Y2,hY2⟩:∃Y,Y=w2.alloc (.cells #[.bool n2,.slice a2 l2 c2,.int .i64 x2] 43):=⟨_,rfl⟩
 have kY2:Kept w2 Y2:=by rw[hY2];exact(Kept.refl w2).alloc _ _
 have d0:Y2.cell? ⟨w2.heap.size,0,none⟩=some (.bool n2):=by rw[hY2];simp[go_sem]
 have d1:Y2.cell? ⟨w2.heap.size,1,none⟩=some (.slice a2 l2 c2):=by rw[hY2];simp[go_sem]
 have d2:Y2.cell? ⟨w2.heap.size,2,none⟩=some (.int .i64 x2):=by rw[hY2];simp[go_sem]
 have dl:w2.heap.size<Y2.heap.size:=by rw[hY2];simp
 obtain⟨B2,hB2⟩:∃B,B=w2.heap.size:=⟨_,rfl⟩
 rw[←hB2]at d0 d1 d2 dl
 rw[←hY2,←hB2]
 clear hY2 hB2
 have q2:=q1.trans (k2.trans kY2)
 have A2:=hidr (N2.kept kY2).numAt
 have HS:Hid (∀u,Kept Y2 u→Kept Y2 u∧(u.cell? ⟨B2,0,none⟩=some (.bool n2)∧u.cell? ⟨B2,1,none⟩=some (.slice a2 l2 c2)∧u.cell? ⟨B2,2,none⟩=some (.int .i64 x2))∧u.cell? ⟨B0,4,none⟩=some (.int .i64 ev)):=fun u k=>⟨k,⟨(k.below.cell (p:=⟨B2,0,none⟩) dl).trans d0,(k.below.cell (p:=⟨B2,1,none⟩) dl).trans d1,(k.below.cell (p:=⟨B2,2,none⟩) dl).trans d2⟩,(HS0.out u (q2.trans k)).2.2.2.2.1⟩
 have HQ2:=hidr (hK.trans q2)
 clear N2 k2 kY2 d0 d1 d2 dl q1 q2 A1
 refine wp_region_held_drew (S:=fun u=>Kept Y2 u∧(u.cell? ⟨B2,0,none⟩=some (.bool n2)∧u.cell? ⟨B2,1,none⟩=some (.slice a2 l2 c2)∧u.cell? ⟨B2,2,none⟩=some (.int .i64 x2))∧u.cell? ⟨B0,4,none⟩=some (.int .i64 ev)) (by kernel_rfl) (HS.out _ (Kept.refl Y2).drew) (fun hHeld=>?_)
 refine tk (i:=0) (v:=?_) rfl ?_
 simp only[Act.put,zA,zB,zC,zD,zE,zF]
 refine tk (i:=1) (v:=?_) rfl ?_
 simp only[Act.put,zA,zB,zC,zD,zE,zF]
 refine tk (i:=2) (v:=?_) rfl ?_
 simp only[Act.put,zA,zB,zC,zD,zE,zF]
 refine tk (i:=5) (v:=?_) rfl ?_
 simp only[Act.put,zA,zB,zC,zD,zE,zF]
 refine tk (i:=6) (v:=?_) rfl ?_
 simp only[Act.put,zA,zB,zC,zD,zE,zF]
 refine tk (i:=7) (v:=?_) rfl ?_
 simp only[Act.put,zA,zB,zC,zD,zE,zF]
 refine tk (i:=8) (v:=?_) rfl ?_
 simp only[Act.put,zA,zB,zC,zD,zE,zF]
 refine wpAnyH_ready (rs:=[3]) (by kernel_rfl) (by simp) ?_
 refine AllReadyH.cons rfl (fun K hK9=>?_) AllReadyH.nil
 go_simp
 go_wp2_with fail
 refine(KI1.out _ (HQ2.out.trans (Kept.refl Y2).drew)).mono ?_
 rintro e u3 ⟨v3,rfl,N3,k3⟩
 have r3:=(Kept.refl Y2).drew.trans k3
 have e3:=HS.out _ r3
 refine hK9.out _ _ e3 (fun hHeld3=>?_)
 clear hK9 K
 (try simp only[Act.put,zA,zB,zC,zD,zE,zF])
 refine wpAnyH_ready (rs:=[4]) (by kernel_rfl) (by simp) ?_
 refine AllReadyH.cons rfl (fun K hK9=>?_) AllReadyH.nil
 go_simp
 go_wp2_with fail
 refine(KM2.out _ _ _ (HQ2.out.trans r3) (A2.out.keptS r3) N3.numAt).mono ?_
 rintro e u4 ⟨v4,rfl,N4,k4⟩
 have r4:=r3.trans k4
 have e4:=HS.out _ r4
 refine hK9.out _ _ e4 (fun hHeld4=>?_)
 clear hK9 K
 (try simp only[Act.put,zA,zB,zC,zD,zE,zF])
 refine wpAnyH_ready (rs:=[9]) (by kernel_rfl) (by simp) ?_
 refine AllReadyH.cons rfl (fun K hK9=>?_) AllReadyH.nil
 go_simp
 go_wp2_with fail
 refine(KI2.out _ (HQ2.out.trans r4)).mono ?_
 rintro e u5 ⟨v5,rfl,N5,k5⟩
 have r5:=r4.trans k5
 have e5:=HS.out _ r5
 refine hK9.out _ _ e5 (fun hHeld5=>?_)
 clear hK9 K
 (try simp only[Act.put,zA,zB,zC,zD,zE,zF])
 refine wpAnyH_ready (rs:=[10]) (by kernel_rfl) (by simp) ?_
 refine AllReadyH.cons rfl (fun K hK9=>?_) AllReadyH.nil
 go_simp
 go_wp2_with fail
 refine(KR.out _ _ _ (HQ2.out.trans r5) (N4.kept k5).numAt N5.numAt).mono ?_
 rintro e u6 ⟨rfl,k6⟩
 have r6:=r5.trans k6
 have e6:=HS.out _ r6
 refine hK9.out _ _ e6 (fun hHeld6=>?_)
 clear hK9 K
 (try simp only[Act.put,zA,zB,zC,zD,zE,zF])
 refine tk (i:=11) (v:=?_) rfl ?_
 simp only[Act.put,zA,zB,zC,zD,zE,zF]
 refine wpAnyH_done (by kernel_rfl) ?_ _
 go_wp2_with fail
 go_ret
 exact⟨rfl,HQ2.out.trans r6⟩
end Go.Proofs.YtnniljhdcplkgaaGreatDoor

namespace Go.Proofs.YtnniljhdcplkgaaGreatDoor
open Go.ChangeShapes Go.WideShapes Go.ChangeAt Go.RowKit
set_option maxHeartbeats 16000000
set_option maxRecDepth 100000
set_option linter.unusedVariables false
set_option linter.unusedSimpArgs false
theorem new_far {w0 w:World}{v:Value}{x:Nm}(h:New w0 w v x){p:Addr}(hp:p.block<w0.heap.size)(u:Value):New w0 (w.setCell p u) v x:=by
 rcases h with h|⟨g,cap,h1,h2,h3,h4⟩
 ·exact .inl h
 ·exact .inr ⟨g,cap,h1,h2,h3.setOther (by omega) u,h4⟩
abbrev st3w (Y:World)(B:Nat)(u v x:Value):World:=((Y.setCell ⟨B,0,none⟩ u).setCell ⟨B,1,none⟩ v).setCell ⟨B,2,none⟩ x
theorem N3.set {w:World}{b:Nat}{u v x:Value}(h:N3 w b u v x)(u' v' x':Value):N3 (st3w w b u' v' x') b u' v' x':=by
 have h0:=h.c0
 have h1:=h.c1
 have h2:=h.c2
 exact⟨by simp[go_sem,h0,h1,h2],by simp[go_sem,h0,h1,h2],by simp[go_sem,h0,h1,h2],fun o=>by simp[h.fz o]⟩
theorem N3.far1 {w:World}{b:Nat}{u v x:Value}(h:N3 w b u v x){p:Addr}(hne:b≠p.block)(z:Value):N3 (w.setCell p z) b u v x:=by
 have hb:(w.setCell p z).heap[b]?=w.heap[b]?:=Below.heap_setCell _ _ _ _ hne
 exact⟨(World.cell?_of_block (w:=w) (a:=⟨b,0,none⟩) hb).trans h.c0,(World.cell?_of_block (w:=w) (a:=⟨b,1,none⟩) hb).trans h.c1,(World.cell?_of_block (w:=w) (a:=⟨b,2,none⟩) hb).trans h.c2,fun o=>(World.frozen?_of_block (a:=⟨b,o,none⟩) hb).trans (h.fz o)⟩
theorem N3.far {w:World}{b B:Nat}{u v x:Value}(h:N3 w b u v x)(hne:b≠B)(u' v' x':Value):N3 (st3w w B u' v' x') b u v x:=((h.far1 (p:=⟨B,0,none⟩) hne u').far1 (p:=⟨B,1,none⟩) hne v').far1 (p:=⟨B,2,none⟩) hne x'
theorem new_st3 {w0 w:World}{v:Value}{x:Nm}(h:New w0 w v x){B:Nat}(hp:B<w0.heap.size)(u' v' x':Value):New w0 (st3w w B u' v' x') v x:=new_far (p:=⟨B,2,none⟩) (new_far (p:=⟨B,1,none⟩) (new_far (p:=⟨B,0,none⟩) h hp u') hp v') hp x'
theorem kept_st3 {w0 w:World}(h:Kept w0 w){B:Nat}(hp:w0.heap.size≤B)(u' v' x':Value):Kept w0 (st3w w B u' v' x'):=((h.setCell (p:=⟨B,0,none⟩) hp u').setCell (p:=⟨B,1,none⟩) hp v').setCell (p:=⟨B,2,none⟩) hp x'
theorem new_mono {w0 w1 w:World}{v:Value}{x:Nm}(h:New w1 w v x)(hs:w0.heap.size≤w1.heap.size):New w0 w v x:=by
 rcases h with h|⟨g,cap,h1,h2,h3⟩
 ·exact .inl h
 ·exact .inr ⟨g,cap,h1,Nat.le_trans hs h2,h3⟩
def rz (one x:Nm)(t L:Nat):Nat→Nm
 |0=>one
 |i+1=>if t/2^(L-1-i)%2=1 then mulT (mulT (rz one x t L i) (rz one x t L i)) x else mulT (rz one x t L i) (rz one x t L i)
theorem new_st3n {w0 w:World}{v:Value}{x:Nm}(h:New w0 w v x){B:Nat}{q:Bool}{y z:Value}(hB:N3 w B (.bool q) y z)(u' v' x':Value):New w0 (st3w w B u' v' x') v x:=by
 rcases h with h|⟨g,cap,h1,h2,h3,h4⟩
 ·exact .inl h
 ·have hne:g≠B:=fun e=>by
   have:=h3.cell 0 (List.length_pos_iff.2 h4)
   rw[e,hB.c0]at this
   cases this
  exact .inr ⟨g,cap,h1,h2,((h3.setOther (p:=⟨B,0,none⟩) hne u').setOther (p:=⟨B,1,none⟩) hne v').setOther (p:=⟨B,2,none⟩) hne x',h4⟩
theorem rz_one (one x:Nm)(t L i:Nat)(h:t/2^(L-1-i)%2=1):rz one x t L (i+1)=mulT (mulT (rz one x t L i) (rz one x t L i)) x:=by
 show(if _ then _ else _)=_
 rw[if_pos h]
theorem rz_nul (one x:Nm)(t L i:Nat)(h:¬t/2^(L-1-i)%2=1):rz one x t L (i+1)=mulT (rz one x t L i) (rz one x t L i):=by
 show(if _ then _ else _)=_
 rw[if_neg h]
theorem rz_vld (one x:Nm)(h1:vld one=true)(t L:Nat):∀i,vld (rz one x t L i)=true
 |0=>h1
 |i+1=>by
  unfold rz
  split<;>exact mulT_vld _ _
theorem raised_walk (n1:Bool)(a1:Option Addr)(l1 c1:Nat)(x1:Int)(t L:Nat)(ht:t<1000000)(hL:bl t=L)(one x:Nm)(hone:vld one=true)(w:World)
  (KI:Hid (∀u,Kept w u→Calls Tryz.prog 23 #[.int .i64 1] u fun e w'=>∃v,e=.returned v∧New u w' v one∧Kept u w'))
  (KM:Hid (∀u v p,Kept w u→NumAt u v p→vld p=true→Calls Tryz.prog 41 #[v,v] u fun e w'=>∃v,e=.returned v∧New u w' v (mulT p p)∧Kept u w'))
  (KX:Hid (∀u v p,Kept w u→NumAt u v p→vld p=true→Calls Tryz.prog 41 #[v,.agg #[.bool n1,.slice a1 l1 c1,.int .i64 x1]] u fun e w'=>∃v,e=.returned v∧New u w' v (mulT p x)∧Kept u w')):
  Calls Tryz.prog 91 #[.agg #[.bool n1,.slice a1 l1 c1,.int .i64 x1],.int .i64 (t:Int)] w fun e w'=>∃v,e=.returned v∧New w w' v (rz one x t L L)∧Kept w w':=by
 have KL:Hid (∀u:World,Calls Tryz.prog 119 #[.int .u64 (t:Int)] u fun e w'=>e=.returned (.int .i64 (L:Int))∧u=w'):=fun u=>by
  have:=len (t:Int) u (by omega) (by omega)
  rw[bitLen_bl _ (by omega),Int.toNat_natCast,hL]at this
  exact this
 have hL20:L≤20:=by rw[←hL];exact bl_le _ _ (by omega)
 have hw1:IntKind.u64.wrap (t:Int)=(t:Int):=by rw[IntKind.wrap_u64];omega
 have HL:=hidr hL
 obtain⟨X,hX⟩:∃X,X=(w.alloc (.cells #[.bool n1,.slice a1 l1 c1,.int .i64 x1] 43)).alloc (.cells #[.bool false,.slice none 0 0,.int .i64 0] 43):=⟨_,rfl⟩
 have hK:Kept w X:=by rw[hX];exact((Kept.refl w).alloc _ _).alloc _ _
 have hP0:N3 X w.heap.size (.bool n1) (.slice a1 l1 c1) (.int .i64 x1):=by rw[hX];exact(N3.new w _ _ _ 43).alloc _ _
 have hP1:N3 X (w.heap.size+1) (.bool false) (.slice none 0 0) (.int .i64 0):=by
  rw[hX]
  have:=N3.new (w.alloc (.cells #[.bool n1,.slice a1 l1 c1,.int .i64 x1] 43)) (.bool false) (.slice none 0 0) (.int .i64 0) 43
  simpa using this
 obtain⟨B2,hB2⟩:∃B,B=w.heap.size:=⟨_,rfl⟩
 obtain⟨B4,hB4⟩:∃B,B=w.heap.size+1:=⟨_,rfl⟩
 rw[←hB2]at hP0
 rw[←hB4]at hP1
 have HB:=hidr (show w.heap.size≤B2∧w.heap.size≤B4∧B2≠B4 from⟨by omega,by omega,by omega⟩)
 clear hL
 go_enter Tryz.func91,Tryz.ntmps91
 go_upto_region 1 with fail
 rw[←hX,←hB4,←hB2]
 clear hX hB2 hB4
 go_upto_region 2 with (first|(go_at_call 23;refine(KI.out _ hK).mono ?_;rintro e w1 ⟨v1,rfl,N1,k1⟩;obtain⟨n5,a5,l5,c5,x5,rfl⟩:=N1.shape)|(go_at_call 119;refine(KL.out _).mono ?_;rintro e w2 ⟨rfl,rfl⟩))
 obtain⟨Y,hY⟩:∃Y,Y=w1.alloc (.cells #[.bool n5,.slice a5 l5 c5,.int .i64 x5] 43):=⟨_,rfl⟩
 have kY:Kept w1 Y:=by rw[hY];exact(Kept.refl w1).alloc _ _
 have hP5:N3 Y w1.heap.size (.bool n5) (.slice a5 l5 c5) (.int .i64 x5):=by rw[hY];exact N3.new w1 _ _ _ 43
 have h5w:X.heap.size≤w1.heap.size:=k1.below.size
 obtain⟨B5,hB5⟩:∃B,B=w1.heap.size:=⟨_,rfl⟩
 rw[←hB5]at hP5 h5w
 rw[←hY,←hB5]
 clear hY hB5
 have HB5:=hidr (show w.heap.size≤B5∧B2≠B5∧B4≠B5 from⟨by have:=hK.below.size;omega,by have:=hP0.lt;omega,by have:=hP1.lt;omega⟩)
 have H0:=hidr (show(∃n a l c e,N3 Y B5 (.bool n) (.slice a l c) (.int .i64 e)∧New w Y (.agg #[.bool n,.slice a l c,.int .i64 e]) (rz one x t L 0))∧N3 Y B2 (.bool n1) (.slice a1 l1 c1) (.int .i64 x1)∧N3 Y B4 (.bool false) (.slice none 0 0) (.int .i64 0)∧Kept w Y from⟨⟨n5,a5,l5,c5,x5,hP5,new_mono (N1.kept kY) hK.below.size⟩,hP0.kept (k1.trans kY),hP1.kept (k1.trans kY),hK.trans (k1.trans kY)⟩)
 clear N1 k1 kY hP0 hP1 hP5 h5w hK
 go_wp2_with fail
 go_loopw [13] (fun iv wr=>∃i:Nat,i≤L∧iv=.int .i64 (i:Int)∧Hid ((∃n a l c e,N3 wr B5 (.bool n) (.slice a l c) (.int .i64 e)∧New w wr (.agg #[.bool n,.slice a l c,.int .i64 e]) (rz one x t L i))∧N3 wr B2 (.bool n1) (.slice a1 l1 c1) (.int .i64 x1)∧N3 wr B4 (.bool false) (.slice none 0 0) (.int .i64 0)∧Kept w wr)) (fun iv _=>L-(intOf iv).toNat)
 case atStart=>exact⟨0,Nat.zero_le _,rfl,H0⟩
 case round=>
  clear H0
  obtain⟨i,hi,rfl,HR⟩:=hrel
  obtain⟨⟨n,a,l,c,e5,p5,N5⟩,p2,p4,kr⟩:=HR.out
  by_cases hin:i<L
  ·have hp:=rz_vld one x hone t L i
   obtain⟨pi,hpi⟩:∃p,rz one x t L i=p:=⟨_,rfl⟩
   rw[hpi]at N5 hp
   have HPI:=hidr hpi
   have hin':(i:Int)<(L:Int):=by omega
   obtain⟨sv,hsv⟩:∃sv:Nat,t/2^(L-1-i)=sv:=⟨_,rfl⟩
   have HDV:=hidr (show(t:Int)/2^(L-1-i)=(sv:Int)from by rw[←hsv];push_cast;rfl)
   have HSV:=hidr hsv
   have lt5:=p5.lt
   have c0:=p5.c0
   have c1':=p5.c1
   have c2:=p5.c2
   have fz:=p5.fz
   have HP:=hidr (And.intro p5 (And.intro p2 (And.intro p4 (And.intro kr lt5))))
   have HN:=hidr N5.numAt
   clear hpi hsv p5 p2 p4 N5 HR
   go_upto_region 6 with (first|(go_at_call 41;refine(KM.out _ _ pi kr HN.out hp).mono ?_;rintro e w2 ⟨v2,rfl,N2,k2⟩;obtain⟨n2,a2,l2,c2',x2,rfl⟩:=N2.shape;clear c0 c1' c2 fz;obtain⟨c0,c1',c2,fz⟩:=HP.out.1.kept k2))
   clear c0 c1' c2 fz
   obtain⟨Y1,hY1⟩:∃Y,Y=st3w w2 B5 (.bool n2) (.slice a2 l2 c2') (.int .i64 x2):=⟨_,rfl⟩
   have P5:=(HP.out.1.kept k2).set (.bool n2) (.slice a2 l2 c2') (.int .i64 x2)
   have P2:=(HP.out.2.1.kept k2).far HB5.out.2.1 (.bool n2) (.slice a2 l2 c2') (.int .i64 x2)
   have P4:=(HP.out.2.2.1.kept k2).far HB5.out.2.2 (.bool n2) (.slice a2 l2 c2') (.int .i64 x2)
   have KR:=kept_st3 (kr.trans k2) HB5.out.1 (.bool n2) (.slice a2 l2 c2') (.int .i64 x2)
   have N2':=new_mono (new_st3 N2 HP.out.2.2.2.2 (.bool n2) (.slice a2 l2 c2') (.int .i64 x2)) kr.below.size
   rw[←hY1]at P5 P2 P4 KR N2'
   rw[show((w2.setCell ⟨B5,0,none⟩ (.bool n2)).setCell ⟨B5,1,none⟩ (.slice a2 l2 c2')).setCell ⟨B5,2,none⟩ (.int .i64 x2)=Y1 from hY1.symm]
   have hq:=mulT_vld pi pi
   obtain⟨qi,hqi⟩:∃q,mulT pi pi=q:=⟨_,rfl⟩
   rw[hqi]at N2' hq
   have HQI:=hidr hqi
   have HP1:=hidr (And.intro P5 (And.intro P2 (And.intro P4 (And.intro KR N2'))))
   clear hY1 N2 k2 P5 P2 P4 KR N2' HN hqi lt5 kr
   by_cases hbit:sv%2=1
   ·have hand:bits .and .i64 ((t:Int)/2^(L-1-i)) 1=1:=by rw[HDV.out,mask_1];omega
    have hz:=rz_one one x t L i (by rw[HSV.out];exact hbit)
    rw[HPI.out,HQI.out]at hz
    have HZ:=hidr hz
    obtain⟨c0,c1',c2,fz⟩:=HP1.out.1
    obtain⟨b0,b1,b2,bf⟩:=HP1.out.2.1
    clear hz hbit
    go_upto_region 8 with (first|(go_at_call 41;refine(KX.out _ _ qi HP1.out.2.2.2.1 HP1.out.2.2.2.2.numAt hq).mono ?_;rintro e w3 ⟨v3,rfl,N3',k3⟩;obtain⟨n3,a3,l3,c3,x3,rfl⟩:=N3'.shape;clear c0 c1' c2 fz b0 b1 b2 bf;obtain⟨c0,c1',c2,fz⟩:=HP1.out.1.kept k3))
    clear c0 c1' c2 fz
    obtain⟨Y2,hY2⟩:∃Y,Y=st3w w3 B5 (.bool n3) (.slice a3 l3 c3) (.int .i64 x3):=⟨_,rfl⟩
    have P5:=(HP1.out.1.kept k3).set (.bool n3) (.slice a3 l3 c3) (.int .i64 x3)
    have P2:=(HP1.out.2.1.kept k3).far HB5.out.2.1 (.bool n3) (.slice a3 l3 c3) (.int .i64 x3)
    have P4:=(HP1.out.2.2.1.kept k3).far HB5.out.2.2 (.bool n3) (.slice a3 l3 c3) (.int .i64 x3)
    have KR:=kept_st3 (HP1.out.2.2.2.1.trans k3) HB5.out.1 (.bool n3) (.slice a3 l3 c3) (.int .i64 x3)
    have N3'':=new_mono (new_st3 N3' HP1.out.1.lt (.bool n3) (.slice a3 l3 c3) (.int .i64 x3)) HP1.out.2.2.2.1.below.size
    rw[←hY2]at P5 P2 P4 KR N3''
    rw[show((w3.setCell ⟨B5,0,none⟩ (.bool n3)).setCell ⟨B5,1,none⟩ (.slice a3 l3 c3)).setCell ⟨B5,2,none⟩ (.int .i64 x3)=Y2 from hY2.symm]
    rw[←HZ.out]at N3''
    have HF:=hidr (show(∃n a l c e,N3 Y2 B5 (.bool n) (.slice a l c) (.int .i64 e)∧New w Y2 (.agg #[.bool n,.slice a l c,.int .i64 e]) (rz one x t L (i+1)))∧N3 Y2 B2 (.bool n1) (.slice a1 l1 c1) (.int .i64 x1)∧N3 Y2 B4 (.bool false) (.slice none 0 0) (.int .i64 0)∧Kept w Y2 from⟨⟨_,_,_,_,_,P5,N3''⟩,P2,P4,KR⟩)
    clear hY2 P5 P2 P4 KR N3'' N3' k3 HP HP1 HZ
    go_wp2_with fail
    go_roundw
    case rel=>exact⟨i+1,by omega,by go_num,HF⟩
    case measure=>simp[intOf];omega
   ·have hand:bits .and .i64 ((t:Int)/2^(L-1-i)) 1=0:=by rw[HDV.out,mask_1];omega
    have hz:=rz_nul one x t L i (by rw[HSV.out];exact hbit)
    rw[HPI.out,HQI.out]at hz
    have HF:=hidr (show(∃n a l c e,N3 Y1 B5 (.bool n) (.slice a l c) (.int .i64 e)∧New w Y1 (.agg #[.bool n,.slice a l c,.int .i64 e]) (rz one x t L (i+1)))∧N3 Y1 B2 (.bool n1) (.slice a1 l1 c1) (.int .i64 x1)∧N3 Y1 B4 (.bool false) (.slice none 0 0) (.int .i64 0)∧Kept w Y1 from⟨⟨_,_,_,_,_,HP1.out.1,by rw[hz];exact HP1.out.2.2.2.2⟩,HP1.out.2.1,HP1.out.2.2.1,HP1.out.2.2.2.1⟩)
    clear hz hbit HP HP1
    go_wp2_with fail
    go_roundw
    case rel=>exact⟨i+1,by omega,by go_num,HF⟩
    case measure=>simp[intOf];omega
  ·obtain rfl:i=L:=by omega
   have HN:=hidr N5
   have lt4:=p4.lt
   obtain⟨c0,c1',c2,fz⟩:=p5
   obtain⟨d0,d1,d2,df⟩:=p4
   have hne:¬B4=B5:=HB5.out.2.2
   have hne':¬B5=B4:=fun e=>hne e.symm
   clear HR N5
   go_wp2_with fail
   have Q4:N3 wr B4 (.bool false) (.slice none 0 0) (.int .i64 0):=⟨d0,d1,d2,df⟩
   have P4:=(show N3 wr B4 (.bool false) (.slice none 0 0) (.int .i64 0)from⟨d0,d1,d2,df⟩).set (.bool n) (.slice a l c) (.int .i64 e5)
   obtain⟨f0,f1,f2,ff⟩:=P4
   exact bodyPost_ret (v:=.agg #[.bool n,.slice a l c,.int .i64 e5]) (by simp[results,Tryz.results91,go_sem,f0,f1,f2,d0,d1,d2]) rfl ⟨_,rfl,new_st3n HN.out Q4 _ _ _,kept_st3 kr HB.out.2.1 _ _ _⟩
end Go.Proofs.YtnniljhdcplkgaaGreatDoor
