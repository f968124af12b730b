/-  -/
import Derived.Test.YtnniljhdcplkgaaGreatDoorWs41
namespace Go.Proofs.YtnniljhdcplkgaaGreatDoor
open Go.ChangeShapes Go.WideShapes Go.ChangeAt Go.RowKit
set_option maxHeartbeats 16000000
set_option maxRecDepth 100000
set_option linter.unusedVariables false
set_option linter.unusedSimpArgs false
theorem checked_walk (kd ba fa wa ev tt:Int)(f:Value)(b0 z1 z2 b3:Bool)(w:World)
  (KK:Hid (∀u:World,Calls Tryz.prog 19 #[.int .i64 kd] u fun e w'=>e=.returned (.tuple #[f,.bool b0])∧Kept u w'))
  (KB:Hid (∀u:World,Calls Tryz.prog 20 #[.int .i64 ba] u fun e w'=>e=.returned (.bool z1)∧Kept u w'))
  (KF:Hid (∀u:World,Calls Tryz.prog 20 #[.int .i64 fa] u fun e w'=>e=.returned (.bool z2)∧Kept u w'))
  (KC:Hid (∀u:World,b0=true→Calls Tryz.prog 21 #[.agg #[.int .i64 kd,.int .i64 ba,.int .i64 fa,.int .i64 wa,.int .i64 ev,.int .i64 tt]] u fun e w'=>e=.returned (.bool b3)∧Kept u w')):
  Calls Tryz.prog 8 #[.agg #[.int .i64 kd,.int .i64 ba,.int .i64 fa,.int .i64 wa,.int .i64 ev,.int .i64 tt]] w fun e w'=>e=.returned (if (b0&&z1&&z2&&b3)=true then .tuple #[f,.int .i64 0]else .tuple #[.nilFunc,.int .i64 42])∧Kept w w':=by
 obtain⟨X,hX⟩:∃X,X=w.alloc (.cells #[.int .i64 kd,.int .i64 ba,.int .i64 fa,.int .i64 wa,.int .i64 ev,.int .i64 tt] 23):=⟨_,rfl⟩
 have hK:Kept w X:=by rw[hX];exact(Kept.refl w).alloc _ _
 have HS0:Hid (∀u,Kept X u→u.cell? ⟨w.heap.size,0,none⟩=some (.int .i64 kd)∧u.cell? ⟨w.heap.size,1,none⟩=some (.int .i64 ba)∧u.cell? ⟨w.heap.size,2,none⟩=some (.int .i64 fa)∧u.cell? ⟨w.heap.size,3,none⟩=some (.int .i64 wa)∧u.cell? ⟨w.heap.size,4,none⟩=some (.int .i64 ev)∧u.cell? ⟨w.heap.size,5,none⟩=some (.int .i64 tt)):=fun u k=>sch_cells w kd ba fa wa ev tt _ X hX u k
 obtain⟨B0,hB0⟩:∃B,B=w.heap.size:=⟨_,rfl⟩
 rw[←hB0]at HS0
 go_enter Tryz.func8,Tryz.ntmps8
 go_upto_region 1 with fail
 rw[←hX,←hB0]
 have hBX:B0<X.heap.size:=by rw[hB0,hX];simp
 clear hX hB0
 obtain⟨c0,c1,c2,c3,c4,c5⟩:=HS0.out _ (Kept.refl X)
 go_wp2_with fail
 refine(KK.out _).mono ?_
 rintro e w1 ⟨rfl,k1⟩
 clear c0 c1 c2 c3 c4 c5
 obtain⟨c0,c1,c2,c3,c4,c5⟩:=HS0.out _ k1
 cases b0
 ·go_wp2_with fail
  exact bodyPost_ret (v:=.tuple #[.nilFunc,.int .i64 42]) (by simp[results,Tryz.results8,go_sem]) rfl ⟨rfl,hK.trans k1⟩
 ·go_wp2_with fail
  refine(KB.out _).mono ?_
  rintro e w2 ⟨rfl,k2⟩
  have k12:=k1.trans k2
  clear c0 c1 c2 c3 c4 c5
  obtain⟨c0,c1,c2,c3,c4,c5⟩:=HS0.out _ k12
  cases z1
  ·go_wp2_with fail
   exact bodyPost_ret (v:=.tuple #[.nilFunc,.int .i64 42]) (by simp[results,Tryz.results8,go_sem]) rfl ⟨rfl,hK.trans k12⟩
  ·go_wp2_with fail
   refine(KF.out _).mono ?_
   rintro e w3 ⟨rfl,k3⟩
   have k13:=k12.trans k3
   clear c0 c1 c2 c3 c4 c5
   obtain⟨c0,c1,c2,c3,c4,c5⟩:=HS0.out _ k13
   cases z2
   ·go_wp2_with fail
    exact bodyPost_ret (v:=.tuple #[.nilFunc,.int .i64 42]) (by simp[results,Tryz.results8,go_sem]) rfl ⟨rfl,hK.trans k13⟩
   ·go_wp2_with fail
    refine(KC.out _ (by first|trivial|rfl)).mono ?_
    rintro e w4 ⟨rfl,k4⟩
    have k14:=k13.trans k4
    cases b3
    ·go_wp2_with fail
     exact bodyPost_ret (v:=.tuple #[.nilFunc,.int .i64 42]) (by simp[results,Tryz.results8,go_sem]) rfl ⟨rfl,hK.trans k14⟩
    ·go_wp2_with fail
     exact bodyPost_ret (v:=.tuple #[f,.int .i64 0]) (by simp[results,Tryz.results8,go_sem]) rfl ⟨rfl,hK.trans k14⟩
theorem at_warm (kd ba fa wa ev tt:Int)(st s1:Int)(fv:Value)(hst:st<wa)(hs1:IntKind.i64.wrap (st+1)=s1)(y1 y2:Nm)(s:Int)(w:World)
  (KI1:Hid (∀u,Kept w u→Calls Tryz.prog 23 #[.int .i64 s1] u fun e w'=>∃v,e=.returned v∧New u w' v y1∧Kept u w'))
  (KI2:Hid (∀u,Kept w u→Calls Tryz.prog 23 #[.int .i64 wa] u fun e w'=>∃v,e=.returned v∧New u w' v y2∧Kept u w'))
  (KS:Hid (∀u v v',Kept w u→NumAt u v y1→NumAt u v' y2→Calls Tryz.prog 22 #[.int .i64 ba,v,v'] u fun e w'=>e=.returned (.int .i64 s)∧Kept u w')):
  Calls Tryz.prog 10 #[.agg #[.int .i64 kd,.int .i64 ba,.int .i64 fa,.int .i64 wa,.int .i64 ev,.int .i64 tt],.int .i64 st,fv] w fun e w'=>e=.returned (.int .i64 s)∧Kept w w':=by
 obtain⟨X,hX⟩:∃X,X=w.alloc (.cells #[.int .i64 kd,.int .i64 ba,.int .i64 fa,.int .i64 wa,.int .i64 ev,.int .i64 tt] 23):=⟨_,rfl⟩
 have hK:Kept w X:=by rw[hX];exact(Kept.refl w).alloc _ _
 have HS0:Hid (∀u,Kept X u→u.cell? ⟨w.heap.size,0,none⟩=some (.int .i64 kd)∧u.cell? ⟨w.heap.size,1,none⟩=some (.int .i64 ba)∧u.cell? ⟨w.heap.size,2,none⟩=some (.int .i64 fa)∧u.cell? ⟨w.heap.size,3,none⟩=some (.int .i64 wa)∧u.cell? ⟨w.heap.size,4,none⟩=some (.int .i64 ev)∧u.cell? ⟨w.heap.size,5,none⟩=some (.int .i64 tt)):=fun u k=>sch_cells w kd ba fa wa ev tt _ X hX u k
 obtain⟨B0,hB0⟩:∃B,B=w.heap.size:=⟨_,rfl⟩
 rw[←hB0]at HS0
 go_enter Tryz.func10,Tryz.ntmps10
 go_upto_region 1 with fail
 rw[←hX,←hB0]
 have hBX:B0<X.heap.size:=by rw[hB0,hX];simp
 clear hX hB0
 obtain⟨c0,c1,c2,c3,c4,c5⟩:=HS0.out _ (Kept.refl X)
 have HS:Hid (∀u,Kept X u→Kept X u∧(u.cell? ⟨B0,0,none⟩=some (.int .i64 kd)∧u.cell? ⟨B0,1,none⟩=some (.int .i64 ba)∧u.cell? ⟨B0,2,none⟩=some (.int .i64 fa)∧u.cell? ⟨B0,3,none⟩=some (.int .i64 wa)∧u.cell? ⟨B0,4,none⟩=some (.int .i64 ev)∧u.cell? ⟨B0,5,none⟩=some (.int .i64 tt))):=fun u k=>⟨k,HS0.out u k⟩
 go_upto_region 2 with fail
 clear c0 c1 c2 c3 c4 c5
 refine wp_region_held_drew (S:=fun u=>Kept X u∧(u.cell? ⟨B0,0,none⟩=some (.int .i64 kd)∧u.cell? ⟨B0,1,none⟩=some (.int .i64 ba)∧u.cell? ⟨B0,2,none⟩=some (.int .i64 fa)∧u.cell? ⟨B0,3,none⟩=some (.int .i64 wa)∧u.cell? ⟨B0,4,none⟩=some (.int .i64 ev)∧u.cell? ⟨B0,5,none⟩=some (.int .i64 tt))) (by kernel_rfl) (HS.out _ (Kept.refl X).drew) (fun hHeld=>?_)
 refine tk (i:=0) (v:=?_) rfl ?_
 simp only[Act.put,zA,zB,zC,zD,zE,zF]
 refine tk (i:=1) (v:=?_) rfl ?_
 simp only[Act.put,zA,zB,zC,zD,zE,zF]
 refine tk (i:=2) (v:=?_) rfl ?_
 simp only[Act.put,zA,zB,zC,zD,zE,zF]
 refine tk (i:=3) (v:=?_) rfl ?_
 simp only[Act.put,zA,zB,zC,zD,zE,zF]
 refine tk (i:=5) (v:=?_) rfl ?_
 simp only[Act.put,zA,zB,zC,zD,zE,zF]
 refine tk (i:=6) (v:=?_) rfl ?_
 simp only[Act.put,zA,zB,zC,zD,zE,zF]
 refine wpAnyH_ready (rs:=[4]) (by kernel_rfl) (by simp) ?_
 refine AllReadyH.cons rfl (fun K hK9=>?_) AllReadyH.nil
 go_simp
 go_wp2_with fail
 refine(KI1.out _ (hK.trans (Kept.refl X).drew)).mono ?_
 rintro e u1 ⟨v1,rfl,N1,k1⟩
 have q1:=(Kept.refl X).drew.trans k1
 have e1:=HS.out _ q1
 refine hK9.out _ _ e1 (fun hHeld1=>?_)
 clear hK9 K
 (try simp only[Act.put,zA,zB,zC,zD,zE,zF])
 refine wpAnyH_ready (rs:=[7]) (by kernel_rfl) (by simp) ?_
 refine AllReadyH.cons rfl (fun K hK9=>?_) AllReadyH.nil
 go_simp
 go_wp2_with fail
 refine(KI2.out _ (hK.trans q1)).mono ?_
 rintro e u2 ⟨v2,rfl,N2,k2⟩
 have q2:=q1.trans k2
 have e2:=HS.out _ q2
 refine hK9.out _ _ e2 (fun hHeld2=>?_)
 clear hK9 K
 (try simp only[Act.put,zA,zB,zC,zD,zE,zF])
 refine wpAnyH_ready (rs:=[8]) (by kernel_rfl) (by simp) ?_
 refine AllReadyH.cons rfl (fun K hK9=>?_) AllReadyH.nil
 go_simp
 go_wp2_with fail
 refine(KS.out _ _ _ (hK.trans q2) (N1.kept k2).numAt N2.numAt).mono ?_
 rintro e u3 ⟨rfl,k3⟩
 have q3:=q2.trans k3
 have e3:=HS.out _ q3
 refine hK9.out _ _ e3 (fun hHeld3=>?_)
 clear hK9 K
 (try simp only[Act.put,zA,zB,zC,zD,zE,zF])
 refine tk (i:=9) (v:=?_) rfl ?_
 simp only[Act.put,zA,zB,zC,zD,zE,zF]
 refine wpAnyH_done (by kernel_rfl) ?_ _
 go_wp2_with fail
 go_ret
 exact⟨rfl,hK.trans q3⟩
theorem at_beh0 (kd ba fa wa ev tt:Int)(st d:Int)(hst:¬st<wa)(hd:IntKind.i64.wrap (st-wa)=d)(s:Int)(w:World)
  (KB:Hid (∀u,Kept w u→Calls Tryz.prog 61 #[.agg #[.int .i64 kd,.int .i64 ba,.int .i64 fa,.int .i64 wa,.int .i64 ev,.int .i64 tt],.int .i64 d] u fun e w'=>e=.returned (.int .i64 s)∧Kept u w')):
  Calls Tryz.prog 10 #[.agg #[.int .i64 kd,.int .i64 ba,.int .i64 fa,.int .i64 wa,.int .i64 ev,.int .i64 tt],.int .i64 st,.func (.func 61) #[] #[]] w fun e w'=>e=.returned (.int .i64 s)∧Kept w w':=by
 obtain⟨X,hX⟩:∃X,X=w.alloc (.cells #[.int .i64 kd,.int .i64 ba,.int .i64 fa,.int .i64 wa,.int .i64 ev,.int .i64 tt] 23):=⟨_,rfl⟩
 have hK:Kept w X:=by rw[hX];exact(Kept.refl w).alloc _ _
 have HS0:Hid (∀u,Kept X u→u.cell? ⟨w.heap.size,0,none⟩=some (.int .i64 kd)∧u.cell? ⟨w.heap.size,1,none⟩=some (.int .i64 ba)∧u.cell? ⟨w.heap.size,2,none⟩=some (.int .i64 fa)∧u.cell? ⟨w.heap.size,3,none⟩=some (.int .i64 wa)∧u.cell? ⟨w.heap.size,4,none⟩=some (.int .i64 ev)∧u.cell? ⟨w.heap.size,5,none⟩=some (.int .i64 tt)):=fun u k=>sch_cells w kd ba fa wa ev tt _ X hX u k
 obtain⟨B0,hB0⟩:∃B,B=w.heap.size:=⟨_,rfl⟩
 rw[←hB0]at HS0
 go_enter Tryz.func10,Tryz.ntmps10
 go_upto_region 1 with fail
 rw[←hX,←hB0]
 have hBX:B0<X.heap.size:=by rw[hB0,hX];simp
 clear hX hB0
 obtain⟨c0,c1,c2,c3,c4,c5⟩:=HS0.out _ (Kept.refl X)
 go_wp2_with fail
 refine(KB.out _ hK).mono ?_
 rintro e w1 ⟨rfl,k1⟩
 clear c0 c1 c2 c3 c4 c5
 go_wp2_with fail
 go_ret
 exact⟨rfl,hK.trans k1⟩
theorem at_beh1 (kd ba fa wa ev tt:Int)(st d:Int)(hst:¬st<wa)(hd:IntKind.i64.wrap (st-wa)=d)(s:Int)(w:World)
  (KB:Hid (∀u,Kept w u→Calls Tryz.prog 62 #[.agg #[.int .i64 kd,.int .i64 ba,.int .i64 fa,.int .i64 wa,.int .i64 ev,.int .i64 tt],.int .i64 d] u fun e w'=>e=.returned (.int .i64 s)∧Kept u w')):
  Calls Tryz.prog 10 #[.agg #[.int .i64 kd,.int .i64 ba,.int .i64 fa,.int .i64 wa,.int .i64 ev,.int .i64 tt],.int .i64 st,.func (.func 62) #[] #[]] w fun e w'=>e=.returned (.int .i64 s)∧Kept w w':=by
 obtain⟨X,hX⟩:∃X,X=w.alloc (.cells #[.int .i64 kd,.int .i64 ba,.int .i64 fa,.int .i64 wa,.int .i64 ev,.int .i64 tt] 23):=⟨_,rfl⟩
 have hK:Kept w X:=by rw[hX];exact(Kept.refl w).alloc _ _
 have HS0:Hid (∀u,Kept X u→u.cell? ⟨w.heap.size,0,none⟩=some (.int .i64 kd)∧u.cell? ⟨w.heap.size,1,none⟩=some (.int .i64 ba)∧u.cell? ⟨w.heap.size,2,none⟩=some (.int .i64 fa)∧u.cell? ⟨w.heap.size,3,none⟩=some (.int .i64 wa)∧u.cell? ⟨w.heap.size,4,none⟩=some (.int .i64 ev)∧u.cell? ⟨w.heap.size,5,none⟩=some (.int .i64 tt)):=fun u k=>sch_cells w kd ba fa wa ev tt _ X hX u k
 obtain⟨B0,hB0⟩:∃B,B=w.heap.size:=⟨_,rfl⟩
 rw[←hB0]at HS0
 go_enter Tryz.func10,Tryz.ntmps10
 go_upto_region 1 with fail
 rw[←hX,←hB0]
 have hBX:B0<X.heap.size:=by rw[hB0,hX];simp
 clear hX hB0
 obtain⟨c0,c1,c2,c3,c4,c5⟩:=HS0.out _ (Kept.refl X)
 go_wp2_with fail
 refine(KB.out _ hK).mono ?_
 rintro e w1 ⟨rfl,k1⟩
 clear c0 c1 c2 c3 c4 c5
 go_wp2_with fail
 go_ret
 exact⟨rfl,hK.trans k1⟩
theorem at_beh2 (kd ba fa wa ev tt:Int)(st d:Int)(hst:¬st<wa)(hd:IntKind.i64.wrap (st-wa)=d)(s:Int)(w:World)
  (KB:Hid (∀u,Kept w u→Calls Tryz.prog 63 #[.agg #[.int .i64 kd,.int .i64 ba,.int .i64 fa,.int .i64 wa,.int .i64 ev,.int .i64 tt],.int .i64 d] u fun e w'=>e=.returned (.int .i64 s)∧Kept u w')):
  Calls Tryz.prog 10 #[.agg #[.int .i64 kd,.int .i64 ba,.int .i64 fa,.int .i64 wa,.int .i64 ev,.int .i64 tt],.int .i64 st,.func (.func 63) #[] #[]] w fun e w'=>e=.returned (.int .i64 s)∧Kept w w':=by
 obtain⟨X,hX⟩:∃X,X=w.alloc (.cells #[.int .i64 kd,.int .i64 ba,.int .i64 fa,.int .i64 wa,.int .i64 ev,.int .i64 tt] 23):=⟨_,rfl⟩
 have hK:Kept w X:=by rw[hX];exact(Kept.refl w).alloc _ _
 have HS0:Hid (∀u,Kept X u→u.cell? ⟨w.heap.size,0,none⟩=some (.int .i64 kd)∧u.cell? ⟨w.heap.size,1,none⟩=some (.int .i64 ba)∧u.cell? ⟨w.heap.size,2,none⟩=some (.int .i64 fa)∧u.cell? ⟨w.heap.size,3,none⟩=some (.int .i64 wa)∧u.cell? ⟨w.heap.size,4,none⟩=some (.int .i64 ev)∧u.cell? ⟨w.heap.size,5,none⟩=some (.int .i64 tt)):=fun u k=>sch_cells w kd ba fa wa ev tt _ X hX u k
 obtain⟨B0,hB0⟩:∃B,B=w.heap.size:=⟨_,rfl⟩
 rw[←hB0]at HS0
 go_enter Tryz.func10,Tryz.ntmps10
 go_upto_region 1 with fail
 rw[←hX,←hB0]
 have hBX:B0<X.heap.size:=by rw[hB0,hX];simp
 clear hX hB0
 obtain⟨c0,c1,c2,c3,c4,c5⟩:=HS0.out _ (Kept.refl X)
 go_wp2_with fail
 refine(KB.out _ hK).mono ?_
 rintro e w1 ⟨rfl,k1⟩
 clear c0 c1 c2 c3 c4 c5
 go_wp2_with fail
 go_ret
 exact⟨rfl,hK.trans k1⟩
theorem at_beh3 (kd ba fa wa ev tt:Int)(st d:Int)(hst:¬st<wa)(hd:IntKind.i64.wrap (st-wa)=d)(s:Int)(w:World)
  (KB:Hid (∀u,Kept w u→Calls Tryz.prog 64 #[.agg #[.int .i64 kd,.int .i64 ba,.int .i64 fa,.int .i64 wa,.int .i64 ev,.int .i64 tt],.int .i64 d] u fun e w'=>e=.returned (.int .i64 s)∧Kept u w')):
  Calls Tryz.prog 10 #[.agg #[.int .i64 kd,.int .i64 ba,.int .i64 fa,.int .i64 wa,.int .i64 ev,.int .i64 tt],.int .i64 st,.func (.func 64) #[] #[]] w fun e w'=>e=.returned (.int .i64 s)∧Kept w w':=by
 obtain⟨X,hX⟩:∃X,X=w.alloc (.cells #[.int .i64 kd,.int .i64 ba,.int .i64 fa,.int .i64 wa,.int .i64 ev,.int .i64 tt] 23):=⟨_,rfl⟩
 have hK:Kept w X:=by rw[hX];exact(Kept.refl w).alloc _ _
 have HS0:Hid (∀u,Kept X u→u.cell? ⟨w.heap.size,0,none⟩=some (.int .i64 kd)∧u.cell? ⟨w.heap.size,1,none⟩=some (.int .i64 ba)∧u.cell? ⟨w.heap.size,2,none⟩=some (.int .i64 fa)∧u.cell? ⟨w.heap.size,3,none⟩=some (.int .i64 wa)∧u.cell? ⟨w.heap.size,4,none⟩=some (.int .i64 ev)∧u.cell? ⟨w.heap.size,5,none⟩=some (.int .i64 tt)):=fun u k=>sch_cells w kd ba fa wa ev tt _ X hX u k
 obtain⟨B0,hB0⟩:∃B,B=w.heap.size:=⟨_,rfl⟩
 rw[←hB0]at HS0
 go_enter Tryz.func10,Tryz.ntmps10
 go_upto_region 1 with fail
 rw[←hX,←hB0]
 have hBX:B0<X.heap.size:=by rw[hB0,hX];simp
 clear hX hB0
 obtain⟨c0,c1,c2,c3,c4,c5⟩:=HS0.out _ (Kept.refl X)
 go_wp2_with fail
 refine(KB.out _ hK).mono ?_
 rintro e w1 ⟨rfl,k1⟩
 clear c0 c1 c2 c3 c4 c5
 go_wp2_with fail
 go_ret
 exact⟨rfl,hK.trans k1⟩
theorem at_beh4 (kd ba fa wa ev tt:Int)(st d:Int)(hst:¬st<wa)(hd:IntKind.i64.wrap (st-wa)=d)(s:Int)(w:World)
  (KB:Hid (∀u,Kept w u→Calls Tryz.prog 65 #[.agg #[.int .i64 kd,.int .i64 ba,.int .i64 fa,.int .i64 wa,.int .i64 ev,.int .i64 tt],.int .i64 d] u fun e w'=>e=.returned (.int .i64 s)∧Kept u w')):
  Calls Tryz.prog 10 #[.agg #[.int .i64 kd,.int .i64 ba,.int .i64 fa,.int .i64 wa,.int .i64 ev,.int .i64 tt],.int .i64 st,.func (.func 65) #[] #[]] w fun e w'=>e=.returned (.int .i64 s)∧Kept w w':=by
 obtain⟨X,hX⟩:∃X,X=w.alloc (.cells #[.int .i64 kd,.int .i64 ba,.int .i64 fa,.int .i64 wa,.int .i64 ev,.int .i64 tt] 23):=⟨_,rfl⟩
 have hK:Kept w X:=by rw[hX];exact(Kept.refl w).alloc _ _
 have HS0:Hid (∀u,Kept X u→u.cell? ⟨w.heap.size,0,none⟩=some (.int .i64 kd)∧u.cell? ⟨w.heap.size,1,none⟩=some (.int .i64 ba)∧u.cell? ⟨w.heap.size,2,none⟩=some (.int .i64 fa)∧u.cell? ⟨w.heap.size,3,none⟩=some (.int .i64 wa)∧u.cell? ⟨w.heap.size,4,none⟩=some (.int .i64 ev)∧u.cell? ⟨w.heap.size,5,none⟩=some (.int .i64 tt)):=fun u k=>sch_cells w kd ba fa wa ev tt _ X hX u k
 obtain⟨B0,hB0⟩:∃B,B=w.heap.size:=⟨_,rfl⟩
 rw[←hB0]at HS0
 go_enter Tryz.func10,Tryz.ntmps10
 go_upto_region 1 with fail
 rw[←hX,←hB0]
 have hBX:B0<X.heap.size:=by rw[hB0,hX];simp
 clear hX hB0
 obtain⟨c0,c1,c2,c3,c4,c5⟩:=HS0.out _ (Kept.refl X)
 go_wp2_with fail
 refine(KB.out _ hK).mono ?_
 rintro e w1 ⟨rfl,k1⟩
 clear c0 c1 c2 c3 c4 c5
 go_wp2_with fail
 go_ret
 exact⟨rfl,hK.trans k1⟩
theorem at_beh5 (kd ba fa wa ev tt:Int)(st d:Int)(hst:¬st<wa)(hd:IntKind.i64.wrap (st-wa)=d)(s:Int)(w:World)
  (KB:Hid (∀u,Kept w u→Calls Tryz.prog 66 #[.agg #[.int .i64 kd,.int .i64 ba,.int .i64 fa,.int .i64 wa,.int .i64 ev,.int .i64 tt],.int .i64 d] u fun e w'=>e=.returned (.int .i64 s)∧Kept u w')):
  Calls Tryz.prog 10 #[.agg #[.int .i64 kd,.int .i64 ba,.int .i64 fa,.int .i64 wa,.int .i64 ev,.int .i64 tt],.int .i64 st,.func (.func 66) #[] #[]] w fun e w'=>e=.returned (.int .i64 s)∧Kept w w':=by
 obtain⟨X,hX⟩:∃X,X=w.alloc (.cells #[.int .i64 kd,.int .i64 ba,.int .i64 fa,.int .i64 wa,.int .i64 ev,.int .i64 tt] 23):=⟨_,rfl⟩
 have hK:Kept w X:=by rw[hX];exact(Kept.refl w).alloc _ _
 have HS0:Hid (∀u,Kept X u→u.cell? ⟨w.heap.size,0,none⟩=some (.int .i64 kd)∧u.cell? ⟨w.heap.size,1,none⟩=some (.int .i64 ba)∧u.cell? ⟨w.heap.size,2,none⟩=some (.int .i64 fa)∧u.cell? ⟨w.heap.size,3,none⟩=some (.int .i64 wa)∧u.cell? ⟨w.heap.size,4,none⟩=some (.int .i64 ev)∧u.cell? ⟨w.heap.size,5,none⟩=some (.int .i64 tt)):=fun u k=>sch_cells w kd ba fa wa ev tt _ X hX u k
 obtain⟨B0,hB0⟩:∃B,B=w.heap.size:=⟨_,rfl⟩
 rw[←hB0]at HS0
 go_enter Tryz.func10,Tryz.ntmps10
 go_upto_region 1 with fail
 rw[←hX,←hB0]
 have hBX:B0<X.heap.size:=by rw[hB0,hX];simp
 clear hX hB0
 obtain⟨c0,c1,c2,c3,c4,c5⟩:=HS0.out _ (Kept.refl X)
 go_wp2_with fail
 refine(KB.out _ hK).mono ?_
 rintro e w1 ⟨rfl,k1⟩
 clear c0 c1 c2 c3 c4 c5
 go_wp2_with fail
 go_ret
 exact⟨rfl,hK.trans k1⟩
theorem At_no (kd ba fa wa ev tt:Int)(st:Int)(w:World)
  (KC:Hid (∀u:World,Calls Tryz.prog 8 #[.agg #[.int .i64 kd,.int .i64 ba,.int .i64 fa,.int .i64 wa,.int .i64 ev,.int .i64 tt]] u fun e w'=>e=.returned (.tuple #[.nilFunc,.int .i64 42])∧Kept u w')):
  Calls Tryz.prog 6 #[.agg #[.int .i64 kd,.int .i64 ba,.int .i64 fa,.int .i64 wa,.int .i64 ev,.int .i64 tt],.int .i64 st] w fun e w'=>e=.returned (.tuple #[.int .i64 0,.int .i64 42])∧Kept w w':=by
 obtain⟨X,hX⟩:∃X,X=w.alloc (.cells #[.int .i64 kd,.int .i64 ba,.int .i64 fa,.int .i64 wa,.int .i64 ev,.int .i64 tt] 23):=⟨_,rfl⟩
 have hK:Kept w X:=by rw[hX];exact(Kept.refl w).alloc _ _
 have HS0:Hid (∀u,Kept X u→u.cell? ⟨w.heap.size,0,none⟩=some (.int .i64 kd)∧u.cell? ⟨w.heap.size,1,none⟩=some (.int .i64 ba)∧u.cell? ⟨w.heap.size,2,none⟩=some (.int .i64 fa)∧u.cell? ⟨w.heap.size,3,none⟩=some (.int .i64 wa)∧u.cell? ⟨w.heap.size,4,none⟩=some (.int .i64 ev)∧u.cell? ⟨w.heap.size,5,none⟩=some (.int .i64 tt)):=fun u k=>sch_cells w kd ba fa wa ev tt _ X hX u k
 obtain⟨B0,hB0⟩:∃B,B=w.heap.size:=⟨_,rfl⟩
 rw[←hB0]at HS0
 go_enter Tryz.func6,Tryz.ntmps6
 go_upto_region 1 with fail
 rw[←hX,←hB0]
 have hBX:B0<X.heap.size:=by rw[hB0,hX];simp
 clear hX hB0
 obtain⟨c0,c1,c2,c3,c4,c5⟩:=HS0.out _ (Kept.refl X)
 go_wp2_with fail
 refine(KC.out _).mono ?_
 rintro e w1 ⟨rfl,k1⟩
 clear c0 c1 c2 c3 c4 c5
 go_wp2_with fail
 exact bodyPost_ret (v:=.tuple #[.int .i64 0,.int .i64 42]) (by simp[results,Tryz.results6,go_sem]) rfl ⟨rfl,hK.trans k1⟩
theorem At_yes (kd ba fa wa ev tt:Int)(st:Int)(f:Value)(b:Bool)(s:Int)(w:World)
  (KC:Hid (∀u:World,Kept w u→Calls Tryz.prog 8 #[.agg #[.int .i64 kd,.int .i64 ba,.int .i64 fa,.int .i64 wa,.int .i64 ev,.int .i64 tt]] u fun e w'=>e=.returned (.tuple #[f,.int .i64 0])∧Kept u w'))
  (KN:Hid (∀u:World,Calls Tryz.prog 9 #[.int .i64 st] u fun e w'=>e=.returned (.bool b)∧Kept u w'))
  (KT:Hid (∀u:World,Kept w u→b=true→Calls Tryz.prog 10 #[.agg #[.int .i64 kd,.int .i64 ba,.int .i64 fa,.int .i64 wa,.int .i64 ev,.int .i64 tt],.int .i64 st,f] u fun e w'=>e=.returned (.int .i64 s)∧Kept u w')):
  Calls Tryz.prog 6 #[.agg #[.int .i64 kd,.int .i64 ba,.int .i64 fa,.int .i64 wa,.int .i64 ev,.int .i64 tt],.int .i64 st] w fun e w'=>e=.returned (if b=true then (if cls s 64=3 then .tuple #[.int .i64 0,.int .i64 31]else .tuple #[.int .i64 s,.int .i64 0])else .tuple #[.int .i64 0,.int .i64 1])∧Kept w w':=by
 have KL:Hid (∀u:World,Calls Tryz.prog 11 #[.int .i64 s,.int .i64 64] u fun e w'=>e=.returned (.int .i64 (cls s 64))∧Kept u w'):=fun u=>class_any s 64 u
 obtain⟨cc,hcc⟩:∃c,cls s 64=c:=⟨_,rfl⟩
 rw[hcc]at KL ⊢
 clear hcc
 obtain⟨X,hX⟩:∃X,X=w.alloc (.cells #[.int .i64 kd,.int .i64 ba,.int .i64 fa,.int .i64 wa,.int .i64 ev,.int .i64 tt] 23):=⟨_,rfl⟩
 have hK:Kept w X:=by rw[hX];exact(Kept.refl w).alloc _ _
 have HS0:Hid (∀u,Kept X u→u.cell? ⟨w.heap.size,0,none⟩=some (.int .i64 kd)∧u.cell? ⟨w.heap.size,1,none⟩=some (.int .i64 ba)∧u.cell? ⟨w.heap.size,2,none⟩=some (.int .i64 fa)∧u.cell? ⟨w.heap.size,3,none⟩=some (.int .i64 wa)∧u.cell? ⟨w.heap.size,4,none⟩=some (.int .i64 ev)∧u.cell? ⟨w.heap.size,5,none⟩=some (.int .i64 tt)):=fun u k=>sch_cells w kd ba fa wa ev tt _ X hX u k
 obtain⟨B0,hB0⟩:∃B,B=w.heap.size:=⟨_,rfl⟩
 rw[←hB0]at HS0
 go_enter Tryz.func6,Tryz.ntmps6
 go_upto_region 1 with fail
 rw[←hX,←hB0]
 have hBX:B0<X.heap.size:=by rw[hB0,hX];simp
 clear hX hB0
 obtain⟨c0,c1,c2,c3,c4,c5⟩:=HS0.out _ (Kept.refl X)
 go_wp2_with fail
 refine(KC.out _ hK).mono ?_
 rintro e w1 ⟨rfl,k1⟩
 clear c0 c1 c2 c3 c4 c5
 obtain⟨c0,c1,c2,c3,c4,c5⟩:=HS0.out _ k1
 go_wp2_with fail
 refine(KN.out _).mono ?_
 rintro e w2 ⟨rfl,k2⟩
 have k12:=k1.trans k2
 clear c0 c1 c2 c3 c4 c5
 obtain⟨c0,c1,c2,c3,c4,c5⟩:=HS0.out _ k12
 cases b
 ·go_wp2_with fail
  exact bodyPost_ret (v:=.tuple #[.int .i64 0,.int .i64 1]) (by simp[results,Tryz.results6,go_sem]) rfl ⟨rfl,hK.trans k12⟩
 ·go_wp2_with fail
  refine(KT.out _ (hK.trans k12) (by first|trivial|rfl)).mono ?_
  rintro e w3 ⟨rfl,k3⟩
  go_wp2_with fail
  refine(KL.out _).mono ?_
  rintro e w4 ⟨rfl,k4⟩
  by_cases h3:cc=3
  ·subst h3
   go_wp2_with fail
   exact bodyPost_ret (v:=.tuple #[.int .i64 0,.int .i64 31]) (by simp[results,Tryz.results6,go_sem]) rfl ⟨rfl,hK.trans (k12.trans (k3.trans k4))⟩
  ·have h3':(cc==3)=false:=by simpa using h3
   go_wp2_with fail
   exact bodyPost_ret (v:=.tuple #[.int .i64 s,.int .i64 0]) (by simp[results,Tryz.results6,go_sem]) rfl ⟨by simp[h3],hK.trans (k12.trans (k3.trans k4))⟩
end Go.Proofs.YtnniljhdcplkgaaGreatDoor
