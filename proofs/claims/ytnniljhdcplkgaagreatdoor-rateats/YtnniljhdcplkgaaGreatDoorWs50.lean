/-  -/
import Derived.Test.YtnniljhdcplkgaaGreatDoorWs44
import Derived.Test.YtnniljhdcplkgaaGreatDoorWs48
import Derived.Test.YtnniljhdcplkgaaGreatDoorWs05
import Derived.ProofKit
import Derived.OpenShut
import Derived.Carry
import Derived.Lib.SmallJoins
import Derived.ChangeSlices
import Derived.Test.YtnniljhdcplkgaaGreatDoorWs49
namespace Go.Proofs.YtnniljhdcplkgaaGreatDoor
open Go.ChangeShapes Go.WideShapes Go.ChangeAt Go.RowKit
set_option maxHeartbeats 16000000
set_option maxRecDepth 100000
set_option linter.unusedVariables false
set_option linter.unusedSimpArgs false
theorem rat_walk (kd ba fa wa ev tt:Int)(st:Int)(ck fin:Bool)(s:Int)(w:World)
  (KC:Hid (∀u,Calls Tryz.prog 12 #[.agg #[.int .i64 kd,.int .i64 ba,.int .i64 fa,.int .i64 wa,.int .i64 ev,.int .i64 tt]] u fun e w'=>e=.returned (.int .i64 (if ck=true then 0 else 42))∧Kept u w'))
  (KW:Hid (ck=true→cnt st=true→st<wa→∃(d:Int) (nb n1 n2 n3:Nm),IntKind.i64.wrap (st+1)=d∧Dnu ba nb∧Dwh d n1∧Dtm nb n1 n2∧Dwh wa n3∧Dqt n2 n3 s))
  (KB:Hid (ck=true→cnt st=true→¬st<wa→∃d:Int,IntKind.i64.wrap (st-wa)=d∧∀u,Calls Tryz.prog 17 #[.agg #[.int .i64 kd,.int .i64 ba,.int .i64 fa,.int .i64 wa,.int .i64 ev,.int .i64 tt],.int .i64 d] u fun e w'=>e=.returned (.int .i64 s)∧Kept u w'))
  (KF:Hid (∀u,Calls Tryz.prog 18 #[.int .i64 s,.int .i64 64] u fun e w'=>e=.returned (.bool fin)∧Kept u w')):
  Calls Tryz.prog 7 #[.agg #[.int .i64 kd,.int .i64 ba,.int .i64 fa,.int .i64 wa,.int .i64 ev,.int .i64 tt],.int .i64 st] w fun e w'=>e=.returned (if ck=true then (if cnt st=true then (if fin=true then .tuple #[.int .i64 s,.int .i64 0]else .tuple #[.int .i64 0,.int .i64 31])else .tuple #[.int .i64 0,.int .i64 1])else .tuple #[.int .i64 0,.int .i64 42])∧Kept w w':=by
 obtain⟨cc,hcc⟩:∃c,cnt st=c:=⟨_,rfl⟩
 have HN:Hid (cc=decide (0≤st∧st≤1099511627776)):=hcc.symm
 rw[hcc]at KW KB ⊢
 clear hcc
 obtain⟨X,hX⟩:∃X,X=w.alloc (.cells #[.int .i64 kd,.int .i64 ba,.int .i64 fa,.int .i64 wa,.int .i64 ev,.int .i64 tt] 23):=⟨_,rfl⟩
 have hK:Kept w X:=by rw[hX];exact(Kept.refl w).alloc _ _
 have HS0:Hid (∀u,Kept X u→u.cell? ⟨w.heap.size,0,none⟩=some (.int .i64 kd)∧u.cell? ⟨w.heap.size,1,none⟩=some (.int .i64 ba)∧u.cell? ⟨w.heap.size,2,none⟩=some (.int .i64 fa)∧u.cell? ⟨w.heap.size,3,none⟩=some (.int .i64 wa)∧u.cell? ⟨w.heap.size,4,none⟩=some (.int .i64 ev)∧u.cell? ⟨w.heap.size,5,none⟩=some (.int .i64 tt)):=fun u k=>sch_cells w kd ba fa wa ev tt _ X hX u k
 obtain⟨B0,hB0⟩:∃B,B=w.heap.size:=⟨_,rfl⟩
 rw[←hB0]at HS0
 go_enter Tryz.func7,Tryz.ntmps7
 go_upto_region 1 with fail
 rw[←hX,←hB0]
 have hBX:B0<X.heap.size:=by rw[hB0,hX];simp
 clear hX hB0
 obtain⟨c0,c1,c2,c3,c4,c5⟩:=HS0.out _ (Kept.refl X)
 go_wp2_with fail
 refine(KC.out _).mono ?_
 rintro e Y ⟨rfl,k1⟩
 clear c0 c1 c2 c3 c4 c5
 have HS:Hid (∀u,Kept Y u→Kept Y u∧(u.cell? ⟨B0,0,none⟩=some (.int .i64 kd)∧u.cell? ⟨B0,1,none⟩=some (.int .i64 ba)∧u.cell? ⟨B0,2,none⟩=some (.int .i64 fa)∧u.cell? ⟨B0,3,none⟩=some (.int .i64 wa)∧u.cell? ⟨B0,4,none⟩=some (.int .i64 ev)∧u.cell? ⟨B0,5,none⟩=some (.int .i64 tt))):=fun u k=>⟨k,HS0.out u (k1.trans k)⟩
 have HQ:=hidr (hK.trans k1)
 clear k1 HS0 hK hBX
 cases ck
 ·go_wp2_with fail
  exact bodyPost_ret (v:=.tuple #[.int .i64 0,.int .i64 42]) (by simp[results,Tryz.results7,go_sem, *]) rfl ⟨rfl,HQ.out⟩
 by_cases h0:st<0
 ·have hc:cc=false:=HN.out.trans (decide_eq_false (by omega))
  subst hc
  go_wp2_with fail
  exact bodyPost_ret (v:=.tuple #[.int .i64 0,.int .i64 1]) (by simp[results,Tryz.results7,go_sem, *]) rfl ⟨rfl,HQ.out⟩
 by_cases h1:(1099511627776:Int)<st
 ·have hc:cc=false:=HN.out.trans (decide_eq_false (by omega))
  subst hc
  go_wp2_with fail
  exact bodyPost_ret (v:=.tuple #[.int .i64 0,.int .i64 1]) (by simp[results,Tryz.results7,go_sem, *]) rfl ⟨rfl,HQ.out⟩
 have hc:cc=true:=HN.out.trans (decide_eq_true (by omega))
 subst hc
 by_cases hst:st<wa
 ·obtain⟨d,nb,n1',n2',n3',hd,DB,DW1,DT,DW2,DQ⟩:=KW.out rfl rfl hst
  obtain⟨-,c0,c1,c2,c3,c4,c5⟩:=HS.out _ (Kept.refl Y)
  go_upto_region 8 with fail
  clear c0 c1 c2 c3 c4 c5
  refine wp_region_held_drew (S:=fun u=>Kept Y u∧(u.cell? ⟨B0,0,none⟩=some (.int .i64 kd)∧u.cell? ⟨B0,1,none⟩=some (.int .i64 ba)∧u.cell? ⟨B0,2,none⟩=some (.int .i64 fa)∧u.cell? ⟨B0,3,none⟩=some (.int .i64 wa)∧u.cell? ⟨B0,4,none⟩=some (.int .i64 ev)∧u.cell? ⟨B0,5,none⟩=some (.int .i64 tt))) (by kernel_rfl) (HS.out _ (Kept.refl Y).drew) (fun hHeld=>?_)
  refine tk (i:=0) (v:=?_) rfl ?_
  simp only[Act.put,zA,zB,zC,zD,zE,zF]
  refine tk (i:=1) (v:=?_) rfl ?_
  simp only[Act.put,zA,zB,zC,zD,zE,zF]
  refine tk (i:=3) (v:=?_) rfl ?_
  simp only[Act.put,zA,zB,zC,zD,zE,zF]
  refine tk (i:=4) (v:=?_) rfl ?_
  simp only[Act.put,zA,zB,zC,zD,zE,zF]
  refine tk (i:=7) (v:=?_) rfl ?_
  simp only[Act.put,zA,zB,zC,zD,zE,zF]
  refine tk (i:=8) (v:=?_) rfl ?_
  simp only[Act.put,zA,zB,zC,zD,zE,zF]
  refine wpAnyH_ready (rs:=[2]) (by kernel_rfl) (by simp) ?_
  refine AllReadyH.cons rfl (fun K hK9=>?_) AllReadyH.nil
  go_simp
  refine(DB [] _ (lt0 _)).mono ?_
  rintro e u2 ⟨v3,rfl,M3,k2⟩
  have r2:=(Kept.refl Y).drew.trans k2
  have e2':=HS.out _ r2
  refine hK9.out _ _ e2' (fun hHeld2=>?_)
  clear hK9 K
  (try simp only[Act.put,zA,zB,zC,zD,zE,zF])
  refine wpAnyH_ready (rs:=[5]) (by kernel_rfl) (by simp) ?_
  refine AllReadyH.cons rfl (fun K hK9=>?_) AllReadyH.nil
  go_simp
  refine(DW1 [] _ (lt0 _)).mono ?_
  rintro e u5 ⟨v4,rfl,M4,k5⟩
  replace M3:=M3.kept k5
  have r5:=r2.trans k5
  have e5':=HS.out _ r5
  refine hK9.out _ _ e5' (fun hHeld5=>?_)
  clear hK9 K
  (try simp only[Act.put,zA,zB,zC,zD,zE,zF])
  refine wpAnyH_ready (rs:=[6]) (by kernel_rfl) (by simp) ?_
  refine AllReadyH.cons rfl (fun K hK9=>?_) AllReadyH.nil
  go_simp
  refine(DT [] _ _ _ (lt0 _) M3 M4).mono ?_
  rintro e u6 ⟨v5,rfl,M5,k6⟩
  have r6:=r5.trans k6
  have e6':=HS.out _ r6
  refine hK9.out _ _ e6' (fun hHeld6=>?_)
  clear hK9 K
  (try simp only[Act.put,zA,zB,zC,zD,zE,zF])
  refine wpAnyH_ready (rs:=[9]) (by kernel_rfl) (by simp) ?_
  refine AllReadyH.cons rfl (fun K hK9=>?_) AllReadyH.nil
  go_simp
  refine(DW2 [] _ (lt0 _)).mono ?_
  rintro e u9 ⟨v6,rfl,M6,k9⟩
  replace M5:=M5.kept k9
  have r9:=r6.trans k9
  have e9':=HS.out _ r9
  refine hK9.out _ _ e9' (fun hHeld9=>?_)
  clear hK9 K
  (try simp only[Act.put,zA,zB,zC,zD,zE,zF])
  refine wpAnyH_ready (rs:=[10]) (by kernel_rfl) (by simp) ?_
  refine AllReadyH.cons rfl (fun K hK9=>?_) AllReadyH.nil
  go_simp
  refine(DQ _ _ _ M5 M6).mono ?_
  rintro e u10 ⟨rfl,k10⟩
  have r10:=r9.trans k10
  have e10':=HS.out _ r10
  refine hK9.out _ _ e10' (fun hHeld10=>?_)
  clear hK9 K
  (try simp only[Act.put,zA,zB,zC,zD,zE,zF])
  refine tk (i:=11) (v:=?_) rfl ?_
  simp only[Act.put,zA,zB,zC,zD,zE,zF]
  refine wpAnyH_done (by kernel_rfl) ?_ _
  go_wp2_with fail
  refine(KF.out _).mono ?_
  rintro e w9 ⟨rfl,k9⟩
  cases fin
  ·go_wp2_with fail
   exact bodyPost_ret (v:=.tuple #[.int .i64 0,.int .i64 31]) (by simp[results,Tryz.results7,go_sem, *]) rfl ⟨rfl,HQ.out.trans (r10.trans k9)⟩
  ·go_wp2_with fail
   exact bodyPost_ret (v:=.tuple #[.int .i64 s,.int .i64 0]) (by simp[results,Tryz.results7,go_sem, *]) rfl ⟨rfl,HQ.out.trans (r10.trans k9)⟩
 ·obtain⟨d,hd,KBH⟩:=KB.out rfl rfl (by omega)
  have HBH:=hidr KBH
  clear KBH
  obtain⟨-,c0,c1,c2,c3,c4,c5⟩:=HS.out _ (Kept.refl Y)
  go_wp2_with fail
  refine(HBH.out _).mono ?_
  rintro e w5 ⟨rfl,r10⟩
  clear c0 c1 c2 c3 c4 c5
  go_wp2_with fail
  refine(KF.out _).mono ?_
  rintro e w9 ⟨rfl,k9⟩
  cases fin
  ·go_wp2_with fail
   exact bodyPost_ret (v:=.tuple #[.int .i64 0,.int .i64 31]) (by simp[results,Tryz.results7,go_sem, *]) rfl ⟨rfl,HQ.out.trans (r10.trans k9)⟩
  ·go_wp2_with fail
   exact bodyPost_ret (v:=.tuple #[.int .i64 s,.int .i64 0]) (by simp[results,Tryz.results7,go_sem, *]) rfl ⟨rfl,HQ.out.trans (r10.trans k9)⟩
theorem rats_walk (kd ba fa wa ev tt:Int)(st:Int)(w:World)
  (KA:Hid (∀u,Kept w u→Calls Tryz.prog 5 #[] u fun e w'=>e=.returned (.bool true)∧Kept u w'))
  (KX:Hid (∀i,∃a q:Int,(∀u,Kept w u→Calls Tryz.prog 6 #[.agg #[.int .i64 kd,.int .i64 ba,.int .i64 fa,.int .i64 wa,.int .i64 ev,.int .i64 tt],.int .i64 i] u fun e w'=>e=.returned (.tuple #[.int .i64 a,.int .i64 q])∧Kept u w')∧(∀u,Kept w u→Calls Tryz.prog 7 #[.agg #[.int .i64 kd,.int .i64 ba,.int .i64 fa,.int .i64 wa,.int .i64 ev,.int .i64 tt],.int .i64 i] u fun e w'=>e=.returned (.tuple #[.int .i64 a,.int .i64 q])∧Kept u w'))):
  Calls Tryz.prog 4 #[.agg #[.int .i64 kd,.int .i64 ba,.int .i64 fa,.int .i64 wa,.int .i64 ev,.int .i64 tt],.int .i64 st] w fun e w'=>e=.returned (.bool true)∧Kept w w':=by
 obtain⟨X,hX⟩:∃X,X=w.alloc (.cells #[.int .i64 kd,.int .i64 ba,.int .i64 fa,.int .i64 wa,.int .i64 ev,.int .i64 tt] 23):=⟨_,rfl⟩
 have hK:Kept w X:=by rw[hX];exact(Kept.refl w).alloc _ _
 have HS0:Hid (∀u,Kept X u→u.cell? ⟨w.heap.size,0,none⟩=some (.int .i64 kd)∧u.cell? ⟨w.heap.size,1,none⟩=some (.int .i64 ba)∧u.cell? ⟨w.heap.size,2,none⟩=some (.int .i64 fa)∧u.cell? ⟨w.heap.size,3,none⟩=some (.int .i64 wa)∧u.cell? ⟨w.heap.size,4,none⟩=some (.int .i64 ev)∧u.cell? ⟨w.heap.size,5,none⟩=some (.int .i64 tt)):=fun u k=>sch_cells w kd ba fa wa ev tt _ X hX u k
 obtain⟨B0,hB0⟩:∃B,B=w.heap.size:=⟨_,rfl⟩
 rw[←hB0]at HS0
 go_enter Tryz.func4,Tryz.ntmps4
 go_upto_region 1 with fail
 rw[←hX,←hB0]
 have hBX:B0<X.heap.size:=by rw[hB0,hX];simp
 clear hX hB0
 obtain⟨c0,c1,c2,c3,c4,c5⟩:=HS0.out _ (Kept.refl X)
 go_wp2_with fail
 refine(KA.out _ hK).mono ?_
 rintro e w1 ⟨rfl,k1⟩
 clear c0 c1 c2 c3 c4 c5
 obtain⟨c0,c1,c2,c3,c4,c5⟩:=HS0.out _ k1
 obtain⟨x3,hx3⟩:∃x,IntKind.i64.wrap (wa-1)=x:=⟨_,rfl⟩
 obtain⟨x4,hx4⟩:∃x,IntKind.i64.wrap (wa+ev)=x:=⟨_,rfl⟩
 obtain⟨x6,hx6⟩:∃x,IntKind.i64.wrap (wa+tt)=x:=⟨_,rfl⟩
 obtain⟨x5,hx5⟩:∃x,IntKind.i64.wrap (x6-1)=x:=⟨_,rfl⟩
 go_upto_region 4 with fail
 clear hx3 hx4 hx5 hx6
 obtain⟨L,hL⟩:∃L:List Int,L=[st,0,wa,x3,x4,x5,x6]:=⟨_,rfl⟩
 obtain⟨Y,hY⟩:∃Y,Y=w1.alloc (.cells #[.int .i64 st,.int .i64 0,.int .i64 wa,.int .i64 x3,.int .i64 x4,.int .i64 x5,.int .i64 x6] 3):=⟨_,rfl⟩
 obtain⟨g,hg⟩:∃g,g=w1.heap.size:=⟨_,rfl⟩
 have kY:Kept w1 Y:=by rw[hY];exact(Kept.refl w1).alloc _ _
 have hgl:g<Y.heap.size:=by rw[hY,hg];simp
 have hc7:∀j,j<7→Y.cell? ⟨g,j,none⟩=some (.int .i64 (L.getD j 0)):=fun j hj=>by
  rw[hY,hg,hL]
  have:j=0∨j=1∨j=2∨j=3∨j=4∨j=5∨j=6:=by omega
  rcases this with rfl|rfl|rfl|rfl|rfl|rfl|rfl<;>simp[go_sem]
 have HL:Hid (∀j,j<7→∀u,Kept Y u→u.cell? ⟨g,j,none⟩=some (.int .i64 (L.getD j 0))):=fun j hj u k=>(k.below.cell (p:=⟨g,j,none⟩) hgl).trans (hc7 j hj)
 have HS:Hid (∀u,Kept Y u→u.cell? ⟨B0,0,none⟩=some (.int .i64 kd)∧u.cell? ⟨B0,1,none⟩=some (.int .i64 ba)∧u.cell? ⟨B0,2,none⟩=some (.int .i64 fa)∧u.cell? ⟨B0,3,none⟩=some (.int .i64 wa)∧u.cell? ⟨B0,4,none⟩=some (.int .i64 ev)∧u.cell? ⟨B0,5,none⟩=some (.int .i64 tt)):=fun u k=>HS0.out u ((k1.trans kY).trans k)
 have HQ:=hidr (hK.trans (k1.trans kY))
 rw[←hY,←hg]
 clear hY hg hL hc7 kY k1 hK hgl HS0 hBX c0 c1 c2 c3 c4 c5
 go_wp2_with fail
 go_loopw [6] (fun iv wr=>∃k:Nat,k≤7∧iv=.int .i64 (k:Int)∧Kept Y wr) (fun iv _=>7-(intOf iv).toNat)
 case atStart=>exact⟨0,by omega,rfl,Kept.refl Y⟩
 case round=>
  obtain⟨k,hk,rfl,kr⟩:=hrel
  by_cases h7:k<7
  ·obtain⟨a,q,K1,K2⟩:=KX.out (L.getD k 0)
   have HK1:=hidr K1
   have HK2:=hidr K2
   obtain⟨xi,hxi⟩:∃x,L.getD k 0=x:=⟨_,rfl⟩
   have HC:Hid (∀u,Kept Y u→u.cell? ⟨g,k,none⟩=some (.int .i64 xi)):=fun u kk=>by rw[←hxi];exact HL.out k h7 u kk
   rw[hxi]at HK1 HK2
   have hk7:(k:Int)<7:=by omega
   have z1:IntKind.i64.wrap ((k:Int)+1)=(k:Int)+1:=by rw[wrap_i64];omega
   have e1:(a != a)=false:=by simp
   have e2:(q != q)=false:=by simp
   have HS7:Hid (∀u,Kept wr u→Kept wr u∧u.cell? ⟨g,k,none⟩=some (.int .i64 xi)∧u.cell? ⟨B0,0,none⟩=some (.int .i64 kd)∧u.cell? ⟨B0,1,none⟩=some (.int .i64 ba)∧u.cell? ⟨B0,2,none⟩=some (.int .i64 fa)∧u.cell? ⟨B0,3,none⟩=some (.int .i64 wa)∧u.cell? ⟨B0,4,none⟩=some (.int .i64 ev)∧u.cell? ⟨B0,5,none⟩=some (.int .i64 tt)):=fun u kk=>⟨kk,HC.out u (kr.trans kk),HS.out u (kr.trans kk)⟩
   clear K1 K2 hxi
   go_upto_region 7 with fail
   refine wp_region_late [] (fun u=>Kept wr u∧u.cell? ⟨g,k,none⟩=some (.int .i64 xi)∧u.cell? ⟨B0,0,none⟩=some (.int .i64 kd)∧u.cell? ⟨B0,1,none⟩=some (.int .i64 ba)∧u.cell? ⟨B0,2,none⟩=some (.int .i64 fa)∧u.cell? ⟨B0,3,none⟩=some (.int .i64 wa)∧u.cell? ⟨B0,4,none⟩=some (.int .i64 ev)∧u.cell? ⟨B0,5,none⟩=some (.int .i64 tt)) (by kernel_rfl) (HS7.out _ (Kept.refl wr).drew) (fun hHeld=>?_)
   refine tkD (i:=0) (v:=?_) rfl hHeld ?_
   (try simp only[Act.put,zA,zB,zC,zD,zE,zF])
   refine tkD (i:=1) (v:=?_) rfl hHeld ?_
   (try simp only[Act.put,zA,zB,zC,zD,zE,zF])
   refine tkD (i:=2) (v:=?_) rfl hHeld ?_
   (try simp only[Act.put,zA,zB,zC,zD,zE,zF])
   refine tkD (i:=3) (v:=?_) rfl hHeld ?_
   (try simp only[Act.put,zA,zB,zC,zD,zE,zF])
   refine tkD (i:=4) (v:=?_) rfl hHeld ?_
   (try simp only[Act.put,zA,zB,zC,zD,zE,zF])
   refine wpAnyD_step (i:=5) (by kernel_rfl) rfl (fun K hK9=>?_)
   go_simp
   go_wp2_with fail
   refine(HK1.out _ (HQ.out.trans (kr.trans hHeld.1))).mono ?_
   rintro e u7 ⟨rfl,k7⟩
   refine hK9.out _ _ (HS7.out _ (hHeld.1.trans k7)) (fun hH7=>?_)
   clear hK9 K
   (try simp only[Act.put,zA,zB,zC,zD,zE,zF])
   refine tkD (i:=6) (v:=?_) rfl hH7 ?_
   (try simp only[Act.put,zA,zB,zC,zD,zE,zF])
   refine tkD (i:=7) (v:=?_) rfl hH7 ?_
   (try simp only[Act.put,zA,zB,zC,zD,zE,zF])
   refine tkD (i:=8) (v:=?_) rfl hH7 ?_
   (try simp only[Act.put,zA,zB,zC,zD,zE,zF])
   refine tkD (i:=9) (v:=?_) rfl hH7 ?_
   (try simp only[Act.put,zA,zB,zC,zD,zE,zF])
   refine tkD (i:=10) (v:=?_) rfl hH7 ?_
   (try simp only[Act.put,zA,zB,zC,zD,zE,zF])
   refine wpAnyD_done (by kernel_rfl) ?_ _
   (try simp only[Act.put,zA,zB,zC,zD,zE,zF])
   have q7:=hH7.1
   clear hH7 hHeld k7
   go_upto_region 8 with fail
   refine wp_region_late [] (fun u=>Kept wr u∧u.cell? ⟨g,k,none⟩=some (.int .i64 xi)∧u.cell? ⟨B0,0,none⟩=some (.int .i64 kd)∧u.cell? ⟨B0,1,none⟩=some (.int .i64 ba)∧u.cell? ⟨B0,2,none⟩=some (.int .i64 fa)∧u.cell? ⟨B0,3,none⟩=some (.int .i64 wa)∧u.cell? ⟨B0,4,none⟩=some (.int .i64 ev)∧u.cell? ⟨B0,5,none⟩=some (.int .i64 tt)) (by kernel_rfl) (HS7.out _ (q7.trans (Kept.refl u7).drew)) (fun hHeld=>?_)
   refine tkD (i:=0) (v:=?_) rfl hHeld ?_
   (try simp only[Act.put,zA,zB,zC,zD,zE,zF])
   refine tkD (i:=1) (v:=?_) rfl hHeld ?_
   (try simp only[Act.put,zA,zB,zC,zD,zE,zF])
   refine tkD (i:=2) (v:=?_) rfl hHeld ?_
   (try simp only[Act.put,zA,zB,zC,zD,zE,zF])
   refine tkD (i:=3) (v:=?_) rfl hHeld ?_
   (try simp only[Act.put,zA,zB,zC,zD,zE,zF])
   refine tkD (i:=4) (v:=?_) rfl hHeld ?_
   (try simp only[Act.put,zA,zB,zC,zD,zE,zF])
   refine wpAnyD_step (i:=5) (by kernel_rfl) rfl (fun K hK9=>?_)
   go_simp
   go_wp2_with fail
   refine(HK2.out _ (HQ.out.trans (kr.trans hHeld.1))).mono ?_
   rintro e u8 ⟨rfl,k8⟩
   refine hK9.out _ _ (HS7.out _ (hHeld.1.trans k8)) (fun hH8=>?_)
   clear hK9 K
   (try simp only[Act.put,zA,zB,zC,zD,zE,zF])
   refine tkD (i:=6) (v:=?_) rfl hH8 ?_
   (try simp only[Act.put,zA,zB,zC,zD,zE,zF])
   refine tkD (i:=7) (v:=?_) rfl hH8 ?_
   (try simp only[Act.put,zA,zB,zC,zD,zE,zF])
   refine tkD (i:=8) (v:=?_) rfl hH8 ?_
   (try simp only[Act.put,zA,zB,zC,zD,zE,zF])
   refine tkD (i:=9) (v:=?_) rfl hH8 ?_
   (try simp only[Act.put,zA,zB,zC,zD,zE,zF])
   refine tkD (i:=10) (v:=?_) rfl hH8 ?_
   (try simp only[Act.put,zA,zB,zC,zD,zE,zF])
   refine wpAnyD_done (by kernel_rfl) ?_ _
   (try simp only[Act.put,zA,zB,zC,zD,zE,zF])
   have q8:=hH8.1
   clear hH8 hHeld k8
   go_wp2_with fail
   go_roundw
   case rel=>exact⟨k+1,by omega,by go_num,kr.trans q8⟩
   case measure=>simp[intOf];omega
  ·obtain rfl:k=7:=by omega
   go_wp2_with fail
   go_ret
   exact⟨rfl,HQ.out.trans kr⟩
end Go.Proofs.YtnniljhdcplkgaaGreatDoor

namespace Go.Proofs.YtnniljhdcplkgaaGreatDoor
open Go.ChangeShapes Go.WideShapes Go.ChangeAt Go.RowKit Go.Joins
set_option maxHeartbeats 16000000
set_option maxRecDepth 100000
set_option linter.unusedVariables false
theorem laid_out:laidOutB Tryz.prog=true:=by kernel_rfl
theorem cells_int:Tryz.prog.cellsOf 3=1:=by kernel_rfl
theorem wf_rng (n:Int)(h:(Lit.int .i64 n).wf=true):-9223372036854775808≤n∧n≤9223372036854775807:=by
 have e1:IntKind.i64.min=-9223372036854775808:=rfl
 have e2:IntKind.i64.max=9223372036854775807:=rfl
 simp[Lit.wf]at h
 omega
section
variable {H:Type} {enc:TypeId×Value→H} {W:World}
theorem trodAll_stays {W':World}{sp:Nat→Bool}:∀{ts:List TypeId} {vs:List Value} {ds:List (DataW H)} {p:List MemPlace},(∀t∈ts,Tryz.prog.readableRec t=true∧t<Tryz.prog.types.size)→DataW.TrodAll enc Tryz.prog W 0 (fun _=>true) true ts vs ds p→(∀x∈p,W.sameAt W' x)→(∀x∈p,sp x.block=true)→DataW.TrodAll enc Tryz.prog W' 0 sp true ts vs ds p
 |[],_,_,_,_,h,_,_=>by
  obtain⟨rfl,rfl,rfl⟩:=trodAll_nil h
  exact trodAll_mk0
 |t::ts,_,_,_,hr,h,hs,hp=>by
  obtain⟨v,vs1,d,ds1,a,b,rfl,rfl,rfl,h1,h2⟩:=trodAll_cons h
  obtain⟨r1,r2⟩:=hr t (by simp)
  exact trodAll_cons_mk (WideElems.Trod_stays laid_out r1 r2 h1 (fun x hx=>hs x (by simp[hx])) (fun x hx=>hp x (by simp[hx]))) (trodAll_stays (fun t' ht'=>hr t' (by simp[ht'])) h2 (fun x hx=>hs x (by simp[hx])) (fun x hx=>hp x (by simp[hx])))
end
end Go.Proofs.YtnniljhdcplkgaaGreatDoor

namespace Go.Proofs.YtnniljhdcplkgaaGreatDoor
open Go.ChangeShapes Go.WideShapes Go.ChangeAt Go.RowKit
set_option maxHeartbeats 16000000
set_option maxRecDepth 100000
set_option linter.unusedVariables false
set_option linter.unusedSimpArgs false
def Warm18 (ba st wa s:Int):Prop:=∃(d:Int) (nb n1 n2 n3:Nm),IntKind.i64.wrap (st+1)=d∧Dnu ba nb∧Dwh d n1∧Dtm nb n1 n2∧Dwh wa n3∧Dqt n2 n3 s
theorem at_both (kd ba fa wa ev tt:Int)(hb1:-9223372036854775808≤ba)(hb2:ba≤9223372036854775807)(hbc:cls ba 64<3)(hf1:-9223372036854775808≤fa)(hf2:fa≤9223372036854775807)(hfc:cls fa 64<3)(st:Int)(hk:kd=0∨kd=1∨kd=2∨kd=3∨kd=4∨kd=5)(c1:cnt wa=true)(c2:cnt ev=true)(c3:cnt tt=true)(c4:cnt st=true)(hc:cok kd ev tt=true):∃s:Int,Cl4 s∧(∀u,Tab u→Calls Tryz.prog 10 #[.agg #[.int .i64 kd,.int .i64 ba,.int .i64 fa,.int .i64 wa,.int .i64 ev,.int .i64 tt],.int .i64 st,kFn kd] u fun e w'=>e=.returned (.int .i64 s)∧Kept u w')∧(st<wa→Warm18 ba st wa s)∧(¬st<wa→IntKind.i64.wrap (st-wa)=st-wa∧BK18 kd ev tt (st-wa) s (ofN ba 64) (ofN fa 64)):=by
 have d1:=cnt_iff c1
 have d2:=cnt_iff c2
 have d3:=cnt_iff c3
 have d4:=cnt_iff c4
 by_cases hw:st<wa
 ·have hw1:IntKind.i64.wrap (st+1)=st+1:=by rw[wrap_i64];omega
  obtain⟨v1,-,h1⟩:=int_nrm (st+1) (by omega) (by omega)
  obtain⟨v2,g2,h2⟩:=int_nrm wa (by omega) (by omega)
  have b1:=bl_cnt (st+1) (by omega) (by omega)
  have b2:=bl_cnt wa (by omega) (by omega)
  obtain⟨s,z,hs,-,K1,K2,K3⟩:=share_both ba hb1 hb2 hbc (st+1).toNat wa.toNat (by omega) (by omega) (g2 (by omega))
  refine⟨s,hs,fun u hT=>at_warm kd ba fa wa ev tt st (st+1) _ hw hw1 _ _ s u (fun u2 k=>h1 u2 (hT.kept k)) (fun u2 k=>h2 u2 (hT.kept k)) (fun u2 v v' k nv nv'=>K1 u2 v v' (hT.kept k) nv nv'),fun _=>⟨st+1,ofN ba 64,_,z,_,hw1,dnu_any ba hb1 hb2 hbc,dwh_any (st+1) (by omega) (by omega),K2,dwh_any wa (by omega) (by omega),K3⟩,fun h=>absurd hw h⟩
 ·have hd:IntKind.i64.wrap (st-wa)=st-wa:=by rw[wrap_i64];omega
  rcases hk with rfl|rfl|rfl|rfl|rfl|rfl
  ·obtain⟨s,hs,K1,K2⟩:=con_both ba fa wa ev tt (st-wa) hb1 hb2 hbc
   exact⟨s,hs,fun u hT=>at_beh0 0 ba fa wa ev tt st _ hw hd s u (fun u2 k=>K1 u2 (hT.kept k)),fun h=>absurd h hw,fun _=>⟨hd,K2⟩⟩
  ·have he:0<ev:=by simpa [cok] using hc
   obtain⟨s,hs,K1,K2⟩:=steps_both ba fa wa ev tt (st-wa) hb1 hb2 hbc hf1 hf2 hfc (by omega) (by omega) he (by omega)
   exact⟨s,hs,fun u hT=>at_beh1 1 ba fa wa ev tt st _ hw hd s u (fun u2 k=>K1 u2 (hT.kept k)),fun h=>absurd h hw,fun _=>⟨hd,K2⟩⟩
  ·have he:0<tt:=by simpa [cok] using hc
   obtain⟨s,hs,K1,K2⟩:=fade_both 2 ba fa wa ev tt (st-wa) 1 (by decide) (by decide) hb1 hb2 hbc (by omega) (by omega) he (by omega)
   refine⟨s,hs,fun u hT=>at_beh2 2 ba fa wa ev tt st _ hw hd s u (fun u2 k=>linear_walk 2 ba fa wa ev tt (st-wa) s u2 (fun u3 k3=>K1 u3 ((hT.kept k).kept k3))),fun h=>absurd h hw,fun _=>⟨hd,?_⟩⟩
   rcases K2 with ⟨k1,k2⟩|⟨k1,z,z1,z2,z3,z4,z5,z6,z7⟩
   ·exact .inr (.inl ⟨rfl,k1,k2⟩)
   ·rw[pw_one]at z4 z7
    exact .inr (.inr (.inl ⟨rfl,k1,_,_,_,_,z1,z2,z4,z5,z7⟩))
  ·have he:0<ev:=by simpa [cok] using hc
   obtain⟨s,hs,K1,K2⟩:=sqr_both ba fa wa ev tt (st-wa) hb1 hb2 hbc (by omega) (by omega) he (by omega)
   exact⟨s,hs,fun u hT=>at_beh3 3 ba fa wa ev tt st _ hw hd s u (fun u2 k=>K1 u2 (hT.kept k)),fun h=>absurd h hw,fun _=>⟨hd,K2⟩⟩
  ·have he:0<ev:=by simpa [cok] using hc
   obtain⟨s,hs,K1,K2⟩:=tri_both ba fa wa ev tt (st-wa) hb1 hb2 hbc hf1 hf2 hfc (by omega) (by omega) he (by omega)
   exact⟨s,hs,fun u hT=>at_beh4 4 ba fa wa ev tt st _ hw hd s u (fun u2 k=>K1 u2 (hT.kept k)),fun h=>absurd h hw,fun _=>⟨hd,K2⟩⟩
  ·have he:(0<ev∧ev≤8)∧0<tt:=by simpa [cok] using hc
   obtain⟨g,hg⟩:∃g:Nat,(g:Int)=ev:=⟨ev.toNat,by omega⟩
   obtain⟨s,hs,K1,K2⟩:=fade_both 5 ba fa wa ev tt (st-wa) g (by omega) (by omega) hb1 hb2 hbc (by omega) (by omega) he.2 (by omega)
   rw[hg]at K1 K2
   refine⟨s,hs,fun u hT=>at_beh5 5 ba fa wa ev tt st _ hw hd s u (fun u2 k=>power_walk 5 ba fa wa ev tt (st-wa) s u2 (fun u3 k3=>K1 u3 ((hT.kept k).kept k3))),fun h=>absurd h hw,fun _=>⟨hd,?_⟩⟩
   rcases K2 with ⟨k1,k2⟩|⟨k1,z,z1,z2,z3,z4,z5,z6,z7⟩
   ·exact .inr (.inr (.inr (.inr (.inr (.inl ⟨rfl,k1,k2⟩)))))
   ·exact .inr (.inr (.inr (.inr (.inr (.inr (.inl ⟨rfl,k1,_,_,_,_,_,_,z1,z2,z3,z4,z5,z6,z7⟩))))))
theorem counts_both (kd ba fa wa ev tt:Int):∀u:World,decide (0≤kd∧kd≤5)=true→Calls Tryz.prog 21 #[.agg #[.int .i64 kd,.int .i64 ba,.int .i64 fa,.int .i64 wa,.int .i64 ev,.int .i64 tt]] u fun e w'=>e=.returned (.bool ((cnt wa&&cnt ev&&cnt tt)&&cok kd ev tt))∧Kept u w':=fun u hk=>by
 by_cases h:(cnt wa&&cnt ev&&cnt tt)=true
 ·rw[h,Bool.true_and]
  simp only[Bool.and_eq_true]at h
  refine counts_yes kd ba fa wa ev tt (by have:=of_decide_eq_true hk;omega) u (fun u2=>?_) (fun u2=>?_) (fun u2=>?_)
  ·have:=isCount_any wa u2;rwa [h.1.1]at this
  ·have:=isCount_any ev u2;rwa [h.1.2]at this
  ·have:=isCount_any tt u2;rwa [h.2]at this
 ·have h2:(cnt wa&&cnt ev&&cnt tt)=false:=by simpa using h
  rw[h2,Bool.false_and]
  exact counts_no kd ba fa wa ev tt _ _ _ h2 u (fun u2=>isCount_any wa u2) (fun u2=>isCount_any ev u2) (fun u2=>isCount_any tt u2)
theorem At_both (kd ba fa wa ev tt:Int)(hb1:-9223372036854775808≤ba)(hb2:ba≤9223372036854775807)(hf1:-9223372036854775808≤fa)(hf2:fa≤9223372036854775807)(st:Int):∃a q:Int,(∀u,Tab u→Calls Tryz.prog 6 #[.agg #[.int .i64 kd,.int .i64 ba,.int .i64 fa,.int .i64 wa,.int .i64 ev,.int .i64 tt],.int .i64 st] u fun e w'=>e=.returned (.tuple #[.int .i64 a,.int .i64 q])∧Kept u w')∧(∀u:World,Calls Tryz.prog 7 #[.agg #[.int .i64 kd,.int .i64 ba,.int .i64 fa,.int .i64 wa,.int .i64 ev,.int .i64 tt],.int .i64 st] u fun e w'=>e=.returned (.tuple #[.int .i64 a,.int .i64 q])∧Kept u w'):=by
 have KH:∀u:World,_:=fun u=>checked_walk kd ba fa wa ev tt (kFn kd) (decide (0≤kd∧kd≤5)) (gd ba) (gd fa) ((cnt wa&&cnt ev&&cnt tt)&&cok kd ev tt) u (fun u2=>kindOf_any kd u2) (fun u2=>isSize_any ba hb1 hb2 u2) (fun u2=>isSize_any fa hf1 hf2 u2) (counts_both kd ba fa wa ev tt)
 have KC:∀u:World,_:=fun u=>rcheck_any kd ba fa wa ev tt hb1 hb2 hf1 hf2 u
 have hck:ckb kd ba fa wa ev tt=(decide (0≤kd∧kd≤5)&&gd ba&&gd fa&&((cnt wa&&cnt ev&&cnt tt)&&cok kd ev tt)):=by unfold ckb;rw[Bool.and_assoc]
 by_cases h:(decide (0≤kd∧kd≤5)&&gd ba&&gd fa&&((cnt wa&&cnt ev&&cnt tt)&&cok kd ev tt))=true
 ·rw[if_pos h]at KH
  rw[h]at hck
  simp only[Bool.and_eq_true]at h
  obtain⟨⟨⟨h0,h1⟩,h2⟩,⟨⟨e1,e2⟩,e3⟩,e4⟩:=h
  have hk:=of_decide_eq_true h0
  by_cases hst:cnt st=true
  ·obtain⟨s,⟨q1,q2,q3⟩,hs,hW,hB⟩:=at_both kd ba fa wa ev tt hb1 hb2 (gd_cls h1) hf1 hf2 (gd_cls h2) st (by omega) e1 e2 e3 hst e4
   have P1:∀u,Tab u→_:=fun u hT=>At_yes kd ba fa wa ev tt st (kFn kd) (cnt st) s u (fun u2 _=>KH u2) (fun u2=>isCount_any st u2) (fun u2 k hh=>hs u2 (hT.kept k))
   have P2:∀u:World,_:=fun u=>rat_walk kd ba fa wa ev tt st (ckb kd ba fa wa ev tt) (decide (cls s 64<3)) s u KC (fun _ _ hw=>hW hw) (fun _ _ hw=>⟨st-wa,(hB hw).1,fun u2=>behind_walk kd ba fa wa ev tt (st-wa) s (ofN ba 64) (ofN fa 64) u2 (dnu_any ba hb1 hb2 (gd_cls h1)) (dnu_any fa hf1 hf2 (gd_cls h2)) (hB hw).2⟩) (fun u2=>rfinite_any s 64 q1 q2 u2)
   rw[hst,if_pos rfl]at P1
   rw[hck,hst,if_pos rfl,if_pos rfl]at P2
   by_cases h3:cls s 64=3
   ·rw[if_pos h3]at P1
    rw[if_neg (by simpa using (show 3≤cls s 64 by omega))]at P2
    exact⟨_,_,P1,P2⟩
   ·rw[if_neg h3]at P1
    rw[if_pos (decide_eq_true (by omega))]at P2
    exact⟨_,_,P1,P2⟩
  ·have hst2:cnt st=false:=by simpa using hst
   have P1:∀u:World,_:=fun u=>At_yes kd ba fa wa ev tt st (kFn kd) (cnt st) 0 u (fun u2 _=>KH u2) (fun u2=>isCount_any st u2) (fun u2 k hh=>absurd hh hst)
   have P2:∀u:World,_:=fun u=>rat_walk kd ba fa wa ev tt st (ckb kd ba fa wa ev tt) (decide (cls 0 64<3)) 0 u KC (fun _ hh _=>absurd hh hst) (fun _ hh _=>absurd hh hst) (fun u2=>rfinite_any 0 64 (by decide) (by decide) u2)
   rw[hst2,if_neg (by decide)]at P1
   rw[hck,hst2,if_pos rfl,if_neg (by decide)]at P2
   exact⟨_,_,fun u _=>P1 u,P2⟩
 ·rw[if_neg h]at KH
  have h2:ckb kd ba fa wa ev tt=false:=by rw[hck];simpa using h
  have P2:∀u:World,_:=fun u=>rat_walk kd ba fa wa ev tt st (ckb kd ba fa wa ev tt) (decide (cls 0 64<3)) 0 u KC (fun hh _ _=>absurd (h2.symm.trans hh) (by decide)) (fun hh _ _=>absurd (h2.symm.trans hh) (by decide)) (fun u2=>rfinite_any 0 64 (by decide) (by decide) u2)
  rw[h2,if_neg (by decide)]at P2
  exact⟨_,_,fun u hT=>At_no kd ba fa wa ev tt st u KH,P2⟩
theorem rateAts_true (W:World)(hT:Tab W)(kd ba fa wa ev tt:Int)(st:Int)(h1:(Lit.int .i64 ba).wf=true)(h2:(Lit.int .i64 fa).wf=true):Calls Tryz.prog 4 #[.agg #[.int .i64 kd,.int .i64 ba,.int .i64 fa,.int .i64 wa,.int .i64 ev,.int .i64 tt],.int .i64 st] W fun e w'=>e=.returned (.bool true)∧Kept W w':=by
 have w1:=wf_rng _ h1
 have w2:=wf_rng _ h2
 refine rats_walk kd ba fa wa ev tt st W (fun u k=>alive18 u (hT.kept k)) (fun i=>?_)
 obtain⟨a,q,P1,P2⟩:=At_both kd ba fa wa ev tt w1.1 w1.2 w2.1 w2.2 i
 exact⟨a,q,fun u k=>P1 u (hT.kept k),fun u _=>P2 u⟩
end Go.Proofs.YtnniljhdcplkgaaGreatDoor
