/-  -/
import Derived.Test.YtnniljhdcplkgaaGreatDoorWs39
import Derived.Test.YtnniljhdcplkgaaGreatDoorWs42
namespace Go.Proofs.YtnniljhdcplkgaaGreatDoor
open Go.ChangeShapes Go.WideShapes Go.ChangeAt Go.RowKit
set_option maxHeartbeats 16000000
set_option maxRecDepth 100000
set_option linter.unusedVariables false
set_option linter.unusedSimpArgs false
theorem via_sp {G:Prop}(Fact F:Nat→Bool→Option Addr→Nat→Nat→Int→Value→World→Prop)(h1:Hid (∀(B5:Nat) (n1:Bool) (a1:Option Addr) (l1:Nat) (c1:Nat) (e1:Int) (j2:Value) (Y:World),Fact B5 n1 a1 l1 c1 e1 j2 Y→F B5 n1 a1 l1 c1 e1 j2 Y)→G)(h2:∀(B5:Nat) (n1:Bool) (a1:Option Addr) (l1:Nat) (c1:Nat) (e1:Int) (j2:Value) (Y:World),Fact B5 n1 a1 l1 c1 e1 j2 Y→F B5 n1 a1 l1 c1 e1 j2 Y):G:=h1 (hidr h2)
theorem steps_walk (kd ba fa wa ev tt:Int)(k q0 g:Int)(hev:¬ev=0)(hev':(ev==0)=false)(hq0:IntKind.i64.wrap (k.tdiv ev)=q0)(hg:min q0 900=g)(x1 x2 y z:Nm)(s:Int)(w:World)
  (KO1:Hid (∀u,Kept w u→Calls Tryz.prog 42 #[.int .i64 fa,.int .i64 64] u fun e w'=>∃v,e=.returned v∧New u w' v x1∧Kept u w'))
  (KO2:Hid (∀u,Kept w u→Calls Tryz.prog 42 #[.int .i64 ba,.int .i64 64] u fun e w'=>∃v,e=.returned v∧New u w' v x2∧Kept u w'))
  (KP:Hid (∀u v,Kept w u→NumAt u v x1→Calls Tryz.prog 91 #[v,.int .i64 g] u fun e w'=>∃v,e=.returned v∧New u w' v y∧Kept u w'))
  (KM:Hid (∀u v v',Kept w u→NumAt u v x2→NumAt u v' y→Calls Tryz.prog 41 #[v,v'] u fun e w'=>∃v,e=.returned v∧New u w' v z∧Kept u w'))
  (KR:Hid (∀u v,Kept w u→NumAt u v z→Calls Tryz.prog 90 #[v,.int .i64 64] u fun e w'=>e=.returned (.int .i64 s)∧Kept u w')):
  Calls Tryz.prog 62 #[.agg #[.int .i64 kd,.int .i64 ba,.int .i64 fa,.int .i64 wa,.int .i64 ev,.int .i64 tt],.int .i64 k] w fun e w'=>e=.returned (.int .i64 s)∧Kept w w':=by
 obtain⟨X,hX⟩:∃X,X=w.alloc (.cells #[.int .i64 kd,.int .i64 ba,.int .i64 fa,.int .i64 wa,.int .i64 ev,.int .i64 tt] 23):=⟨_,rfl⟩
 have hK:Kept w X:=by rw[hX];exact(Kept.refl w).alloc _ _
 have HS0:Hid (∀u,Kept X u→u.cell? ⟨w.heap.size,0,none⟩=some (.int .i64 kd)∧u.cell? ⟨w.heap.size,1,none⟩=some (.int .i64 ba)∧u.cell? ⟨w.heap.size,2,none⟩=some (.int .i64 fa)∧u.cell? ⟨w.heap.size,3,none⟩=some (.int .i64 wa)∧u.cell? ⟨w.heap.size,4,none⟩=some (.int .i64 ev)∧u.cell? ⟨w.heap.size,5,none⟩=some (.int .i64 tt)):=fun u k=>sch_cells w kd ba fa wa ev tt _ X hX u k
 obtain⟨B0,hB0⟩:∃B,B=w.heap.size:=⟨_,rfl⟩
 rw[←hB0]at HS0
 go_enter Tryz.func62,Tryz.ntmps62
 go_upto_region 1 with fail
 rw[←hX,←hB0]
 have hBX:B0<X.heap.size:=by rw[hB0,hX];simp
 clear hX hB0
 obtain⟨c0,c1,c2,c3,c4,c5⟩:=HS0.out _ (Kept.refl X)
 clear c0 c1 c2 c3 c4 c5
 refine wp_region_lateT [10] (fun _=>True) (fun u=>u.cell? ⟨B0,0,none⟩=some (.int .i64 kd)∧u.cell? ⟨B0,1,none⟩=some (.int .i64 ba)∧u.cell? ⟨B0,2,none⟩=some (.int .i64 fa)∧u.cell? ⟨B0,3,none⟩=some (.int .i64 wa)∧u.cell? ⟨B0,4,none⟩=some (.int .i64 ev)∧u.cell? ⟨B0,5,none⟩=some (.int .i64 tt)) (by kernel_rfl) trivial (HS0.out _ (Kept.refl X).drew) (fun _ hHeld=>?_)
 refine tkU (i:=0) (v:=?_) rfl (fun _=>trivial) hHeld ?_
 (try simp only[Act.put,zA,zB,zC,zD,zE,zF])
 refine tkU (i:=1) (v:=?_) rfl (fun _=>trivial) hHeld ?_
 (try simp only[Act.put,zA,zB,zC,zD,zE,zF])
 refine tkU (i:=3) (v:=?_) rfl (fun _=>trivial) hHeld ?_
 (try simp only[Act.put,zA,zB,zC,zD,zE,zF])
 refine tkU (i:=4) (v:=?_) rfl (fun _=>trivial) hHeld ?_
 (try simp only[Act.put,zA,zB,zC,zD,zE,zF])
 refine tkU (i:=5) (v:=?_) rfl (fun _=>trivial) hHeld ?_
 (try simp only[Act.put,zA,zB,zC,zD,zE,zF])
 refine tkU (i:=6) (v:=?_) rfl (fun _=>trivial) hHeld ?_
 (try simp only[Act.put,zA,zB,zC,zD,zE,zF])
 refine tkU (i:=7) (v:=?_) rfl (fun _=>trivial) hHeld ?_
 (try simp only[Act.put,zA,zB,zC,zD,zE,zF])
 obtain⟨Y0,hY0⟩:∃Y0,Y0=X.drew:=⟨_,rfl⟩
 have k0:Kept X Y0:=by rw[hY0];exact(Kept.refl X).drew
 rw[←hY0]at hHeld ⊢
 clear hY0
 refine via_sp (fun B5 n1 a1 l1 c1 e1 j2 Y=>X.heap.size≤B5∧N3 Y B5 (.bool n1) (.slice a1 l1 c1) (.int .i64 e1)∧New X Y (.agg #[.bool n1,.slice a1 l1 c1,.int .i64 e1]) y∧Kept X Y) ?Fsp (fun HNs=>?treesp) ?contsp
 case treesp=>
  refine wpAnyT_two (i:=2) (j:=9) (by kernel_rfl) rfl rfl ?_ ?_
  ·skip
   intro K hK9
   go_simp
   go_wp2_with fail
   refine(KO1.out _ (hK.trans k0)).mono ?_
   rintro e usp2 ⟨v2,rfl,Nsp2,ksp2⟩
   have Msp2:=new_mono Nsp2 k0.below.size
   have Ksp2:=k0.trans ksp2
   clear Nsp2
   refine hK9.out _ _ trivial (HS0.out _ Ksp2) (fun _ hTsp2=>?_)
   clear hK9 K
   (try simp only[Act.put,zA,zB,zC,zD,zE,zF])
   refine wpAnyT_two (i:=8) (j:=9) (by kernel_rfl) rfl rfl ?_ ?_
   ·skip
    intro K hK9
    go_simp
    go_wp2_with fail
    refine(KP.out _ _ (hK.trans Ksp2) Msp2.numAt).mono ?_
    rintro e usp2_8 ⟨v1,rfl,Nsp2_8,ksp2_8⟩
    obtain⟨n1,a1,l1,c1,e1,rfl⟩:=Nsp2_8.shape
    have Msp2_8:=new_mono Nsp2_8 Ksp2.below.size
    have Ksp2_8:=Ksp2.trans ksp2_8
    have Msp2_8_2:=Msp2.kept ksp2_8
    clear Nsp2_8
    refine hK9.out _ _ trivial (HS0.out _ Ksp2_8) (fun _ hTsp2_8=>?_)
    clear hK9 K
    (try simp only[Act.put,zA,zB,zC,zD,zE,zF])
    refine wpAnyT_one (i:=9) (by kernel_rfl) rfl ?_
    intro K hK9
    go_simp
    have gsp2_8_9:=N3.new usp2_8 (.bool false) (.slice none 0 0) (.int .i64 0) 43
    have ksp2_8_9:Kept usp2_8 (usp2_8.alloc (.cells #[.bool false,.slice none 0 0,.int .i64 0] 43)):=(Kept.refl usp2_8).alloc _ _
    obtain⟨usp2_8_9,husp2_8_9⟩:∃u,u=usp2_8.alloc (.cells #[.bool false,.slice none 0 0,.int .i64 0] 43):=⟨_,rfl⟩
    obtain⟨B5,hbsp2_8_9⟩:∃b,b=usp2_8.heap.size:=⟨_,rfl⟩
    rw[←husp2_8_9,←hbsp2_8_9]at gsp2_8_9
    rw[←husp2_8_9]at ksp2_8_9 ⊢
    rw[←hbsp2_8_9]
    have Ksp2_8_9:=Ksp2_8.trans ksp2_8_9
    have lB5:X.heap.size≤B5:=by rw[hbsp2_8_9];exact Ksp2_8.below.size
    have Msp2_8_9_2:=Msp2_8_2.kept ksp2_8_9
    have Msp2_8_9_1:=Msp2_8.kept ksp2_8_9
    clear husp2_8_9 hbsp2_8_9
    refine hK9.out _ _ trivial (HS0.out _ Ksp2_8_9) (fun _ hTsp2_8_9=>?_)
    clear hK9 K
    (try simp only[Act.put,zA,zB,zC,zD,zE,zF])
    have d0:=gsp2_8_9.c0
    have d1:=gsp2_8_9.c1
    have d2:=gsp2_8_9.c2
    have fz:=gsp2_8_9.fz
    have KL0:=kept_st3 Ksp2_8_9 lB5 (.bool n1) (.slice a1 l1 c1) (.int .i64 e1)
    refine wpAnyT_late (i:=10) (by kernel_rfl) rfl (by kernel_rfl) (fun K hK9=>?_)
    go_simp
    refine hK9.out _ _ (HS0.out _ KL0) (fun hL0=>?_)
    clear hK9 K
    (try simp only[Act.put,zA,zB,zC,zD,zE,zF])
    have Q0:=gsp2_8_9.set (.bool n1) (.slice a1 l1 c1) (.int .i64 e1)
    have S0_1:=new_st3n Msp2_8_9_1 gsp2_8_9 (.bool n1) (.slice a1 l1 c1) (.int .i64 e1)
    obtain⟨Y0,hY0⟩:∃Y,Y=st3w usp2_8_9 B5 (.bool n1) (.slice a1 l1 c1) (.int .i64 e1):=⟨_,rfl⟩
    rw[←hY0]at Q0 KL0 S0_1
    rw[show((usp2_8_9.setCell ⟨B5,0,none⟩ (.bool n1)).setCell ⟨B5,1,none⟩ (.slice a1 l1 c1)).setCell ⟨B5,2,none⟩ (.int .i64 e1)=Y0 from hY0.symm]
    clear hY0 d0 d1 d2 fz hL0
    refine wpAnyT_done (by kernel_rfl) ?_ _
    (try simp only[Act.put,zA,zB,zC,zD,zE,zF])
    exact HNs.out B5 n1 a1 l1 c1 e1 v2 Y0 ⟨lB5,Q0,S0_1,KL0⟩
   ·skip
    intro K hK9
    go_simp
    have gsp2_9:=N3.new usp2 (.bool false) (.slice none 0 0) (.int .i64 0) 43
    have ksp2_9:Kept usp2 (usp2.alloc (.cells #[.bool false,.slice none 0 0,.int .i64 0] 43)):=(Kept.refl usp2).alloc _ _
    obtain⟨usp2_9,husp2_9⟩:∃u,u=usp2.alloc (.cells #[.bool false,.slice none 0 0,.int .i64 0] 43):=⟨_,rfl⟩
    obtain⟨B5,hbsp2_9⟩:∃b,b=usp2.heap.size:=⟨_,rfl⟩
    rw[←husp2_9,←hbsp2_9]at gsp2_9
    rw[←husp2_9]at ksp2_9 ⊢
    rw[←hbsp2_9]
    have Ksp2_9:=Ksp2.trans ksp2_9
    have lB5:X.heap.size≤B5:=by rw[hbsp2_9];exact Ksp2.below.size
    have Msp2_9_2:=Msp2.kept ksp2_9
    clear husp2_9 hbsp2_9
    refine hK9.out _ _ trivial (HS0.out _ Ksp2_9) (fun _ hTsp2_9=>?_)
    clear hK9 K
    (try simp only[Act.put,zA,zB,zC,zD,zE,zF])
    refine wpAnyT_one (i:=8) (by kernel_rfl) rfl ?_
    intro K hK9
    go_simp
    go_wp2_with fail
    refine(KP.out _ _ (hK.trans Ksp2_9) Msp2_9_2.numAt).mono ?_
    rintro e usp2_9_8 ⟨v1,rfl,Nsp2_9_8,ksp2_9_8⟩
    obtain⟨n1,a1,l1,c1,e1,rfl⟩:=Nsp2_9_8.shape
    have Msp2_9_8:=new_mono Nsp2_9_8 Ksp2_9.below.size
    have Ksp2_9_8:=Ksp2_9.trans ksp2_9_8
    have Msp2_9_8_2:=Msp2_9_2.kept ksp2_9_8
    have Psp2_9_8_B5:=gsp2_9.kept ksp2_9_8
    clear Nsp2_9_8
    refine hK9.out _ _ trivial (HS0.out _ Ksp2_9_8) (fun _ hTsp2_9_8=>?_)
    clear hK9 K
    (try simp only[Act.put,zA,zB,zC,zD,zE,zF])
    have d0:=Psp2_9_8_B5.c0
    have d1:=Psp2_9_8_B5.c1
    have d2:=Psp2_9_8_B5.c2
    have fz:=Psp2_9_8_B5.fz
    have KL0:=kept_st3 Ksp2_9_8 lB5 (.bool n1) (.slice a1 l1 c1) (.int .i64 e1)
    refine wpAnyT_late (i:=10) (by kernel_rfl) rfl (by kernel_rfl) (fun K hK9=>?_)
    go_simp
    refine hK9.out _ _ (HS0.out _ KL0) (fun hL0=>?_)
    clear hK9 K
    (try simp only[Act.put,zA,zB,zC,zD,zE,zF])
    have Q0:=Psp2_9_8_B5.set (.bool n1) (.slice a1 l1 c1) (.int .i64 e1)
    have S0_1:=new_st3n Msp2_9_8 Psp2_9_8_B5 (.bool n1) (.slice a1 l1 c1) (.int .i64 e1)
    obtain⟨Y0,hY0⟩:∃Y,Y=st3w usp2_9_8 B5 (.bool n1) (.slice a1 l1 c1) (.int .i64 e1):=⟨_,rfl⟩
    rw[←hY0]at Q0 KL0 S0_1
    rw[show((usp2_9_8.setCell ⟨B5,0,none⟩ (.bool n1)).setCell ⟨B5,1,none⟩ (.slice a1 l1 c1)).setCell ⟨B5,2,none⟩ (.int .i64 e1)=Y0 from hY0.symm]
    clear hY0 d0 d1 d2 fz hL0
    refine wpAnyT_done (by kernel_rfl) ?_ _
    (try simp only[Act.put,zA,zB,zC,zD,zE,zF])
    exact HNs.out B5 n1 a1 l1 c1 e1 v2 Y0 ⟨lB5,Q0,S0_1,KL0⟩
  ·skip
   intro K hK9
   go_simp
   have gsp9:=N3.new Y0 (.bool false) (.slice none 0 0) (.int .i64 0) 43
   have ksp9:Kept Y0 (Y0.alloc (.cells #[.bool false,.slice none 0 0,.int .i64 0] 43)):=(Kept.refl Y0).alloc _ _
   obtain⟨usp9,husp9⟩:∃u,u=Y0.alloc (.cells #[.bool false,.slice none 0 0,.int .i64 0] 43):=⟨_,rfl⟩
   obtain⟨B5,hbsp9⟩:∃b,b=Y0.heap.size:=⟨_,rfl⟩
   rw[←husp9,←hbsp9]at gsp9
   rw[←husp9]at ksp9 ⊢
   rw[←hbsp9]
   have Ksp9:=k0.trans ksp9
   have lB5:X.heap.size≤B5:=by rw[hbsp9];exact k0.below.size
   clear husp9 hbsp9
   refine hK9.out _ _ trivial (HS0.out _ Ksp9) (fun _ hTsp9=>?_)
   clear hK9 K
   (try simp only[Act.put,zA,zB,zC,zD,zE,zF])
   refine wpAnyT_one (i:=2) (by kernel_rfl) rfl ?_
   intro K hK9
   go_simp
   go_wp2_with fail
   refine(KO1.out _ (hK.trans Ksp9)).mono ?_
   rintro e usp9_2 ⟨v2,rfl,Nsp9_2,ksp9_2⟩
   have Msp9_2:=new_mono Nsp9_2 Ksp9.below.size
   have Ksp9_2:=Ksp9.trans ksp9_2
   have Psp9_2_B5:=gsp9.kept ksp9_2
   clear Nsp9_2
   refine hK9.out _ _ trivial (HS0.out _ Ksp9_2) (fun _ hTsp9_2=>?_)
   clear hK9 K
   (try simp only[Act.put,zA,zB,zC,zD,zE,zF])
   refine wpAnyT_one (i:=8) (by kernel_rfl) rfl ?_
   intro K hK9
   go_simp
   go_wp2_with fail
   refine(KP.out _ _ (hK.trans Ksp9_2) Msp9_2.numAt).mono ?_
   rintro e usp9_2_8 ⟨v1,rfl,Nsp9_2_8,ksp9_2_8⟩
   obtain⟨n1,a1,l1,c1,e1,rfl⟩:=Nsp9_2_8.shape
   have Msp9_2_8:=new_mono Nsp9_2_8 Ksp9_2.below.size
   have Ksp9_2_8:=Ksp9_2.trans ksp9_2_8
   have Msp9_2_8_2:=Msp9_2.kept ksp9_2_8
   have Psp9_2_8_B5:=Psp9_2_B5.kept ksp9_2_8
   clear Nsp9_2_8
   refine hK9.out _ _ trivial (HS0.out _ Ksp9_2_8) (fun _ hTsp9_2_8=>?_)
   clear hK9 K
   (try simp only[Act.put,zA,zB,zC,zD,zE,zF])
   have d0:=Psp9_2_8_B5.c0
   have d1:=Psp9_2_8_B5.c1
   have d2:=Psp9_2_8_B5.c2
   have fz:=Psp9_2_8_B5.fz
   have KL0:=kept_st3 Ksp9_2_8 lB5 (.bool n1) (.slice a1 l1 c1) (.int .i64 e1)
   refine wpAnyT_late (i:=10) (by kernel_rfl) rfl (by kernel_rfl) (fun K hK9=>?_)
   go_simp
   refine hK9.out _ _ (HS0.out _ KL0) (fun hL0=>?_)
   clear hK9 K
   (try simp only[Act.put,zA,zB,zC,zD,zE,zF])
   have Q0:=Psp9_2_8_B5.set (.bool n1) (.slice a1 l1 c1) (.int .i64 e1)
   have S0_1:=new_st3n Msp9_2_8 Psp9_2_8_B5 (.bool n1) (.slice a1 l1 c1) (.int .i64 e1)
   obtain⟨Y0,hY0⟩:∃Y,Y=st3w usp9_2_8 B5 (.bool n1) (.slice a1 l1 c1) (.int .i64 e1):=⟨_,rfl⟩
   rw[←hY0]at Q0 KL0 S0_1
   rw[show((usp9_2_8.setCell ⟨B5,0,none⟩ (.bool n1)).setCell ⟨B5,1,none⟩ (.slice a1 l1 c1)).setCell ⟨B5,2,none⟩ (.int .i64 e1)=Y0 from hY0.symm]
   clear hY0 d0 d1 d2 fz hL0
   refine wpAnyT_done (by kernel_rfl) ?_ _
   (try simp only[Act.put,zA,zB,zC,zD,zE,zF])
   exact HNs.out B5 n1 a1 l1 c1 e1 v2 Y0 ⟨lB5,Q0,S0_1,KL0⟩
 case contsp=>
  intro B5 n1 a1 l1 c1 e1 j2 Y hF
  obtain⟨hl5,p5,N1,kY⟩:=hF
  have HS:Hid (∀u,Kept Y u→Kept Y u∧(u.cell? ⟨B0,0,none⟩=some (.int .i64 kd)∧u.cell? ⟨B0,1,none⟩=some (.int .i64 ba)∧u.cell? ⟨B0,2,none⟩=some (.int .i64 fa)∧u.cell? ⟨B0,3,none⟩=some (.int .i64 wa)∧u.cell? ⟨B0,4,none⟩=some (.int .i64 ev)∧u.cell? ⟨B0,5,none⟩=some (.int .i64 tt))∧(u.cell? ⟨B5,0,none⟩=some (.bool n1)∧u.cell? ⟨B5,1,none⟩=some (.slice a1 l1 c1)∧u.cell? ⟨B5,2,none⟩=some (.int .i64 e1))):=fun u k=>⟨k,HS0.out u (kY.trans k),⟨(p5.kept k).c0,(p5.kept k).c1,(p5.kept k).c2⟩⟩
  have A1:=hidr N1.numAt
  have HQ:=hidr (hK.trans kY)
  clear hl5 p5 N1 kY
  go_upto_region 2 with fail
  refine wp_region_held_drew (S:=fun u=>Kept Y u∧(u.cell? ⟨B0,0,none⟩=some (.int .i64 kd)∧u.cell? ⟨B0,1,none⟩=some (.int .i64 ba)∧u.cell? ⟨B0,2,none⟩=some (.int .i64 fa)∧u.cell? ⟨B0,3,none⟩=some (.int .i64 wa)∧u.cell? ⟨B0,4,none⟩=some (.int .i64 ev)∧u.cell? ⟨B0,5,none⟩=some (.int .i64 tt))∧(u.cell? ⟨B5,0,none⟩=some (.bool n1)∧u.cell? ⟨B5,1,none⟩=some (.slice a1 l1 c1)∧u.cell? ⟨B5,2,none⟩=some (.int .i64 e1))) (by kernel_rfl) (HS.out _ (Kept.refl Y).drew) (fun hHeld=>?_)
  refine tk (i:=0) (v:=?_) rfl ?_
  simp only[Act.put,zA,zB,zC,zD,zE,zF]
  refine tk (i:=1) (v:=?_) rfl ?_
  simp only[Act.put,zA,zB,zC,zD,zE,zF]
  refine tk (i:=3) (v:=?_) rfl ?_
  simp only[Act.put,zA,zB,zC,zD,zE,zF]
  refine wpAnyH_ready (rs:=[2]) (by kernel_rfl) (by simp) ?_
  refine AllReadyH.cons rfl (fun K hK9=>?_) AllReadyH.nil
  go_simp
  go_wp2_with fail
  refine(KO2.out _ (HQ.out.trans (Kept.refl Y).drew)).mono ?_
  rintro e u3 ⟨v3,rfl,N3,k3⟩
  have r3:=(Kept.refl Y).drew.trans k3
  have e3':=HS.out _ r3
  refine hK9.out _ _ e3' (fun hHeld3=>?_)
  clear hK9 K
  (try simp only[Act.put,zA,zB,zC,zD,zE,zF])
  refine wpAnyH_ready (rs:=[4]) (by kernel_rfl) (by simp) ?_
  refine AllReadyH.cons rfl (fun K hK9=>?_) AllReadyH.nil
  go_simp
  go_wp2_with fail
  refine(KM.out _ _ _ (HQ.out.trans r3) N3.numAt (A1.out.keptS r3)).mono ?_
  rintro e u4 ⟨v4,rfl,N4,k4⟩
  have r4:=r3.trans k4
  have e4':=HS.out _ r4
  refine hK9.out _ _ e4' (fun hHeld4=>?_)
  clear hK9 K
  (try simp only[Act.put,zA,zB,zC,zD,zE,zF])
  refine wpAnyH_ready (rs:=[5]) (by kernel_rfl) (by simp) ?_
  refine AllReadyH.cons rfl (fun K hK9=>?_) AllReadyH.nil
  go_simp
  go_wp2_with fail
  refine(KR.out _ _ (HQ.out.trans r4) N4.numAt).mono ?_
  rintro e u5 ⟨rfl,k5⟩
  have r5:=r4.trans k5
  have e5':=HS.out _ r5
  refine hK9.out _ _ e5' (fun hHeld5=>?_)
  clear hK9 K
  (try simp only[Act.put,zA,zB,zC,zD,zE,zF])
  refine tk (i:=6) (v:=?_) rfl ?_
  simp only[Act.put,zA,zB,zC,zD,zE,zF]
  refine wpAnyH_done (by kernel_rfl) ?_ _
  go_wp2_with fail
  go_ret
  exact⟨rfl,HQ.out.trans r5⟩
end Go.Proofs.YtnniljhdcplkgaaGreatDoor
