/-  -/
import Derived.Test.YtnniljhdcplkgaaGreatDoorWs39
import Derived.Test.YtnniljhdcplkgaaGreatDoorWs42
namespace Go.Proofs.YtnniljhdcplkgaaGreatDoor
open Go.ChangeShapes Go.WideShapes Go.ChangeAt Go.RowKit
set_option maxHeartbeats 16000000
set_option maxRecDepth 100000
set_option linter.unusedVariables false
set_option linter.unusedSimpArgs false
theorem via_fd {G:Prop}(Fact F:Nat→Nat→Bool→Option Addr→Nat→Nat→Int→Bool→Option Addr→Nat→Nat→Int→World→Prop)(h1:Hid (∀(B7:Nat) (B8:Nat) (n1:Bool) (a1:Option Addr) (l1:Nat) (c1:Nat) (e1:Int) (n2:Bool) (a2:Option Addr) (l2:Nat) (c2:Nat) (e2:Int) (Y:World),Fact B7 B8 n1 a1 l1 c1 e1 n2 a2 l2 c2 e2 Y→F B7 B8 n1 a1 l1 c1 e1 n2 a2 l2 c2 e2 Y)→G)(h2:∀(B7:Nat) (B8:Nat) (n1:Bool) (a1:Option Addr) (l1:Nat) (c1:Nat) (e1:Int) (n2:Bool) (a2:Option Addr) (l2:Nat) (c2:Nat) (e2:Int) (Y:World),Fact B7 B8 n1 a1 l1 c1 e1 n2 a2 l2 c2 e2 Y→F B7 B8 n1 a1 l1 c1 e1 n2 a2 l2 c2 e2 Y):G:=h1 (hidr h2)
theorem fading_walk (kd ba fa wa ev tt:Int)(k g d:Int)(hd:max 0 (IntKind.i64.wrap (tt-k))=d)(y1 y2 z1 z2:Nm)(s:Int)(w:World)
  (KI1:Hid (∀u,Kept w u→Calls Tryz.prog 23 #[.int .i64 d] u fun e w'=>∃v,e=.returned v∧New u w' v y1∧Kept u w'))
  (KI2:Hid (∀u,Kept w u→Calls Tryz.prog 23 #[.int .i64 tt] u fun e w'=>∃v,e=.returned v∧New u w' v y2∧Kept u w'))
  (KP1:Hid (∀u v,Kept w u→NumAt u v y1→Calls Tryz.prog 91 #[v,.int .i64 g] u fun e w'=>∃v,e=.returned v∧New u w' v z1∧Kept u w'))
  (KP2:Hid (∀u v,Kept w u→NumAt u v y2→Calls Tryz.prog 91 #[v,.int .i64 g] u fun e w'=>∃v,e=.returned v∧New u w' v z2∧Kept u w'))
  (KS:Hid (∀u v v',Kept w u→NumAt u v z1→NumAt u v' z2→Calls Tryz.prog 22 #[.int .i64 ba,v,v'] u fun e w'=>e=.returned (.int .i64 s)∧Kept u w')):
  Calls Tryz.prog 92 #[.agg #[.int .i64 kd,.int .i64 ba,.int .i64 fa,.int .i64 wa,.int .i64 ev,.int .i64 tt],.int .i64 k,.int .i64 g] w fun e w'=>e=.returned (.int .i64 s)∧Kept w w':=by
 obtain⟨X,hX⟩:∃X,X=w.alloc (.cells #[.int .i64 kd,.int .i64 ba,.int .i64 fa,.int .i64 wa,.int .i64 ev,.int .i64 tt] 23):=⟨_,rfl⟩
 have hK:Kept w X:=by rw[hX];exact(Kept.refl w).alloc _ _
 have HS0:Hid (∀u,Kept X u→u.cell? ⟨w.heap.size,0,none⟩=some (.int .i64 kd)∧u.cell? ⟨w.heap.size,1,none⟩=some (.int .i64 ba)∧u.cell? ⟨w.heap.size,2,none⟩=some (.int .i64 fa)∧u.cell? ⟨w.heap.size,3,none⟩=some (.int .i64 wa)∧u.cell? ⟨w.heap.size,4,none⟩=some (.int .i64 ev)∧u.cell? ⟨w.heap.size,5,none⟩=some (.int .i64 tt)):=fun u k=>sch_cells w kd ba fa wa ev tt _ X hX u k
 obtain⟨B0,hB0⟩:∃B,B=w.heap.size:=⟨_,rfl⟩
 rw[←hB0]at HS0
 go_enter Tryz.func92,Tryz.ntmps92
 go_upto_region 1 with fail
 rw[←hX,←hB0]
 have hBX:B0<X.heap.size:=by rw[hB0,hX];simp
 clear hX hB0
 obtain⟨c0,c1,c2,c3,c4,c5⟩:=HS0.out _ (Kept.refl X)
 clear c0 c1 c2 c3 c4 c5
 refine wp_region_lateT [11,12] (fun _=>True) (fun u=>u.cell? ⟨B0,0,none⟩=some (.int .i64 kd)∧u.cell? ⟨B0,1,none⟩=some (.int .i64 ba)∧u.cell? ⟨B0,2,none⟩=some (.int .i64 fa)∧u.cell? ⟨B0,3,none⟩=some (.int .i64 wa)∧u.cell? ⟨B0,4,none⟩=some (.int .i64 ev)∧u.cell? ⟨B0,5,none⟩=some (.int .i64 tt)) (by kernel_rfl) trivial (HS0.out _ (Kept.refl X).drew) (fun _ hHeld=>?_)
 refine tkU (i:=0) (v:=?_) rfl (fun _=>trivial) hHeld ?_
 (try simp only[Act.put,zA,zB,zC,zD,zE,zF])
 refine tkU (i:=1) (v:=?_) rfl (fun _=>trivial) hHeld ?_
 (try simp only[Act.put,zA,zB,zC,zD,zE,zF])
 refine tkU (i:=2) (v:=?_) rfl (fun _=>trivial) hHeld ?_
 (try simp only[Act.put,zA,zB,zC,zD,zE,zF])
 refine tkU (i:=3) (v:=?_) rfl (fun _=>trivial) hHeld ?_
 (try simp only[Act.put,zA,zB,zC,zD,zE,zF])
 refine tkU (i:=4) (v:=?_) rfl (fun _=>trivial) hHeld ?_
 (try simp only[Act.put,zA,zB,zC,zD,zE,zF])
 refine tkU (i:=6) (v:=?_) rfl (fun _=>trivial) hHeld ?_
 (try simp only[Act.put,zA,zB,zC,zD,zE,zF])
 refine tkU (i:=7) (v:=?_) rfl (fun _=>trivial) hHeld ?_
 (try simp only[Act.put,zA,zB,zC,zD,zE,zF])
 obtain⟨Y0,hY0⟩:∃Y0,Y0=X.drew:=⟨_,rfl⟩
 have k0:Kept X Y0:=by rw[hY0];exact(Kept.refl X).drew
 rw[←hY0]at hHeld ⊢
 clear hY0
 refine via_fd (fun B7 B8 n1 a1 l1 c1 e1 n2 a2 l2 c2 e2 Y=>X.heap.size≤B7∧N3 Y B7 (.bool n1) (.slice a1 l1 c1) (.int .i64 e1)∧New X Y (.agg #[.bool n1,.slice a1 l1 c1,.int .i64 e1]) y1∧X.heap.size≤B8∧N3 Y B8 (.bool n2) (.slice a2 l2 c2) (.int .i64 e2)∧New X Y (.agg #[.bool n2,.slice a2 l2 c2,.int .i64 e2]) y2∧B7≠B8∧Kept X Y) ?Ffd (fun HNf=>?treefd) ?contfd
 case treefd=>
  refine wpAnyT_three (i:=5) (j:=9) (m:=10) (by kernel_rfl) rfl rfl rfl ?_ ?_ ?_
  ·skip
   intro K hK9
   go_simp
   go_wp2_with fail
   refine(KI1.out _ (hK.trans k0)).mono ?_
   rintro e ufd5 ⟨v1,rfl,Nfd5,kfd5⟩
   obtain⟨n1,a1,l1,c1,e1,rfl⟩:=Nfd5.shape
   have Mfd5:=new_mono Nfd5 k0.below.size
   have Kfd5:=k0.trans kfd5
   clear Nfd5
   refine hK9.out _ _ trivial (HS0.out _ Kfd5) (fun _ hTfd5=>?_)
   clear hK9 K
   (try simp only[Act.put,zA,zB,zC,zD,zE,zF])
   refine wpAnyT_three (i:=8) (j:=9) (m:=10) (by kernel_rfl) rfl rfl rfl ?_ ?_ ?_
   ·skip
    intro K hK9
    go_simp
    go_wp2_with fail
    refine(KI2.out _ (hK.trans Kfd5)).mono ?_
    rintro e ufd5_8 ⟨v2,rfl,Nfd5_8,kfd5_8⟩
    obtain⟨n2,a2,l2,c2,e2,rfl⟩:=Nfd5_8.shape
    have Mfd5_8:=new_mono Nfd5_8 Kfd5.below.size
    have Kfd5_8:=Kfd5.trans kfd5_8
    have Mfd5_8_1:=Mfd5.kept kfd5_8
    clear Nfd5_8
    refine hK9.out _ _ trivial (HS0.out _ Kfd5_8) (fun _ hTfd5_8=>?_)
    clear hK9 K
    (try simp only[Act.put,zA,zB,zC,zD,zE,zF])
    refine wpAnyT_two (i:=9) (j:=10) (by kernel_rfl) rfl rfl ?_ ?_
    ·skip
     intro K hK9
     go_simp
     have gfd5_8_9:=N3.new ufd5_8 (.bool false) (.slice none 0 0) (.int .i64 0) 43
     have kfd5_8_9:Kept ufd5_8 (ufd5_8.alloc (.cells #[.bool false,.slice none 0 0,.int .i64 0] 43)):=(Kept.refl ufd5_8).alloc _ _
     obtain⟨ufd5_8_9,hufd5_8_9⟩:∃u,u=ufd5_8.alloc (.cells #[.bool false,.slice none 0 0,.int .i64 0] 43):=⟨_,rfl⟩
     obtain⟨B7,hbfd5_8_9⟩:∃b,b=ufd5_8.heap.size:=⟨_,rfl⟩
     rw[←hufd5_8_9,←hbfd5_8_9]at gfd5_8_9
     rw[←hufd5_8_9]at kfd5_8_9 ⊢
     rw[←hbfd5_8_9]
     have Kfd5_8_9:=Kfd5_8.trans kfd5_8_9
     have lB7:X.heap.size≤B7:=by rw[hbfd5_8_9];exact Kfd5_8.below.size
     have Mfd5_8_9_1:=Mfd5_8_1.kept kfd5_8_9
     have Mfd5_8_9_2:=Mfd5_8.kept kfd5_8_9
     clear hufd5_8_9 hbfd5_8_9
     refine hK9.out _ _ trivial (HS0.out _ Kfd5_8_9) (fun _ hTfd5_8_9=>?_)
     clear hK9 K
     (try simp only[Act.put,zA,zB,zC,zD,zE,zF])
     refine wpAnyT_one (i:=10) (by kernel_rfl) rfl ?_
     intro K hK9
     go_simp
     have gfd5_8_9_10:=N3.new ufd5_8_9 (.bool false) (.slice none 0 0) (.int .i64 0) 43
     have kfd5_8_9_10:Kept ufd5_8_9 (ufd5_8_9.alloc (.cells #[.bool false,.slice none 0 0,.int .i64 0] 43)):=(Kept.refl ufd5_8_9).alloc _ _
     obtain⟨ufd5_8_9_10,hufd5_8_9_10⟩:∃u,u=ufd5_8_9.alloc (.cells #[.bool false,.slice none 0 0,.int .i64 0] 43):=⟨_,rfl⟩
     obtain⟨B8,hbfd5_8_9_10⟩:∃b,b=ufd5_8_9.heap.size:=⟨_,rfl⟩
     rw[←hufd5_8_9_10,←hbfd5_8_9_10]at gfd5_8_9_10
     rw[←hufd5_8_9_10]at kfd5_8_9_10 ⊢
     rw[←hbfd5_8_9_10]
     have Kfd5_8_9_10:=Kfd5_8_9.trans kfd5_8_9_10
     have lB8:X.heap.size≤B8:=by rw[hbfd5_8_9_10];exact Kfd5_8_9.below.size
     have Mfd5_8_9_10_1:=Mfd5_8_9_1.kept kfd5_8_9_10
     have Mfd5_8_9_10_2:=Mfd5_8_9_2.kept kfd5_8_9_10
     have Pfd5_8_9_10_B7:=gfd5_8_9.kept kfd5_8_9_10
     have hne:¬B7=B8:=by have:=gfd5_8_9.lt;omega
     have hne':¬B8=B7:=fun e=>hne e.symm
     clear hufd5_8_9_10 hbfd5_8_9_10
     refine hK9.out _ _ trivial (HS0.out _ Kfd5_8_9_10) (fun _ hTfd5_8_9_10=>?_)
     clear hK9 K
     (try simp only[Act.put,zA,zB,zC,zD,zE,zF])
     have d0:=Pfd5_8_9_10_B7.c0
     have d1:=Pfd5_8_9_10_B7.c1
     have d2:=Pfd5_8_9_10_B7.c2
     have fz:=Pfd5_8_9_10_B7.fz
     have KL0:=kept_st3 Kfd5_8_9_10 lB7 (.bool n1) (.slice a1 l1 c1) (.int .i64 e1)
     refine wpAnyT_late (i:=11) (by kernel_rfl) rfl (by kernel_rfl) (fun K hK9=>?_)
     go_simp
     refine hK9.out _ _ (HS0.out _ KL0) (fun hL0=>?_)
     clear hK9 K
     (try simp only[Act.put,zA,zB,zC,zD,zE,zF])
     have Q0:=Pfd5_8_9_10_B7.set (.bool n1) (.slice a1 l1 c1) (.int .i64 e1)
     have S0_1:=new_st3n Mfd5_8_9_10_1 Pfd5_8_9_10_B7 (.bool n1) (.slice a1 l1 c1) (.int .i64 e1)
     have S0_2:=new_st3n Mfd5_8_9_10_2 Pfd5_8_9_10_B7 (.bool n1) (.slice a1 l1 c1) (.int .i64 e1)
     have Z0_B8:=gfd5_8_9_10.far hne' (.bool n1) (.slice a1 l1 c1) (.int .i64 e1)
     obtain⟨Y0,hY0⟩:∃Y,Y=st3w ufd5_8_9_10 B7 (.bool n1) (.slice a1 l1 c1) (.int .i64 e1):=⟨_,rfl⟩
     rw[←hY0]at Q0 KL0 S0_1 S0_2 Z0_B8
     rw[show((ufd5_8_9_10.setCell ⟨B7,0,none⟩ (.bool n1)).setCell ⟨B7,1,none⟩ (.slice a1 l1 c1)).setCell ⟨B7,2,none⟩ (.int .i64 e1)=Y0 from hY0.symm]
     clear hY0 d0 d1 d2 fz hL0
     have d0:=Z0_B8.c0
     have d1:=Z0_B8.c1
     have d2:=Z0_B8.c2
     have fz:=Z0_B8.fz
     have KL1:=kept_st3 KL0 lB8 (.bool n2) (.slice a2 l2 c2) (.int .i64 e2)
     refine wpAnyT_late (i:=12) (by kernel_rfl) rfl (by kernel_rfl) (fun K hK9=>?_)
     go_simp
     refine hK9.out _ _ (HS0.out _ KL1) (fun hL1=>?_)
     clear hK9 K
     (try simp only[Act.put,zA,zB,zC,zD,zE,zF])
     have Q1:=Z0_B8.set (.bool n2) (.slice a2 l2 c2) (.int .i64 e2)
     have S1_1:=new_st3n S0_1 Z0_B8 (.bool n2) (.slice a2 l2 c2) (.int .i64 e2)
     have S1_2:=new_st3n S0_2 Z0_B8 (.bool n2) (.slice a2 l2 c2) (.int .i64 e2)
     have Z1_B7:=Q0.far hne (.bool n2) (.slice a2 l2 c2) (.int .i64 e2)
     obtain⟨Y1,hY1⟩:∃Y,Y=st3w Y0 B8 (.bool n2) (.slice a2 l2 c2) (.int .i64 e2):=⟨_,rfl⟩
     rw[←hY1]at Q1 KL1 S1_1 S1_2 Z1_B7
     rw[show((Y0.setCell ⟨B8,0,none⟩ (.bool n2)).setCell ⟨B8,1,none⟩ (.slice a2 l2 c2)).setCell ⟨B8,2,none⟩ (.int .i64 e2)=Y1 from hY1.symm]
     clear hY1 d0 d1 d2 fz hL1
     refine wpAnyT_done (by kernel_rfl) ?_ _
     (try simp only[Act.put,zA,zB,zC,zD,zE,zF])
     exact HNf.out B7 B8 n1 a1 l1 c1 e1 n2 a2 l2 c2 e2 Y1 ⟨lB7,Z1_B7,S1_1,lB8,Q1,S1_2,hne,KL1⟩
    ·skip
     intro K hK9
     go_simp
     have gfd5_8_10:=N3.new ufd5_8 (.bool false) (.slice none 0 0) (.int .i64 0) 43
     have kfd5_8_10:Kept ufd5_8 (ufd5_8.alloc (.cells #[.bool false,.slice none 0 0,.int .i64 0] 43)):=(Kept.refl ufd5_8).alloc _ _
     obtain⟨ufd5_8_10,hufd5_8_10⟩:∃u,u=ufd5_8.alloc (.cells #[.bool false,.slice none 0 0,.int .i64 0] 43):=⟨_,rfl⟩
     obtain⟨B8,hbfd5_8_10⟩:∃b,b=ufd5_8.heap.size:=⟨_,rfl⟩
     rw[←hufd5_8_10,←hbfd5_8_10]at gfd5_8_10
     rw[←hufd5_8_10]at kfd5_8_10 ⊢
     rw[←hbfd5_8_10]
     have Kfd5_8_10:=Kfd5_8.trans kfd5_8_10
     have lB8:X.heap.size≤B8:=by rw[hbfd5_8_10];exact Kfd5_8.below.size
     have Mfd5_8_10_1:=Mfd5_8_1.kept kfd5_8_10
     have Mfd5_8_10_2:=Mfd5_8.kept kfd5_8_10
     clear hufd5_8_10 hbfd5_8_10
     refine hK9.out _ _ trivial (HS0.out _ Kfd5_8_10) (fun _ hTfd5_8_10=>?_)
     clear hK9 K
     (try simp only[Act.put,zA,zB,zC,zD,zE,zF])
     refine wpAnyT_one (i:=9) (by kernel_rfl) rfl ?_
     intro K hK9
     go_simp
     have gfd5_8_10_9:=N3.new ufd5_8_10 (.bool false) (.slice none 0 0) (.int .i64 0) 43
     have kfd5_8_10_9:Kept ufd5_8_10 (ufd5_8_10.alloc (.cells #[.bool false,.slice none 0 0,.int .i64 0] 43)):=(Kept.refl ufd5_8_10).alloc _ _
     obtain⟨ufd5_8_10_9,hufd5_8_10_9⟩:∃u,u=ufd5_8_10.alloc (.cells #[.bool false,.slice none 0 0,.int .i64 0] 43):=⟨_,rfl⟩
     obtain⟨B7,hbfd5_8_10_9⟩:∃b,b=ufd5_8_10.heap.size:=⟨_,rfl⟩
     rw[←hufd5_8_10_9,←hbfd5_8_10_9]at gfd5_8_10_9
     rw[←hufd5_8_10_9]at kfd5_8_10_9 ⊢
     rw[←hbfd5_8_10_9]
     have Kfd5_8_10_9:=Kfd5_8_10.trans kfd5_8_10_9
     have lB7:X.heap.size≤B7:=by rw[hbfd5_8_10_9];exact Kfd5_8_10.below.size
     have Mfd5_8_10_9_1:=Mfd5_8_10_1.kept kfd5_8_10_9
     have Mfd5_8_10_9_2:=Mfd5_8_10_2.kept kfd5_8_10_9
     have Pfd5_8_10_9_B8:=gfd5_8_10.kept kfd5_8_10_9
     have hne:¬B7=B8:=by have:=gfd5_8_10.lt;omega
     have hne':¬B8=B7:=fun e=>hne e.symm
     clear hufd5_8_10_9 hbfd5_8_10_9
     refine hK9.out _ _ trivial (HS0.out _ Kfd5_8_10_9) (fun _ hTfd5_8_10_9=>?_)
     clear hK9 K
     (try simp only[Act.put,zA,zB,zC,zD,zE,zF])
     have d0:=gfd5_8_10_9.c0
     have d1:=gfd5_8_10_9.c1
     have d2:=gfd5_8_10_9.c2
     have fz:=gfd5_8_10_9.fz
     have KL0:=kept_st3 Kfd5_8_10_9 lB7 (.bool n1) (.slice a1 l1 c1) (.int .i64 e1)
     refine wpAnyT_late (i:=11) (by kernel_rfl) rfl (by kernel_rfl) (fun K hK9=>?_)
     go_simp
     refine hK9.out _ _ (HS0.out _ KL0) (fun hL0=>?_)
     clear hK9 K
     (try simp only[Act.put,zA,zB,zC,zD,zE,zF])
     have Q0:=gfd5_8_10_9.set (.bool n1) (.slice a1 l1 c1) (.int .i64 e1)
     have S0_1:=new_st3n Mfd5_8_10_9_1 gfd5_8_10_9 (.bool n1) (.slice a1 l1 c1) (.int .i64 e1)
     have S0_2:=new_st3n Mfd5_8_10_9_2 gfd5_8_10_9 (.bool n1) (.slice a1 l1 c1) (.int .i64 e1)
     have Z0_B8:=Pfd5_8_10_9_B8.far hne' (.bool n1) (.slice a1 l1 c1) (.int .i64 e1)
     obtain⟨Y0,hY0⟩:∃Y,Y=st3w ufd5_8_10_9 B7 (.bool n1) (.slice a1 l1 c1) (.int .i64 e1):=⟨_,rfl⟩
     rw[←hY0]at Q0 KL0 S0_1 S0_2 Z0_B8
     rw[show((ufd5_8_10_9.setCell ⟨B7,0,none⟩ (.bool n1)).setCell ⟨B7,1,none⟩ (.slice a1 l1 c1)).setCell ⟨B7,2,none⟩ (.int .i64 e1)=Y0 from hY0.symm]
     clear hY0 d0 d1 d2 fz hL0
     have d0:=Z0_B8.c0
     have d1:=Z0_B8.c1
     have d2:=Z0_B8.c2
     have fz:=Z0_B8.fz
     have KL1:=kept_st3 KL0 lB8 (.bool n2) (.slice a2 l2 c2) (.int .i64 e2)
     refine wpAnyT_late (i:=12) (by kernel_rfl) rfl (by kernel_rfl) (fun K hK9=>?_)
     go_simp
     refine hK9.out _ _ (HS0.out _ KL1) (fun hL1=>?_)
     clear hK9 K
     (try simp only[Act.put,zA,zB,zC,zD,zE,zF])
     have Q1:=Z0_B8.set (.bool n2) (.slice a2 l2 c2) (.int .i64 e2)
     have S1_1:=new_st3n S0_1 Z0_B8 (.bool n2) (.slice a2 l2 c2) (.int .i64 e2)
     have S1_2:=new_st3n S0_2 Z0_B8 (.bool n2) (.slice a2 l2 c2) (.int .i64 e2)
     have Z1_B7:=Q0.far hne (.bool n2) (.slice a2 l2 c2) (.int .i64 e2)
     obtain⟨Y1,hY1⟩:∃Y,Y=st3w Y0 B8 (.bool n2) (.slice a2 l2 c2) (.int .i64 e2):=⟨_,rfl⟩
     rw[←hY1]at Q1 KL1 S1_1 S1_2 Z1_B7
     rw[show((Y0.setCell ⟨B8,0,none⟩ (.bool n2)).setCell ⟨B8,1,none⟩ (.slice a2 l2 c2)).setCell ⟨B8,2,none⟩ (.int .i64 e2)=Y1 from hY1.symm]
     clear hY1 d0 d1 d2 fz hL1
     refine wpAnyT_done (by kernel_rfl) ?_ _
     (try simp only[Act.put,zA,zB,zC,zD,zE,zF])
     exact HNf.out B7 B8 n1 a1 l1 c1 e1 n2 a2 l2 c2 e2 Y1 ⟨lB7,Z1_B7,S1_1,lB8,Q1,S1_2,hne,KL1⟩
   ·skip
    intro K hK9
    go_simp
    have gfd5_9:=N3.new ufd5 (.bool false) (.slice none 0 0) (.int .i64 0) 43
    have kfd5_9:Kept ufd5 (ufd5.alloc (.cells #[.bool false,.slice none 0 0,.int .i64 0] 43)):=(Kept.refl ufd5).alloc _ _
    obtain⟨ufd5_9,hufd5_9⟩:∃u,u=ufd5.alloc (.cells #[.bool false,.slice none 0 0,.int .i64 0] 43):=⟨_,rfl⟩
    obtain⟨B7,hbfd5_9⟩:∃b,b=ufd5.heap.size:=⟨_,rfl⟩
    rw[←hufd5_9,←hbfd5_9]at gfd5_9
    rw[←hufd5_9]at kfd5_9 ⊢
    rw[←hbfd5_9]
    have Kfd5_9:=Kfd5.trans kfd5_9
    have lB7:X.heap.size≤B7:=by rw[hbfd5_9];exact Kfd5.below.size
    have Mfd5_9_1:=Mfd5.kept kfd5_9
    clear hufd5_9 hbfd5_9
    refine hK9.out _ _ trivial (HS0.out _ Kfd5_9) (fun _ hTfd5_9=>?_)
    clear hK9 K
    (try simp only[Act.put,zA,zB,zC,zD,zE,zF])
    refine wpAnyT_two (i:=8) (j:=10) (by kernel_rfl) rfl rfl ?_ ?_
    ·skip
     intro K hK9
     go_simp
     go_wp2_with fail
     refine(KI2.out _ (hK.trans Kfd5_9)).mono ?_
     rintro e ufd5_9_8 ⟨v2,rfl,Nfd5_9_8,kfd5_9_8⟩
     obtain⟨n2,a2,l2,c2,e2,rfl⟩:=Nfd5_9_8.shape
     have Mfd5_9_8:=new_mono Nfd5_9_8 Kfd5_9.below.size
     have Kfd5_9_8:=Kfd5_9.trans kfd5_9_8
     have Mfd5_9_8_1:=Mfd5_9_1.kept kfd5_9_8
     have Pfd5_9_8_B7:=gfd5_9.kept kfd5_9_8
     clear Nfd5_9_8
     refine hK9.out _ _ trivial (HS0.out _ Kfd5_9_8) (fun _ hTfd5_9_8=>?_)
     clear hK9 K
     (try simp only[Act.put,zA,zB,zC,zD,zE,zF])
     refine wpAnyT_one (i:=10) (by kernel_rfl) rfl ?_
     intro K hK9
     go_simp
     have gfd5_9_8_10:=N3.new ufd5_9_8 (.bool false) (.slice none 0 0) (.int .i64 0) 43
     have kfd5_9_8_10:Kept ufd5_9_8 (ufd5_9_8.alloc (.cells #[.bool false,.slice none 0 0,.int .i64 0] 43)):=(Kept.refl ufd5_9_8).alloc _ _
     obtain⟨ufd5_9_8_10,hufd5_9_8_10⟩:∃u,u=ufd5_9_8.alloc (.cells #[.bool false,.slice none 0 0,.int .i64 0] 43):=⟨_,rfl⟩
     obtain⟨B8,hbfd5_9_8_10⟩:∃b,b=ufd5_9_8.heap.size:=⟨_,rfl⟩
     rw[←hufd5_9_8_10,←hbfd5_9_8_10]at gfd5_9_8_10
     rw[←hufd5_9_8_10]at kfd5_9_8_10 ⊢
     rw[←hbfd5_9_8_10]
     have Kfd5_9_8_10:=Kfd5_9_8.trans kfd5_9_8_10
     have lB8:X.heap.size≤B8:=by rw[hbfd5_9_8_10];exact Kfd5_9_8.below.size
     have Mfd5_9_8_10_1:=Mfd5_9_8_1.kept kfd5_9_8_10
     have Mfd5_9_8_10_2:=Mfd5_9_8.kept kfd5_9_8_10
     have Pfd5_9_8_10_B7:=Pfd5_9_8_B7.kept kfd5_9_8_10
     have hne:¬B7=B8:=by have:=Pfd5_9_8_B7.lt;omega
     have hne':¬B8=B7:=fun e=>hne e.symm
     clear hufd5_9_8_10 hbfd5_9_8_10
     refine hK9.out _ _ trivial (HS0.out _ Kfd5_9_8_10) (fun _ hTfd5_9_8_10=>?_)
     clear hK9 K
     (try simp only[Act.put,zA,zB,zC,zD,zE,zF])
     have d0:=Pfd5_9_8_10_B7.c0
     have d1:=Pfd5_9_8_10_B7.c1
     have d2:=Pfd5_9_8_10_B7.c2
     have fz:=Pfd5_9_8_10_B7.fz
     have KL0:=kept_st3 Kfd5_9_8_10 lB7 (.bool n1) (.slice a1 l1 c1) (.int .i64 e1)
     refine wpAnyT_late (i:=11) (by kernel_rfl) rfl (by kernel_rfl) (fun K hK9=>?_)
     go_simp
     refine hK9.out _ _ (HS0.out _ KL0) (fun hL0=>?_)
     clear hK9 K
     (try simp only[Act.put,zA,zB,zC,zD,zE,zF])
     have Q0:=Pfd5_9_8_10_B7.set (.bool n1) (.slice a1 l1 c1) (.int .i64 e1)
     have S0_1:=new_st3n Mfd5_9_8_10_1 Pfd5_9_8_10_B7 (.bool n1) (.slice a1 l1 c1) (.int .i64 e1)
     have S0_2:=new_st3n Mfd5_9_8_10_2 Pfd5_9_8_10_B7 (.bool n1) (.slice a1 l1 c1) (.int .i64 e1)
     have Z0_B8:=gfd5_9_8_10.far hne' (.bool n1) (.slice a1 l1 c1) (.int .i64 e1)
     obtain⟨Y0,hY0⟩:∃Y,Y=st3w ufd5_9_8_10 B7 (.bool n1) (.slice a1 l1 c1) (.int .i64 e1):=⟨_,rfl⟩
     rw[←hY0]at Q0 KL0 S0_1 S0_2 Z0_B8
     rw[show((ufd5_9_8_10.setCell ⟨B7,0,none⟩ (.bool n1)).setCell ⟨B7,1,none⟩ (.slice a1 l1 c1)).setCell ⟨B7,2,none⟩ (.int .i64 e1)=Y0 from hY0.symm]
     clear hY0 d0 d1 d2 fz hL0
     have d0:=Z0_B8.c0
     have d1:=Z0_B8.c1
     have d2:=Z0_B8.c2
     have fz:=Z0_B8.fz
     have KL1:=kept_st3 KL0 lB8 (.bool n2) (.slice a2 l2 c2) (.int .i64 e2)
     refine wpAnyT_late (i:=12) (by kernel_rfl) rfl (by kernel_rfl) (fun K hK9=>?_)
     go_simp
     refine hK9.out _ _ (HS0.out _ KL1) (fun hL1=>?_)
     clear hK9 K
     (try simp only[Act.put,zA,zB,zC,zD,zE,zF])
     have Q1:=Z0_B8.set (.bool n2) (.slice a2 l2 c2) (.int .i64 e2)
     have S1_1:=new_st3n S0_1 Z0_B8 (.bool n2) (.slice a2 l2 c2) (.int .i64 e2)
     have S1_2:=new_st3n S0_2 Z0_B8 (.bool n2) (.slice a2 l2 c2) (.int .i64 e2)
     have Z1_B7:=Q0.far hne (.bool n2) (.slice a2 l2 c2) (.int .i64 e2)
     obtain⟨Y1,hY1⟩:∃Y,Y=st3w Y0 B8 (.bool n2) (.slice a2 l2 c2) (.int .i64 e2):=⟨_,rfl⟩
     rw[←hY1]at Q1 KL1 S1_1 S1_2 Z1_B7
     rw[show((Y0.setCell ⟨B8,0,none⟩ (.bool n2)).setCell ⟨B8,1,none⟩ (.slice a2 l2 c2)).setCell ⟨B8,2,none⟩ (.int .i64 e2)=Y1 from hY1.symm]
     clear hY1 d0 d1 d2 fz hL1
     refine wpAnyT_done (by kernel_rfl) ?_ _
     (try simp only[Act.put,zA,zB,zC,zD,zE,zF])
     exact HNf.out B7 B8 n1 a1 l1 c1 e1 n2 a2 l2 c2 e2 Y1 ⟨lB7,Z1_B7,S1_1,lB8,Q1,S1_2,hne,KL1⟩
    ·skip
     intro K hK9
     go_simp
     have gfd5_9_10:=N3.new ufd5_9 (.bool false) (.slice none 0 0) (.int .i64 0) 43
     have kfd5_9_10:Kept ufd5_9 (ufd5_9.alloc (.cells #[.bool false,.slice none 0 0,.int .i64 0] 43)):=(Kept.refl ufd5_9).alloc _ _
     obtain⟨ufd5_9_10,hufd5_9_10⟩:∃u,u=ufd5_9.alloc (.cells #[.bool false,.slice none 0 0,.int .i64 0] 43):=⟨_,rfl⟩
     obtain⟨B8,hbfd5_9_10⟩:∃b,b=ufd5_9.heap.size:=⟨_,rfl⟩
     rw[←hufd5_9_10,←hbfd5_9_10]at gfd5_9_10
     rw[←hufd5_9_10]at kfd5_9_10 ⊢
     rw[←hbfd5_9_10]
     have Kfd5_9_10:=Kfd5_9.trans kfd5_9_10
     have lB8:X.heap.size≤B8:=by rw[hbfd5_9_10];exact Kfd5_9.below.size
     have Mfd5_9_10_1:=Mfd5_9_1.kept kfd5_9_10
     have Pfd5_9_10_B7:=gfd5_9.kept kfd5_9_10
     have hne:¬B7=B8:=by have:=gfd5_9.lt;omega
     have hne':¬B8=B7:=fun e=>hne e.symm
     clear hufd5_9_10 hbfd5_9_10
     refine hK9.out _ _ trivial (HS0.out _ Kfd5_9_10) (fun _ hTfd5_9_10=>?_)
     clear hK9 K
     (try simp only[Act.put,zA,zB,zC,zD,zE,zF])
     refine wpAnyT_one (i:=8) (by kernel_rfl) rfl ?_
     intro K hK9
     go_simp
     go_wp2_with fail
     refine(KI2.out _ (hK.trans Kfd5_9_10)).mono ?_
     rintro e ufd5_9_10_8 ⟨v2,rfl,Nfd5_9_10_8,kfd5_9_10_8⟩
     obtain⟨n2,a2,l2,c2,e2,rfl⟩:=Nfd5_9_10_8.shape
     have Mfd5_9_10_8:=new_mono Nfd5_9_10_8 Kfd5_9_10.below.size
     have Kfd5_9_10_8:=Kfd5_9_10.trans kfd5_9_10_8
     have Mfd5_9_10_8_1:=Mfd5_9_10_1.kept kfd5_9_10_8
     have Pfd5_9_10_8_B7:=Pfd5_9_10_B7.kept kfd5_9_10_8
     have Pfd5_9_10_8_B8:=gfd5_9_10.kept kfd5_9_10_8
     clear Nfd5_9_10_8
     refine hK9.out _ _ trivial (HS0.out _ Kfd5_9_10_8) (fun _ hTfd5_9_10_8=>?_)
     clear hK9 K
     (try simp only[Act.put,zA,zB,zC,zD,zE,zF])
     have d0:=Pfd5_9_10_8_B7.c0
     have d1:=Pfd5_9_10_8_B7.c1
     have d2:=Pfd5_9_10_8_B7.c2
     have fz:=Pfd5_9_10_8_B7.fz
     have KL0:=kept_st3 Kfd5_9_10_8 lB7 (.bool n1) (.slice a1 l1 c1) (.int .i64 e1)
     refine wpAnyT_late (i:=11) (by kernel_rfl) rfl (by kernel_rfl) (fun K hK9=>?_)
     go_simp
     refine hK9.out _ _ (HS0.out _ KL0) (fun hL0=>?_)
     clear hK9 K
     (try simp only[Act.put,zA,zB,zC,zD,zE,zF])
     have Q0:=Pfd5_9_10_8_B7.set (.bool n1) (.slice a1 l1 c1) (.int .i64 e1)
     have S0_1:=new_st3n Mfd5_9_10_8_1 Pfd5_9_10_8_B7 (.bool n1) (.slice a1 l1 c1) (.int .i64 e1)
     have S0_2:=new_st3n Mfd5_9_10_8 Pfd5_9_10_8_B7 (.bool n1) (.slice a1 l1 c1) (.int .i64 e1)
     have Z0_B8:=Pfd5_9_10_8_B8.far hne' (.bool n1) (.slice a1 l1 c1) (.int .i64 e1)
     obtain⟨Y0,hY0⟩:∃Y,Y=st3w ufd5_9_10_8 B7 (.bool n1) (.slice a1 l1 c1) (.int .i64 e1):=⟨_,rfl⟩
     rw[←hY0]at Q0 KL0 S0_1 S0_2 Z0_B8
     rw[show((ufd5_9_10_8.setCell ⟨B7,0,none⟩ (.bool n1)).setCell ⟨B7,1,none⟩ (.slice a1 l1 c1)).setCell ⟨B7,2,none⟩ (.int .i64 e1)=Y0 from hY0.symm]
     clear hY0 d0 d1 d2 fz hL0
     have d0:=Z0_B8.c0
     have d1:=Z0_B8.c1
     have d2:=Z0_B8.c2
     have fz:=Z0_B8.fz
     have KL1:=kept_st3 KL0 lB8 (.bool n2) (.slice a2 l2 c2) (.int .i64 e2)
     refine wpAnyT_late (i:=12) (by kernel_rfl) rfl (by kernel_rfl) (fun K hK9=>?_)
     go_simp
     refine hK9.out _ _ (HS0.out _ KL1) (fun hL1=>?_)
     clear hK9 K
     (try simp only[Act.put,zA,zB,zC,zD,zE,zF])
     have Q1:=Z0_B8.set (.bool n2) (.slice a2 l2 c2) (.int .i64 e2)
     have S1_1:=new_st3n S0_1 Z0_B8 (.bool n2) (.slice a2 l2 c2) (.int .i64 e2)
     have S1_2:=new_st3n S0_2 Z0_B8 (.bool n2) (.slice a2 l2 c2) (.int .i64 e2)
     have Z1_B7:=Q0.far hne (.bool n2) (.slice a2 l2 c2) (.int .i64 e2)
     obtain⟨Y1,hY1⟩:∃Y,Y=st3w Y0 B8 (.bool n2) (.slice a2 l2 c2) (.int .i64 e2):=⟨_,rfl⟩
     rw[←hY1]at Q1 KL1 S1_1 S1_2 Z1_B7
     rw[show((Y0.setCell ⟨B8,0,none⟩ (.bool n2)).setCell ⟨B8,1,none⟩ (.slice a2 l2 c2)).setCell ⟨B8,2,none⟩ (.int .i64 e2)=Y1 from hY1.symm]
     clear hY1 d0 d1 d2 fz hL1
     refine wpAnyT_done (by kernel_rfl) ?_ _
     (try simp only[Act.put,zA,zB,zC,zD,zE,zF])
     exact HNf.out B7 B8 n1 a1 l1 c1 e1 n2 a2 l2 c2 e2 Y1 ⟨lB7,Z1_B7,S1_1,lB8,Q1,S1_2,hne,KL1⟩
   ·skip
    intro K hK9
    go_simp
    have gfd5_10:=N3.new ufd5 (.bool false) (.slice none 0 0) (.int .i64 0) 43
    have kfd5_10:Kept ufd5 (ufd5.alloc (.cells #[.bool false,.slice none 0 0,.int .i64 0] 43)):=(Kept.refl ufd5).alloc _ _
    obtain⟨ufd5_10,hufd5_10⟩:∃u,u=ufd5.alloc (.cells #[.bool false,.slice none 0 0,.int .i64 0] 43):=⟨_,rfl⟩
    obtain⟨B8,hbfd5_10⟩:∃b,b=ufd5.heap.size:=⟨_,rfl⟩
    rw[←hufd5_10,←hbfd5_10]at gfd5_10
    rw[←hufd5_10]at kfd5_10 ⊢
    rw[←hbfd5_10]
    have Kfd5_10:=Kfd5.trans kfd5_10
    have lB8:X.heap.size≤B8:=by rw[hbfd5_10];exact Kfd5.below.size
    have Mfd5_10_1:=Mfd5.kept kfd5_10
    clear hufd5_10 hbfd5_10
    refine hK9.out _ _ trivial (HS0.out _ Kfd5_10) (fun _ hTfd5_10=>?_)
    clear hK9 K
    (try simp only[Act.put,zA,zB,zC,zD,zE,zF])
    refine wpAnyT_two (i:=8) (j:=9) (by kernel_rfl) rfl rfl ?_ ?_
    ·skip
     intro K hK9
     go_simp
     go_wp2_with fail
     refine(KI2.out _ (hK.trans Kfd5_10)).mono ?_
     rintro e ufd5_10_8 ⟨v2,rfl,Nfd5_10_8,kfd5_10_8⟩
     obtain⟨n2,a2,l2,c2,e2,rfl⟩:=Nfd5_10_8.shape
     have Mfd5_10_8:=new_mono Nfd5_10_8 Kfd5_10.below.size
     have Kfd5_10_8:=Kfd5_10.trans kfd5_10_8
     have Mfd5_10_8_1:=Mfd5_10_1.kept kfd5_10_8
     have Pfd5_10_8_B8:=gfd5_10.kept kfd5_10_8
     clear Nfd5_10_8
     refine hK9.out _ _ trivial (HS0.out _ Kfd5_10_8) (fun _ hTfd5_10_8=>?_)
     clear hK9 K
     (try simp only[Act.put,zA,zB,zC,zD,zE,zF])
     refine wpAnyT_one (i:=9) (by kernel_rfl) rfl ?_
     intro K hK9
     go_simp
     have gfd5_10_8_9:=N3.new ufd5_10_8 (.bool false) (.slice none 0 0) (.int .i64 0) 43
     have kfd5_10_8_9:Kept ufd5_10_8 (ufd5_10_8.alloc (.cells #[.bool false,.slice none 0 0,.int .i64 0] 43)):=(Kept.refl ufd5_10_8).alloc _ _
     obtain⟨ufd5_10_8_9,hufd5_10_8_9⟩:∃u,u=ufd5_10_8.alloc (.cells #[.bool false,.slice none 0 0,.int .i64 0] 43):=⟨_,rfl⟩
     obtain⟨B7,hbfd5_10_8_9⟩:∃b,b=ufd5_10_8.heap.size:=⟨_,rfl⟩
     rw[←hufd5_10_8_9,←hbfd5_10_8_9]at gfd5_10_8_9
     rw[←hufd5_10_8_9]at kfd5_10_8_9 ⊢
     rw[←hbfd5_10_8_9]
     have Kfd5_10_8_9:=Kfd5_10_8.trans kfd5_10_8_9
     have lB7:X.heap.size≤B7:=by rw[hbfd5_10_8_9];exact Kfd5_10_8.below.size
     have Mfd5_10_8_9_1:=Mfd5_10_8_1.kept kfd5_10_8_9
     have Mfd5_10_8_9_2:=Mfd5_10_8.kept kfd5_10_8_9
     have Pfd5_10_8_9_B8:=Pfd5_10_8_B8.kept kfd5_10_8_9
     have hne:¬B7=B8:=by have:=Pfd5_10_8_B8.lt;omega
     have hne':¬B8=B7:=fun e=>hne e.symm
     clear hufd5_10_8_9 hbfd5_10_8_9
     refine hK9.out _ _ trivial (HS0.out _ Kfd5_10_8_9) (fun _ hTfd5_10_8_9=>?_)
     clear hK9 K
     (try simp only[Act.put,zA,zB,zC,zD,zE,zF])
     have d0:=gfd5_10_8_9.c0
     have d1:=gfd5_10_8_9.c1
     have d2:=gfd5_10_8_9.c2
     have fz:=gfd5_10_8_9.fz
     have KL0:=kept_st3 Kfd5_10_8_9 lB7 (.bool n1) (.slice a1 l1 c1) (.int .i64 e1)
     refine wpAnyT_late (i:=11) (by kernel_rfl) rfl (by kernel_rfl) (fun K hK9=>?_)
     go_simp
     refine hK9.out _ _ (HS0.out _ KL0) (fun hL0=>?_)
     clear hK9 K
     (try simp only[Act.put,zA,zB,zC,zD,zE,zF])
     have Q0:=gfd5_10_8_9.set (.bool n1) (.slice a1 l1 c1) (.int .i64 e1)
     have S0_1:=new_st3n Mfd5_10_8_9_1 gfd5_10_8_9 (.bool n1) (.slice a1 l1 c1) (.int .i64 e1)
     have S0_2:=new_st3n Mfd5_10_8_9_2 gfd5_10_8_9 (.bool n1) (.slice a1 l1 c1) (.int .i64 e1)
     have Z0_B8:=Pfd5_10_8_9_B8.far hne' (.bool n1) (.slice a1 l1 c1) (.int .i64 e1)
     obtain⟨Y0,hY0⟩:∃Y,Y=st3w ufd5_10_8_9 B7 (.bool n1) (.slice a1 l1 c1) (.int .i64 e1):=⟨_,rfl⟩
     rw[←hY0]at Q0 KL0 S0_1 S0_2 Z0_B8
     rw[show((ufd5_10_8_9.setCell ⟨B7,0,none⟩ (.bool n1)).setCell ⟨B7,1,none⟩ (.slice a1 l1 c1)).setCell ⟨B7,2,none⟩ (.int .i64 e1)=Y0 from hY0.symm]
     clear hY0 d0 d1 d2 fz hL0
     have d0:=Z0_B8.c0
     have d1:=Z0_B8.c1
     have d2:=Z0_B8.c2
     have fz:=Z0_B8.fz
     have KL1:=kept_st3 KL0 lB8 (.bool n2) (.slice a2 l2 c2) (.int .i64 e2)
     refine wpAnyT_late (i:=12) (by kernel_rfl) rfl (by kernel_rfl) (fun K hK9=>?_)
     go_simp
     refine hK9.out _ _ (HS0.out _ KL1) (fun hL1=>?_)
     clear hK9 K
     (try simp only[Act.put,zA,zB,zC,zD,zE,zF])
     have Q1:=Z0_B8.set (.bool n2) (.slice a2 l2 c2) (.int .i64 e2)
     have S1_1:=new_st3n S0_1 Z0_B8 (.bool n2) (.slice a2 l2 c2) (.int .i64 e2)
     have S1_2:=new_st3n S0_2 Z0_B8 (.bool n2) (.slice a2 l2 c2) (.int .i64 e2)
     have Z1_B7:=Q0.far hne (.bool n2) (.slice a2 l2 c2) (.int .i64 e2)
     obtain⟨Y1,hY1⟩:∃Y,Y=st3w Y0 B8 (.bool n2) (.slice a2 l2 c2) (.int .i64 e2):=⟨_,rfl⟩
     rw[←hY1]at Q1 KL1 S1_1 S1_2 Z1_B7
     rw[show((Y0.setCell ⟨B8,0,none⟩ (.bool n2)).setCell ⟨B8,1,none⟩ (.slice a2 l2 c2)).setCell ⟨B8,2,none⟩ (.int .i64 e2)=Y1 from hY1.symm]
     clear hY1 d0 d1 d2 fz hL1
     refine wpAnyT_done (by kernel_rfl) ?_ _
     (try simp only[Act.put,zA,zB,zC,zD,zE,zF])
     exact HNf.out B7 B8 n1 a1 l1 c1 e1 n2 a2 l2 c2 e2 Y1 ⟨lB7,Z1_B7,S1_1,lB8,Q1,S1_2,hne,KL1⟩
    ·skip
     intro K hK9
     go_simp
     have gfd5_10_9:=N3.new ufd5_10 (.bool false) (.slice none 0 0) (.int .i64 0) 43
     have kfd5_10_9:Kept ufd5_10 (ufd5_10.alloc (.cells #[.bool false,.slice none 0 0,.int .i64 0] 43)):=(Kept.refl ufd5_10).alloc _ _
     obtain⟨ufd5_10_9,hufd5_10_9⟩:∃u,u=ufd5_10.alloc (.cells #[.bool false,.slice none 0 0,.int .i64 0] 43):=⟨_,rfl⟩
     obtain⟨B7,hbfd5_10_9⟩:∃b,b=ufd5_10.heap.size:=⟨_,rfl⟩
     rw[←hufd5_10_9,←hbfd5_10_9]at gfd5_10_9
     rw[←hufd5_10_9]at kfd5_10_9 ⊢
     rw[←hbfd5_10_9]
     have Kfd5_10_9:=Kfd5_10.trans kfd5_10_9
     have lB7:X.heap.size≤B7:=by rw[hbfd5_10_9];exact Kfd5_10.below.size
     have Mfd5_10_9_1:=Mfd5_10_1.kept kfd5_10_9
     have Pfd5_10_9_B8:=gfd5_10.kept kfd5_10_9
     have hne:¬B7=B8:=by have:=gfd5_10.lt;omega
     have hne':¬B8=B7:=fun e=>hne e.symm
     clear hufd5_10_9 hbfd5_10_9
     refine hK9.out _ _ trivial (HS0.out _ Kfd5_10_9) (fun _ hTfd5_10_9=>?_)
     clear hK9 K
     (try simp only[Act.put,zA,zB,zC,zD,zE,zF])
     refine wpAnyT_one (i:=8) (by kernel_rfl) rfl ?_
     intro K hK9
     go_simp
     go_wp2_with fail
     refine(KI2.out _ (hK.trans Kfd5_10_9)).mono ?_
     rintro e ufd5_10_9_8 ⟨v2,rfl,Nfd5_10_9_8,kfd5_10_9_8⟩
     obtain⟨n2,a2,l2,c2,e2,rfl⟩:=Nfd5_10_9_8.shape
     have Mfd5_10_9_8:=new_mono Nfd5_10_9_8 Kfd5_10_9.below.size
     have Kfd5_10_9_8:=Kfd5_10_9.trans kfd5_10_9_8
     have Mfd5_10_9_8_1:=Mfd5_10_9_1.kept kfd5_10_9_8
     have Pfd5_10_9_8_B8:=Pfd5_10_9_B8.kept kfd5_10_9_8
     have Pfd5_10_9_8_B7:=gfd5_10_9.kept kfd5_10_9_8
     clear Nfd5_10_9_8
     refine hK9.out _ _ trivial (HS0.out _ Kfd5_10_9_8) (fun _ hTfd5_10_9_8=>?_)
     clear hK9 K
     (try simp only[Act.put,zA,zB,zC,zD,zE,zF])
     have d0:=Pfd5_10_9_8_B7.c0
     have d1:=Pfd5_10_9_8_B7.c1
     have d2:=Pfd5_10_9_8_B7.c2
     have fz:=Pfd5_10_9_8_B7.fz
     have KL0:=kept_st3 Kfd5_10_9_8 lB7 (.bool n1) (.slice a1 l1 c1) (.int .i64 e1)
     refine wpAnyT_late (i:=11) (by kernel_rfl) rfl (by kernel_rfl) (fun K hK9=>?_)
     go_simp
     refine hK9.out _ _ (HS0.out _ KL0) (fun hL0=>?_)
     clear hK9 K
     (try simp only[Act.put,zA,zB,zC,zD,zE,zF])
     have Q0:=Pfd5_10_9_8_B7.set (.bool n1) (.slice a1 l1 c1) (.int .i64 e1)
     have S0_1:=new_st3n Mfd5_10_9_8_1 Pfd5_10_9_8_B7 (.bool n1) (.slice a1 l1 c1) (.int .i64 e1)
     have S0_2:=new_st3n Mfd5_10_9_8 Pfd5_10_9_8_B7 (.bool n1) (.slice a1 l1 c1) (.int .i64 e1)
     have Z0_B8:=Pfd5_10_9_8_B8.far hne' (.bool n1) (.slice a1 l1 c1) (.int .i64 e1)
     obtain⟨Y0,hY0⟩:∃Y,Y=st3w ufd5_10_9_8 B7 (.bool n1) (.slice a1 l1 c1) (.int .i64 e1):=⟨_,rfl⟩
     rw[←hY0]at Q0 KL0 S0_1 S0_2 Z0_B8
     rw[show((ufd5_10_9_8.setCell ⟨B7,0,none⟩ (.bool n1)).setCell ⟨B7,1,none⟩ (.slice a1 l1 c1)).setCell ⟨B7,2,none⟩ (.int .i64 e1)=Y0 from hY0.symm]
     clear hY0 d0 d1 d2 fz hL0
     have d0:=Z0_B8.c0
     have d1:=Z0_B8.c1
     have d2:=Z0_B8.c2
     have fz:=Z0_B8.fz
     have KL1:=kept_st3 KL0 lB8 (.bool n2) (.slice a2 l2 c2) (.int .i64 e2)
     refine wpAnyT_late (i:=12) (by kernel_rfl) rfl (by kernel_rfl) (fun K hK9=>?_)
     go_simp
     refine hK9.out _ _ (HS0.out _ KL1) (fun hL1=>?_)
     clear hK9 K
     (try simp only[Act.put,zA,zB,zC,zD,zE,zF])
     have Q1:=Z0_B8.set (.bool n2) (.slice a2 l2 c2) (.int .i64 e2)
     have S1_1:=new_st3n S0_1 Z0_B8 (.bool n2) (.slice a2 l2 c2) (.int .i64 e2)
     have S1_2:=new_st3n S0_2 Z0_B8 (.bool n2) (.slice a2 l2 c2) (.int .i64 e2)
     have Z1_B7:=Q0.far hne (.bool n2) (.slice a2 l2 c2) (.int .i64 e2)
     obtain⟨Y1,hY1⟩:∃Y,Y=st3w Y0 B8 (.bool n2) (.slice a2 l2 c2) (.int .i64 e2):=⟨_,rfl⟩
     rw[←hY1]at Q1 KL1 S1_1 S1_2 Z1_B7
     rw[show((Y0.setCell ⟨B8,0,none⟩ (.bool n2)).setCell ⟨B8,1,none⟩ (.slice a2 l2 c2)).setCell ⟨B8,2,none⟩ (.int .i64 e2)=Y1 from hY1.symm]
     clear hY1 d0 d1 d2 fz hL1
     refine wpAnyT_done (by kernel_rfl) ?_ _
     (try simp only[Act.put,zA,zB,zC,zD,zE,zF])
     exact HNf.out B7 B8 n1 a1 l1 c1 e1 n2 a2 l2 c2 e2 Y1 ⟨lB7,Z1_B7,S1_1,lB8,Q1,S1_2,hne,KL1⟩
  ·skip
   intro K hK9
   go_simp
   have gfd9:=N3.new Y0 (.bool false) (.slice none 0 0) (.int .i64 0) 43
   have kfd9:Kept Y0 (Y0.alloc (.cells #[.bool false,.slice none 0 0,.int .i64 0] 43)):=(Kept.refl Y0).alloc _ _
   obtain⟨ufd9,hufd9⟩:∃u,u=Y0.alloc (.cells #[.bool false,.slice none 0 0,.int .i64 0] 43):=⟨_,rfl⟩
   obtain⟨B7,hbfd9⟩:∃b,b=Y0.heap.size:=⟨_,rfl⟩
   rw[←hufd9,←hbfd9]at gfd9
   rw[←hufd9]at kfd9 ⊢
   rw[←hbfd9]
   have Kfd9:=k0.trans kfd9
   have lB7:X.heap.size≤B7:=by rw[hbfd9];exact k0.below.size
   clear hufd9 hbfd9
   refine hK9.out _ _ trivial (HS0.out _ Kfd9) (fun _ hTfd9=>?_)
   clear hK9 K
   (try simp only[Act.put,zA,zB,zC,zD,zE,zF])
   refine wpAnyT_two (i:=5) (j:=10) (by kernel_rfl) rfl rfl ?_ ?_
   ·skip
    intro K hK9
    go_simp
    go_wp2_with fail
    refine(KI1.out _ (hK.trans Kfd9)).mono ?_
    rintro e ufd9_5 ⟨v1,rfl,Nfd9_5,kfd9_5⟩
    obtain⟨n1,a1,l1,c1,e1,rfl⟩:=Nfd9_5.shape
    have Mfd9_5:=new_mono Nfd9_5 Kfd9.below.size
    have Kfd9_5:=Kfd9.trans kfd9_5
    have Pfd9_5_B7:=gfd9.kept kfd9_5
    clear Nfd9_5
    refine hK9.out _ _ trivial (HS0.out _ Kfd9_5) (fun _ hTfd9_5=>?_)
    clear hK9 K
    (try simp only[Act.put,zA,zB,zC,zD,zE,zF])
    refine wpAnyT_two (i:=8) (j:=10) (by kernel_rfl) rfl rfl ?_ ?_
    ·skip
     intro K hK9
     go_simp
     go_wp2_with fail
     refine(KI2.out _ (hK.trans Kfd9_5)).mono ?_
     rintro e ufd9_5_8 ⟨v2,rfl,Nfd9_5_8,kfd9_5_8⟩
     obtain⟨n2,a2,l2,c2,e2,rfl⟩:=Nfd9_5_8.shape
     have Mfd9_5_8:=new_mono Nfd9_5_8 Kfd9_5.below.size
     have Kfd9_5_8:=Kfd9_5.trans kfd9_5_8
     have Mfd9_5_8_1:=Mfd9_5.kept kfd9_5_8
     have Pfd9_5_8_B7:=Pfd9_5_B7.kept kfd9_5_8
     clear Nfd9_5_8
     refine hK9.out _ _ trivial (HS0.out _ Kfd9_5_8) (fun _ hTfd9_5_8=>?_)
     clear hK9 K
     (try simp only[Act.put,zA,zB,zC,zD,zE,zF])
     refine wpAnyT_one (i:=10) (by kernel_rfl) rfl ?_
     intro K hK9
     go_simp
     have gfd9_5_8_10:=N3.new ufd9_5_8 (.bool false) (.slice none 0 0) (.int .i64 0) 43
     have kfd9_5_8_10:Kept ufd9_5_8 (ufd9_5_8.alloc (.cells #[.bool false,.slice none 0 0,.int .i64 0] 43)):=(Kept.refl ufd9_5_8).alloc _ _
     obtain⟨ufd9_5_8_10,hufd9_5_8_10⟩:∃u,u=ufd9_5_8.alloc (.cells #[.bool false,.slice none 0 0,.int .i64 0] 43):=⟨_,rfl⟩
     obtain⟨B8,hbfd9_5_8_10⟩:∃b,b=ufd9_5_8.heap.size:=⟨_,rfl⟩
     rw[←hufd9_5_8_10,←hbfd9_5_8_10]at gfd9_5_8_10
     rw[←hufd9_5_8_10]at kfd9_5_8_10 ⊢
     rw[←hbfd9_5_8_10]
     have Kfd9_5_8_10:=Kfd9_5_8.trans kfd9_5_8_10
     have lB8:X.heap.size≤B8:=by rw[hbfd9_5_8_10];exact Kfd9_5_8.below.size
     have Mfd9_5_8_10_1:=Mfd9_5_8_1.kept kfd9_5_8_10
     have Mfd9_5_8_10_2:=Mfd9_5_8.kept kfd9_5_8_10
     have Pfd9_5_8_10_B7:=Pfd9_5_8_B7.kept kfd9_5_8_10
     have hne:¬B7=B8:=by have:=Pfd9_5_8_B7.lt;omega
     have hne':¬B8=B7:=fun e=>hne e.symm
     clear hufd9_5_8_10 hbfd9_5_8_10
     refine hK9.out _ _ trivial (HS0.out _ Kfd9_5_8_10) (fun _ hTfd9_5_8_10=>?_)
     clear hK9 K
     (try simp only[Act.put,zA,zB,zC,zD,zE,zF])
     have d0:=Pfd9_5_8_10_B7.c0
     have d1:=Pfd9_5_8_10_B7.c1
     have d2:=Pfd9_5_8_10_B7.c2
     have fz:=Pfd9_5_8_10_B7.fz
     have KL0:=kept_st3 Kfd9_5_8_10 lB7 (.bool n1) (.slice a1 l1 c1) (.int .i64 e1)
     refine wpAnyT_late (i:=11) (by kernel_rfl) rfl (by kernel_rfl) (fun K hK9=>?_)
     go_simp
     refine hK9.out _ _ (HS0.out _ KL0) (fun hL0=>?_)
     clear hK9 K
     (try simp only[Act.put,zA,zB,zC,zD,zE,zF])
     have Q0:=Pfd9_5_8_10_B7.set (.bool n1) (.slice a1 l1 c1) (.int .i64 e1)
     have S0_1:=new_st3n Mfd9_5_8_10_1 Pfd9_5_8_10_B7 (.bool n1) (.slice a1 l1 c1) (.int .i64 e1)
     have S0_2:=new_st3n Mfd9_5_8_10_2 Pfd9_5_8_10_B7 (.bool n1) (.slice a1 l1 c1) (.int .i64 e1)
     have Z0_B8:=gfd9_5_8_10.far hne' (.bool n1) (.slice a1 l1 c1) (.int .i64 e1)
     obtain⟨Y0,hY0⟩:∃Y,Y=st3w ufd9_5_8_10 B7 (.bool n1) (.slice a1 l1 c1) (.int .i64 e1):=⟨_,rfl⟩
     rw[←hY0]at Q0 KL0 S0_1 S0_2 Z0_B8
     rw[show((ufd9_5_8_10.setCell ⟨B7,0,none⟩ (.bool n1)).setCell ⟨B7,1,none⟩ (.slice a1 l1 c1)).setCell ⟨B7,2,none⟩ (.int .i64 e1)=Y0 from hY0.symm]
     clear hY0 d0 d1 d2 fz hL0
     have d0:=Z0_B8.c0
     have d1:=Z0_B8.c1
     have d2:=Z0_B8.c2
     have fz:=Z0_B8.fz
     have KL1:=kept_st3 KL0 lB8 (.bool n2) (.slice a2 l2 c2) (.int .i64 e2)
     refine wpAnyT_late (i:=12) (by kernel_rfl) rfl (by kernel_rfl) (fun K hK9=>?_)
     go_simp
     refine hK9.out _ _ (HS0.out _ KL1) (fun hL1=>?_)
     clear hK9 K
     (try simp only[Act.put,zA,zB,zC,zD,zE,zF])
     have Q1:=Z0_B8.set (.bool n2) (.slice a2 l2 c2) (.int .i64 e2)
     have S1_1:=new_st3n S0_1 Z0_B8 (.bool n2) (.slice a2 l2 c2) (.int .i64 e2)
     have S1_2:=new_st3n S0_2 Z0_B8 (.bool n2) (.slice a2 l2 c2) (.int .i64 e2)
     have Z1_B7:=Q0.far hne (.bool n2) (.slice a2 l2 c2) (.int .i64 e2)
     obtain⟨Y1,hY1⟩:∃Y,Y=st3w Y0 B8 (.bool n2) (.slice a2 l2 c2) (.int .i64 e2):=⟨_,rfl⟩
     rw[←hY1]at Q1 KL1 S1_1 S1_2 Z1_B7
     rw[show((Y0.setCell ⟨B8,0,none⟩ (.bool n2)).setCell ⟨B8,1,none⟩ (.slice a2 l2 c2)).setCell ⟨B8,2,none⟩ (.int .i64 e2)=Y1 from hY1.symm]
     clear hY1 d0 d1 d2 fz hL1
     refine wpAnyT_done (by kernel_rfl) ?_ _
     (try simp only[Act.put,zA,zB,zC,zD,zE,zF])
     exact HNf.out B7 B8 n1 a1 l1 c1 e1 n2 a2 l2 c2 e2 Y1 ⟨lB7,Z1_B7,S1_1,lB8,Q1,S1_2,hne,KL1⟩
    ·skip
     intro K hK9
     go_simp
     have gfd9_5_10:=N3.new ufd9_5 (.bool false) (.slice none 0 0) (.int .i64 0) 43
     have kfd9_5_10:Kept ufd9_5 (ufd9_5.alloc (.cells #[.bool false,.slice none 0 0,.int .i64 0] 43)):=(Kept.refl ufd9_5).alloc _ _
     obtain⟨ufd9_5_10,hufd9_5_10⟩:∃u,u=ufd9_5.alloc (.cells #[.bool false,.slice none 0 0,.int .i64 0] 43):=⟨_,rfl⟩
     obtain⟨B8,hbfd9_5_10⟩:∃b,b=ufd9_5.heap.size:=⟨_,rfl⟩
     rw[←hufd9_5_10,←hbfd9_5_10]at gfd9_5_10
     rw[←hufd9_5_10]at kfd9_5_10 ⊢
     rw[←hbfd9_5_10]
     have Kfd9_5_10:=Kfd9_5.trans kfd9_5_10
     have lB8:X.heap.size≤B8:=by rw[hbfd9_5_10];exact Kfd9_5.below.size
     have Mfd9_5_10_1:=Mfd9_5.kept kfd9_5_10
     have Pfd9_5_10_B7:=Pfd9_5_B7.kept kfd9_5_10
     have hne:¬B7=B8:=by have:=Pfd9_5_B7.lt;omega
     have hne':¬B8=B7:=fun e=>hne e.symm
     clear hufd9_5_10 hbfd9_5_10
     refine hK9.out _ _ trivial (HS0.out _ Kfd9_5_10) (fun _ hTfd9_5_10=>?_)
     clear hK9 K
     (try simp only[Act.put,zA,zB,zC,zD,zE,zF])
     refine wpAnyT_one (i:=8) (by kernel_rfl) rfl ?_
     intro K hK9
     go_simp
     go_wp2_with fail
     refine(KI2.out _ (hK.trans Kfd9_5_10)).mono ?_
     rintro e ufd9_5_10_8 ⟨v2,rfl,Nfd9_5_10_8,kfd9_5_10_8⟩
     obtain⟨n2,a2,l2,c2,e2,rfl⟩:=Nfd9_5_10_8.shape
     have Mfd9_5_10_8:=new_mono Nfd9_5_10_8 Kfd9_5_10.below.size
     have Kfd9_5_10_8:=Kfd9_5_10.trans kfd9_5_10_8
     have Mfd9_5_10_8_1:=Mfd9_5_10_1.kept kfd9_5_10_8
     have Pfd9_5_10_8_B7:=Pfd9_5_10_B7.kept kfd9_5_10_8
     have Pfd9_5_10_8_B8:=gfd9_5_10.kept kfd9_5_10_8
     clear Nfd9_5_10_8
     refine hK9.out _ _ trivial (HS0.out _ Kfd9_5_10_8) (fun _ hTfd9_5_10_8=>?_)
     clear hK9 K
     (try simp only[Act.put,zA,zB,zC,zD,zE,zF])
     have d0:=Pfd9_5_10_8_B7.c0
     have d1:=Pfd9_5_10_8_B7.c1
     have d2:=Pfd9_5_10_8_B7.c2
     have fz:=Pfd9_5_10_8_B7.fz
     have KL0:=kept_st3 Kfd9_5_10_8 lB7 (.bool n1) (.slice a1 l1 c1) (.int .i64 e1)
     refine wpAnyT_late (i:=11) (by kernel_rfl) rfl (by kernel_rfl) (fun K hK9=>?_)
     go_simp
     refine hK9.out _ _ (HS0.out _ KL0) (fun hL0=>?_)
     clear hK9 K
     (try simp only[Act.put,zA,zB,zC,zD,zE,zF])
     have Q0:=Pfd9_5_10_8_B7.set (.bool n1) (.slice a1 l1 c1) (.int .i64 e1)
     have S0_1:=new_st3n Mfd9_5_10_8_1 Pfd9_5_10_8_B7 (.bool n1) (.slice a1 l1 c1) (.int .i64 e1)
     have S0_2:=new_st3n Mfd9_5_10_8 Pfd9_5_10_8_B7 (.bool n1) (.slice a1 l1 c1) (.int .i64 e1)
     have Z0_B8:=Pfd9_5_10_8_B8.far hne' (.bool n1) (.slice a1 l1 c1) (.int .i64 e1)
     obtain⟨Y0,hY0⟩:∃Y,Y=st3w ufd9_5_10_8 B7 (.bool n1) (.slice a1 l1 c1) (.int .i64 e1):=⟨_,rfl⟩
     rw[←hY0]at Q0 KL0 S0_1 S0_2 Z0_B8
     rw[show((ufd9_5_10_8.setCell ⟨B7,0,none⟩ (.bool n1)).setCell ⟨B7,1,none⟩ (.slice a1 l1 c1)).setCell ⟨B7,2,none⟩ (.int .i64 e1)=Y0 from hY0.symm]
     clear hY0 d0 d1 d2 fz hL0
     have d0:=Z0_B8.c0
     have d1:=Z0_B8.c1
     have d2:=Z0_B8.c2
     have fz:=Z0_B8.fz
     have KL1:=kept_st3 KL0 lB8 (.bool n2) (.slice a2 l2 c2) (.int .i64 e2)
     refine wpAnyT_late (i:=12) (by kernel_rfl) rfl (by kernel_rfl) (fun K hK9=>?_)
     go_simp
     refine hK9.out _ _ (HS0.out _ KL1) (fun hL1=>?_)
     clear hK9 K
     (try simp only[Act.put,zA,zB,zC,zD,zE,zF])
     have Q1:=Z0_B8.set (.bool n2) (.slice a2 l2 c2) (.int .i64 e2)
     have S1_1:=new_st3n S0_1 Z0_B8 (.bool n2) (.slice a2 l2 c2) (.int .i64 e2)
     have S1_2:=new_st3n S0_2 Z0_B8 (.bool n2) (.slice a2 l2 c2) (.int .i64 e2)
     have Z1_B7:=Q0.far hne (.bool n2) (.slice a2 l2 c2) (.int .i64 e2)
     obtain⟨Y1,hY1⟩:∃Y,Y=st3w Y0 B8 (.bool n2) (.slice a2 l2 c2) (.int .i64 e2):=⟨_,rfl⟩
     rw[←hY1]at Q1 KL1 S1_1 S1_2 Z1_B7
     rw[show((Y0.setCell ⟨B8,0,none⟩ (.bool n2)).setCell ⟨B8,1,none⟩ (.slice a2 l2 c2)).setCell ⟨B8,2,none⟩ (.int .i64 e2)=Y1 from hY1.symm]
     clear hY1 d0 d1 d2 fz hL1
     refine wpAnyT_done (by kernel_rfl) ?_ _
     (try simp only[Act.put,zA,zB,zC,zD,zE,zF])
     exact HNf.out B7 B8 n1 a1 l1 c1 e1 n2 a2 l2 c2 e2 Y1 ⟨lB7,Z1_B7,S1_1,lB8,Q1,S1_2,hne,KL1⟩
   ·skip
    intro K hK9
    go_simp
    have gfd9_10:=N3.new ufd9 (.bool false) (.slice none 0 0) (.int .i64 0) 43
    have kfd9_10:Kept ufd9 (ufd9.alloc (.cells #[.bool false,.slice none 0 0,.int .i64 0] 43)):=(Kept.refl ufd9).alloc _ _
    obtain⟨ufd9_10,hufd9_10⟩:∃u,u=ufd9.alloc (.cells #[.bool false,.slice none 0 0,.int .i64 0] 43):=⟨_,rfl⟩
    obtain⟨B8,hbfd9_10⟩:∃b,b=ufd9.heap.size:=⟨_,rfl⟩
    rw[←hufd9_10,←hbfd9_10]at gfd9_10
    rw[←hufd9_10]at kfd9_10 ⊢
    rw[←hbfd9_10]
    have Kfd9_10:=Kfd9.trans kfd9_10
    have lB8:X.heap.size≤B8:=by rw[hbfd9_10];exact Kfd9.below.size
    have Pfd9_10_B7:=gfd9.kept kfd9_10
    have hne:¬B7=B8:=by have:=gfd9.lt;omega
    have hne':¬B8=B7:=fun e=>hne e.symm
    clear hufd9_10 hbfd9_10
    refine hK9.out _ _ trivial (HS0.out _ Kfd9_10) (fun _ hTfd9_10=>?_)
    clear hK9 K
    (try simp only[Act.put,zA,zB,zC,zD,zE,zF])
    refine wpAnyT_one (i:=5) (by kernel_rfl) rfl ?_
    intro K hK9
    go_simp
    go_wp2_with fail
    refine(KI1.out _ (hK.trans Kfd9_10)).mono ?_
    rintro e ufd9_10_5 ⟨v1,rfl,Nfd9_10_5,kfd9_10_5⟩
    obtain⟨n1,a1,l1,c1,e1,rfl⟩:=Nfd9_10_5.shape
    have Mfd9_10_5:=new_mono Nfd9_10_5 Kfd9_10.below.size
    have Kfd9_10_5:=Kfd9_10.trans kfd9_10_5
    have Pfd9_10_5_B7:=Pfd9_10_B7.kept kfd9_10_5
    have Pfd9_10_5_B8:=gfd9_10.kept kfd9_10_5
    clear Nfd9_10_5
    refine hK9.out _ _ trivial (HS0.out _ Kfd9_10_5) (fun _ hTfd9_10_5=>?_)
    clear hK9 K
    (try simp only[Act.put,zA,zB,zC,zD,zE,zF])
    refine wpAnyT_one (i:=8) (by kernel_rfl) rfl ?_
    intro K hK9
    go_simp
    go_wp2_with fail
    refine(KI2.out _ (hK.trans Kfd9_10_5)).mono ?_
    rintro e ufd9_10_5_8 ⟨v2,rfl,Nfd9_10_5_8,kfd9_10_5_8⟩
    obtain⟨n2,a2,l2,c2,e2,rfl⟩:=Nfd9_10_5_8.shape
    have Mfd9_10_5_8:=new_mono Nfd9_10_5_8 Kfd9_10_5.below.size
    have Kfd9_10_5_8:=Kfd9_10_5.trans kfd9_10_5_8
    have Mfd9_10_5_8_1:=Mfd9_10_5.kept kfd9_10_5_8
    have Pfd9_10_5_8_B7:=Pfd9_10_5_B7.kept kfd9_10_5_8
    have Pfd9_10_5_8_B8:=Pfd9_10_5_B8.kept kfd9_10_5_8
    clear Nfd9_10_5_8
    refine hK9.out _ _ trivial (HS0.out _ Kfd9_10_5_8) (fun _ hTfd9_10_5_8=>?_)
    clear hK9 K
    (try simp only[Act.put,zA,zB,zC,zD,zE,zF])
    have d0:=Pfd9_10_5_8_B7.c0
    have d1:=Pfd9_10_5_8_B7.c1
    have d2:=Pfd9_10_5_8_B7.c2
    have fz:=Pfd9_10_5_8_B7.fz
    have KL0:=kept_st3 Kfd9_10_5_8 lB7 (.bool n1) (.slice a1 l1 c1) (.int .i64 e1)
    refine wpAnyT_late (i:=11) (by kernel_rfl) rfl (by kernel_rfl) (fun K hK9=>?_)
    go_simp
    refine hK9.out _ _ (HS0.out _ KL0) (fun hL0=>?_)
    clear hK9 K
    (try simp only[Act.put,zA,zB,zC,zD,zE,zF])
    have Q0:=Pfd9_10_5_8_B7.set (.bool n1) (.slice a1 l1 c1) (.int .i64 e1)
    have S0_1:=new_st3n Mfd9_10_5_8_1 Pfd9_10_5_8_B7 (.bool n1) (.slice a1 l1 c1) (.int .i64 e1)
    have S0_2:=new_st3n Mfd9_10_5_8 Pfd9_10_5_8_B7 (.bool n1) (.slice a1 l1 c1) (.int .i64 e1)
    have Z0_B8:=Pfd9_10_5_8_B8.far hne' (.bool n1) (.slice a1 l1 c1) (.int .i64 e1)
    obtain⟨Y0,hY0⟩:∃Y,Y=st3w ufd9_10_5_8 B7 (.bool n1) (.slice a1 l1 c1) (.int .i64 e1):=⟨_,rfl⟩
    rw[←hY0]at Q0 KL0 S0_1 S0_2 Z0_B8
    rw[show((ufd9_10_5_8.setCell ⟨B7,0,none⟩ (.bool n1)).setCell ⟨B7,1,none⟩ (.slice a1 l1 c1)).setCell ⟨B7,2,none⟩ (.int .i64 e1)=Y0 from hY0.symm]
    clear hY0 d0 d1 d2 fz hL0
    have d0:=Z0_B8.c0
    have d1:=Z0_B8.c1
    have d2:=Z0_B8.c2
    have fz:=Z0_B8.fz
    have KL1:=kept_st3 KL0 lB8 (.bool n2) (.slice a2 l2 c2) (.int .i64 e2)
    refine wpAnyT_late (i:=12) (by kernel_rfl) rfl (by kernel_rfl) (fun K hK9=>?_)
    go_simp
    refine hK9.out _ _ (HS0.out _ KL1) (fun hL1=>?_)
    clear hK9 K
    (try simp only[Act.put,zA,zB,zC,zD,zE,zF])
    have Q1:=Z0_B8.set (.bool n2) (.slice a2 l2 c2) (.int .i64 e2)
    have S1_1:=new_st3n S0_1 Z0_B8 (.bool n2) (.slice a2 l2 c2) (.int .i64 e2)
    have S1_2:=new_st3n S0_2 Z0_B8 (.bool n2) (.slice a2 l2 c2) (.int .i64 e2)
    have Z1_B7:=Q0.far hne (.bool n2) (.slice a2 l2 c2) (.int .i64 e2)
    obtain⟨Y1,hY1⟩:∃Y,Y=st3w Y0 B8 (.bool n2) (.slice a2 l2 c2) (.int .i64 e2):=⟨_,rfl⟩
    rw[←hY1]at Q1 KL1 S1_1 S1_2 Z1_B7
    rw[show((Y0.setCell ⟨B8,0,none⟩ (.bool n2)).setCell ⟨B8,1,none⟩ (.slice a2 l2 c2)).setCell ⟨B8,2,none⟩ (.int .i64 e2)=Y1 from hY1.symm]
    clear hY1 d0 d1 d2 fz hL1
    refine wpAnyT_done (by kernel_rfl) ?_ _
    (try simp only[Act.put,zA,zB,zC,zD,zE,zF])
    exact HNf.out B7 B8 n1 a1 l1 c1 e1 n2 a2 l2 c2 e2 Y1 ⟨lB7,Z1_B7,S1_1,lB8,Q1,S1_2,hne,KL1⟩
  ·skip
   intro K hK9
   go_simp
   have gfd10:=N3.new Y0 (.bool false) (.slice none 0 0) (.int .i64 0) 43
   have kfd10:Kept Y0 (Y0.alloc (.cells #[.bool false,.slice none 0 0,.int .i64 0] 43)):=(Kept.refl Y0).alloc _ _
   obtain⟨ufd10,hufd10⟩:∃u,u=Y0.alloc (.cells #[.bool false,.slice none 0 0,.int .i64 0] 43):=⟨_,rfl⟩
   obtain⟨B8,hbfd10⟩:∃b,b=Y0.heap.size:=⟨_,rfl⟩
   rw[←hufd10,←hbfd10]at gfd10
   rw[←hufd10]at kfd10 ⊢
   rw[←hbfd10]
   have Kfd10:=k0.trans kfd10
   have lB8:X.heap.size≤B8:=by rw[hbfd10];exact k0.below.size
   clear hufd10 hbfd10
   refine hK9.out _ _ trivial (HS0.out _ Kfd10) (fun _ hTfd10=>?_)
   clear hK9 K
   (try simp only[Act.put,zA,zB,zC,zD,zE,zF])
   refine wpAnyT_two (i:=5) (j:=9) (by kernel_rfl) rfl rfl ?_ ?_
   ·skip
    intro K hK9
    go_simp
    go_wp2_with fail
    refine(KI1.out _ (hK.trans Kfd10)).mono ?_
    rintro e ufd10_5 ⟨v1,rfl,Nfd10_5,kfd10_5⟩
    obtain⟨n1,a1,l1,c1,e1,rfl⟩:=Nfd10_5.shape
    have Mfd10_5:=new_mono Nfd10_5 Kfd10.below.size
    have Kfd10_5:=Kfd10.trans kfd10_5
    have Pfd10_5_B8:=gfd10.kept kfd10_5
    clear Nfd10_5
    refine hK9.out _ _ trivial (HS0.out _ Kfd10_5) (fun _ hTfd10_5=>?_)
    clear hK9 K
    (try simp only[Act.put,zA,zB,zC,zD,zE,zF])
    refine wpAnyT_two (i:=8) (j:=9) (by kernel_rfl) rfl rfl ?_ ?_
    ·skip
     intro K hK9
     go_simp
     go_wp2_with fail
     refine(KI2.out _ (hK.trans Kfd10_5)).mono ?_
     rintro e ufd10_5_8 ⟨v2,rfl,Nfd10_5_8,kfd10_5_8⟩
     obtain⟨n2,a2,l2,c2,e2,rfl⟩:=Nfd10_5_8.shape
     have Mfd10_5_8:=new_mono Nfd10_5_8 Kfd10_5.below.size
     have Kfd10_5_8:=Kfd10_5.trans kfd10_5_8
     have Mfd10_5_8_1:=Mfd10_5.kept kfd10_5_8
     have Pfd10_5_8_B8:=Pfd10_5_B8.kept kfd10_5_8
     clear Nfd10_5_8
     refine hK9.out _ _ trivial (HS0.out _ Kfd10_5_8) (fun _ hTfd10_5_8=>?_)
     clear hK9 K
     (try simp only[Act.put,zA,zB,zC,zD,zE,zF])
     refine wpAnyT_one (i:=9) (by kernel_rfl) rfl ?_
     intro K hK9
     go_simp
     have gfd10_5_8_9:=N3.new ufd10_5_8 (.bool false) (.slice none 0 0) (.int .i64 0) 43
     have kfd10_5_8_9:Kept ufd10_5_8 (ufd10_5_8.alloc (.cells #[.bool false,.slice none 0 0,.int .i64 0] 43)):=(Kept.refl ufd10_5_8).alloc _ _
     obtain⟨ufd10_5_8_9,hufd10_5_8_9⟩:∃u,u=ufd10_5_8.alloc (.cells #[.bool false,.slice none 0 0,.int .i64 0] 43):=⟨_,rfl⟩
     obtain⟨B7,hbfd10_5_8_9⟩:∃b,b=ufd10_5_8.heap.size:=⟨_,rfl⟩
     rw[←hufd10_5_8_9,←hbfd10_5_8_9]at gfd10_5_8_9
     rw[←hufd10_5_8_9]at kfd10_5_8_9 ⊢
     rw[←hbfd10_5_8_9]
     have Kfd10_5_8_9:=Kfd10_5_8.trans kfd10_5_8_9
     have lB7:X.heap.size≤B7:=by rw[hbfd10_5_8_9];exact Kfd10_5_8.below.size
     have Mfd10_5_8_9_1:=Mfd10_5_8_1.kept kfd10_5_8_9
     have Mfd10_5_8_9_2:=Mfd10_5_8.kept kfd10_5_8_9
     have Pfd10_5_8_9_B8:=Pfd10_5_8_B8.kept kfd10_5_8_9
     have hne:¬B7=B8:=by have:=Pfd10_5_8_B8.lt;omega
     have hne':¬B8=B7:=fun e=>hne e.symm
     clear hufd10_5_8_9 hbfd10_5_8_9
     refine hK9.out _ _ trivial (HS0.out _ Kfd10_5_8_9) (fun _ hTfd10_5_8_9=>?_)
     clear hK9 K
     (try simp only[Act.put,zA,zB,zC,zD,zE,zF])
     have d0:=gfd10_5_8_9.c0
     have d1:=gfd10_5_8_9.c1
     have d2:=gfd10_5_8_9.c2
     have fz:=gfd10_5_8_9.fz
     have KL0:=kept_st3 Kfd10_5_8_9 lB7 (.bool n1) (.slice a1 l1 c1) (.int .i64 e1)
     refine wpAnyT_late (i:=11) (by kernel_rfl) rfl (by kernel_rfl) (fun K hK9=>?_)
     go_simp
     refine hK9.out _ _ (HS0.out _ KL0) (fun hL0=>?_)
     clear hK9 K
     (try simp only[Act.put,zA,zB,zC,zD,zE,zF])
     have Q0:=gfd10_5_8_9.set (.bool n1) (.slice a1 l1 c1) (.int .i64 e1)
     have S0_1:=new_st3n Mfd10_5_8_9_1 gfd10_5_8_9 (.bool n1) (.slice a1 l1 c1) (.int .i64 e1)
     have S0_2:=new_st3n Mfd10_5_8_9_2 gfd10_5_8_9 (.bool n1) (.slice a1 l1 c1) (.int .i64 e1)
     have Z0_B8:=Pfd10_5_8_9_B8.far hne' (.bool n1) (.slice a1 l1 c1) (.int .i64 e1)
     obtain⟨Y0,hY0⟩:∃Y,Y=st3w ufd10_5_8_9 B7 (.bool n1) (.slice a1 l1 c1) (.int .i64 e1):=⟨_,rfl⟩
     rw[←hY0]at Q0 KL0 S0_1 S0_2 Z0_B8
     rw[show((ufd10_5_8_9.setCell ⟨B7,0,none⟩ (.bool n1)).setCell ⟨B7,1,none⟩ (.slice a1 l1 c1)).setCell ⟨B7,2,none⟩ (.int .i64 e1)=Y0 from hY0.symm]
     clear hY0 d0 d1 d2 fz hL0
     have d0:=Z0_B8.c0
     have d1:=Z0_B8.c1
     have d2:=Z0_B8.c2
     have fz:=Z0_B8.fz
     have KL1:=kept_st3 KL0 lB8 (.bool n2) (.slice a2 l2 c2) (.int .i64 e2)
     refine wpAnyT_late (i:=12) (by kernel_rfl) rfl (by kernel_rfl) (fun K hK9=>?_)
     go_simp
     refine hK9.out _ _ (HS0.out _ KL1) (fun hL1=>?_)
     clear hK9 K
     (try simp only[Act.put,zA,zB,zC,zD,zE,zF])
     have Q1:=Z0_B8.set (.bool n2) (.slice a2 l2 c2) (.int .i64 e2)
     have S1_1:=new_st3n S0_1 Z0_B8 (.bool n2) (.slice a2 l2 c2) (.int .i64 e2)
     have S1_2:=new_st3n S0_2 Z0_B8 (.bool n2) (.slice a2 l2 c2) (.int .i64 e2)
     have Z1_B7:=Q0.far hne (.bool n2) (.slice a2 l2 c2) (.int .i64 e2)
     obtain⟨Y1,hY1⟩:∃Y,Y=st3w Y0 B8 (.bool n2) (.slice a2 l2 c2) (.int .i64 e2):=⟨_,rfl⟩
     rw[←hY1]at Q1 KL1 S1_1 S1_2 Z1_B7
     rw[show((Y0.setCell ⟨B8,0,none⟩ (.bool n2)).setCell ⟨B8,1,none⟩ (.slice a2 l2 c2)).setCell ⟨B8,2,none⟩ (.int .i64 e2)=Y1 from hY1.symm]
     clear hY1 d0 d1 d2 fz hL1
     refine wpAnyT_done (by kernel_rfl) ?_ _
     (try simp only[Act.put,zA,zB,zC,zD,zE,zF])
     exact HNf.out B7 B8 n1 a1 l1 c1 e1 n2 a2 l2 c2 e2 Y1 ⟨lB7,Z1_B7,S1_1,lB8,Q1,S1_2,hne,KL1⟩
    ·skip
     intro K hK9
     go_simp
     have gfd10_5_9:=N3.new ufd10_5 (.bool false) (.slice none 0 0) (.int .i64 0) 43
     have kfd10_5_9:Kept ufd10_5 (ufd10_5.alloc (.cells #[.bool false,.slice none 0 0,.int .i64 0] 43)):=(Kept.refl ufd10_5).alloc _ _
     obtain⟨ufd10_5_9,hufd10_5_9⟩:∃u,u=ufd10_5.alloc (.cells #[.bool false,.slice none 0 0,.int .i64 0] 43):=⟨_,rfl⟩
     obtain⟨B7,hbfd10_5_9⟩:∃b,b=ufd10_5.heap.size:=⟨_,rfl⟩
     rw[←hufd10_5_9,←hbfd10_5_9]at gfd10_5_9
     rw[←hufd10_5_9]at kfd10_5_9 ⊢
     rw[←hbfd10_5_9]
     have Kfd10_5_9:=Kfd10_5.trans kfd10_5_9
     have lB7:X.heap.size≤B7:=by rw[hbfd10_5_9];exact Kfd10_5.below.size
     have Mfd10_5_9_1:=Mfd10_5.kept kfd10_5_9
     have Pfd10_5_9_B8:=Pfd10_5_B8.kept kfd10_5_9
     have hne:¬B7=B8:=by have:=Pfd10_5_B8.lt;omega
     have hne':¬B8=B7:=fun e=>hne e.symm
     clear hufd10_5_9 hbfd10_5_9
     refine hK9.out _ _ trivial (HS0.out _ Kfd10_5_9) (fun _ hTfd10_5_9=>?_)
     clear hK9 K
     (try simp only[Act.put,zA,zB,zC,zD,zE,zF])
     refine wpAnyT_one (i:=8) (by kernel_rfl) rfl ?_
     intro K hK9
     go_simp
     go_wp2_with fail
     refine(KI2.out _ (hK.trans Kfd10_5_9)).mono ?_
     rintro e ufd10_5_9_8 ⟨v2,rfl,Nfd10_5_9_8,kfd10_5_9_8⟩
     obtain⟨n2,a2,l2,c2,e2,rfl⟩:=Nfd10_5_9_8.shape
     have Mfd10_5_9_8:=new_mono Nfd10_5_9_8 Kfd10_5_9.below.size
     have Kfd10_5_9_8:=Kfd10_5_9.trans kfd10_5_9_8
     have Mfd10_5_9_8_1:=Mfd10_5_9_1.kept kfd10_5_9_8
     have Pfd10_5_9_8_B8:=Pfd10_5_9_B8.kept kfd10_5_9_8
     have Pfd10_5_9_8_B7:=gfd10_5_9.kept kfd10_5_9_8
     clear Nfd10_5_9_8
     refine hK9.out _ _ trivial (HS0.out _ Kfd10_5_9_8) (fun _ hTfd10_5_9_8=>?_)
     clear hK9 K
     (try simp only[Act.put,zA,zB,zC,zD,zE,zF])
     have d0:=Pfd10_5_9_8_B7.c0
     have d1:=Pfd10_5_9_8_B7.c1
     have d2:=Pfd10_5_9_8_B7.c2
     have fz:=Pfd10_5_9_8_B7.fz
     have KL0:=kept_st3 Kfd10_5_9_8 lB7 (.bool n1) (.slice a1 l1 c1) (.int .i64 e1)
     refine wpAnyT_late (i:=11) (by kernel_rfl) rfl (by kernel_rfl) (fun K hK9=>?_)
     go_simp
     refine hK9.out _ _ (HS0.out _ KL0) (fun hL0=>?_)
     clear hK9 K
     (try simp only[Act.put,zA,zB,zC,zD,zE,zF])
     have Q0:=Pfd10_5_9_8_B7.set (.bool n1) (.slice a1 l1 c1) (.int .i64 e1)
     have S0_1:=new_st3n Mfd10_5_9_8_1 Pfd10_5_9_8_B7 (.bool n1) (.slice a1 l1 c1) (.int .i64 e1)
     have S0_2:=new_st3n Mfd10_5_9_8 Pfd10_5_9_8_B7 (.bool n1) (.slice a1 l1 c1) (.int .i64 e1)
     have Z0_B8:=Pfd10_5_9_8_B8.far hne' (.bool n1) (.slice a1 l1 c1) (.int .i64 e1)
     obtain⟨Y0,hY0⟩:∃Y,Y=st3w ufd10_5_9_8 B7 (.bool n1) (.slice a1 l1 c1) (.int .i64 e1):=⟨_,rfl⟩
     rw[←hY0]at Q0 KL0 S0_1 S0_2 Z0_B8
     rw[show((ufd10_5_9_8.setCell ⟨B7,0,none⟩ (.bool n1)).setCell ⟨B7,1,none⟩ (.slice a1 l1 c1)).setCell ⟨B7,2,none⟩ (.int .i64 e1)=Y0 from hY0.symm]
     clear hY0 d0 d1 d2 fz hL0
     have d0:=Z0_B8.c0
     have d1:=Z0_B8.c1
     have d2:=Z0_B8.c2
     have fz:=Z0_B8.fz
     have KL1:=kept_st3 KL0 lB8 (.bool n2) (.slice a2 l2 c2) (.int .i64 e2)
     refine wpAnyT_late (i:=12) (by kernel_rfl) rfl (by kernel_rfl) (fun K hK9=>?_)
     go_simp
     refine hK9.out _ _ (HS0.out _ KL1) (fun hL1=>?_)
     clear hK9 K
     (try simp only[Act.put,zA,zB,zC,zD,zE,zF])
     have Q1:=Z0_B8.set (.bool n2) (.slice a2 l2 c2) (.int .i64 e2)
     have S1_1:=new_st3n S0_1 Z0_B8 (.bool n2) (.slice a2 l2 c2) (.int .i64 e2)
     have S1_2:=new_st3n S0_2 Z0_B8 (.bool n2) (.slice a2 l2 c2) (.int .i64 e2)
     have Z1_B7:=Q0.far hne (.bool n2) (.slice a2 l2 c2) (.int .i64 e2)
     obtain⟨Y1,hY1⟩:∃Y,Y=st3w Y0 B8 (.bool n2) (.slice a2 l2 c2) (.int .i64 e2):=⟨_,rfl⟩
     rw[←hY1]at Q1 KL1 S1_1 S1_2 Z1_B7
     rw[show((Y0.setCell ⟨B8,0,none⟩ (.bool n2)).setCell ⟨B8,1,none⟩ (.slice a2 l2 c2)).setCell ⟨B8,2,none⟩ (.int .i64 e2)=Y1 from hY1.symm]
     clear hY1 d0 d1 d2 fz hL1
     refine wpAnyT_done (by kernel_rfl) ?_ _
     (try simp only[Act.put,zA,zB,zC,zD,zE,zF])
     exact HNf.out B7 B8 n1 a1 l1 c1 e1 n2 a2 l2 c2 e2 Y1 ⟨lB7,Z1_B7,S1_1,lB8,Q1,S1_2,hne,KL1⟩
   ·skip
    intro K hK9
    go_simp
    have gfd10_9:=N3.new ufd10 (.bool false) (.slice none 0 0) (.int .i64 0) 43
    have kfd10_9:Kept ufd10 (ufd10.alloc (.cells #[.bool false,.slice none 0 0,.int .i64 0] 43)):=(Kept.refl ufd10).alloc _ _
    obtain⟨ufd10_9,hufd10_9⟩:∃u,u=ufd10.alloc (.cells #[.bool false,.slice none 0 0,.int .i64 0] 43):=⟨_,rfl⟩
    obtain⟨B7,hbfd10_9⟩:∃b,b=ufd10.heap.size:=⟨_,rfl⟩
    rw[←hufd10_9,←hbfd10_9]at gfd10_9
    rw[←hufd10_9]at kfd10_9 ⊢
    rw[←hbfd10_9]
    have Kfd10_9:=Kfd10.trans kfd10_9
    have lB7:X.heap.size≤B7:=by rw[hbfd10_9];exact Kfd10.below.size
    have Pfd10_9_B8:=gfd10.kept kfd10_9
    have hne:¬B7=B8:=by have:=gfd10.lt;omega
    have hne':¬B8=B7:=fun e=>hne e.symm
    clear hufd10_9 hbfd10_9
    refine hK9.out _ _ trivial (HS0.out _ Kfd10_9) (fun _ hTfd10_9=>?_)
    clear hK9 K
    (try simp only[Act.put,zA,zB,zC,zD,zE,zF])
    refine wpAnyT_one (i:=5) (by kernel_rfl) rfl ?_
    intro K hK9
    go_simp
    go_wp2_with fail
    refine(KI1.out _ (hK.trans Kfd10_9)).mono ?_
    rintro e ufd10_9_5 ⟨v1,rfl,Nfd10_9_5,kfd10_9_5⟩
    obtain⟨n1,a1,l1,c1,e1,rfl⟩:=Nfd10_9_5.shape
    have Mfd10_9_5:=new_mono Nfd10_9_5 Kfd10_9.below.size
    have Kfd10_9_5:=Kfd10_9.trans kfd10_9_5
    have Pfd10_9_5_B8:=Pfd10_9_B8.kept kfd10_9_5
    have Pfd10_9_5_B7:=gfd10_9.kept kfd10_9_5
    clear Nfd10_9_5
    refine hK9.out _ _ trivial (HS0.out _ Kfd10_9_5) (fun _ hTfd10_9_5=>?_)
    clear hK9 K
    (try simp only[Act.put,zA,zB,zC,zD,zE,zF])
    refine wpAnyT_one (i:=8) (by kernel_rfl) rfl ?_
    intro K hK9
    go_simp
    go_wp2_with fail
    refine(KI2.out _ (hK.trans Kfd10_9_5)).mono ?_
    rintro e ufd10_9_5_8 ⟨v2,rfl,Nfd10_9_5_8,kfd10_9_5_8⟩
    obtain⟨n2,a2,l2,c2,e2,rfl⟩:=Nfd10_9_5_8.shape
    have Mfd10_9_5_8:=new_mono Nfd10_9_5_8 Kfd10_9_5.below.size
    have Kfd10_9_5_8:=Kfd10_9_5.trans kfd10_9_5_8
    have Mfd10_9_5_8_1:=Mfd10_9_5.kept kfd10_9_5_8
    have Pfd10_9_5_8_B8:=Pfd10_9_5_B8.kept kfd10_9_5_8
    have Pfd10_9_5_8_B7:=Pfd10_9_5_B7.kept kfd10_9_5_8
    clear Nfd10_9_5_8
    refine hK9.out _ _ trivial (HS0.out _ Kfd10_9_5_8) (fun _ hTfd10_9_5_8=>?_)
    clear hK9 K
    (try simp only[Act.put,zA,zB,zC,zD,zE,zF])
    have d0:=Pfd10_9_5_8_B7.c0
    have d1:=Pfd10_9_5_8_B7.c1
    have d2:=Pfd10_9_5_8_B7.c2
    have fz:=Pfd10_9_5_8_B7.fz
    have KL0:=kept_st3 Kfd10_9_5_8 lB7 (.bool n1) (.slice a1 l1 c1) (.int .i64 e1)
    refine wpAnyT_late (i:=11) (by kernel_rfl) rfl (by kernel_rfl) (fun K hK9=>?_)
    go_simp
    refine hK9.out _ _ (HS0.out _ KL0) (fun hL0=>?_)
    clear hK9 K
    (try simp only[Act.put,zA,zB,zC,zD,zE,zF])
    have Q0:=Pfd10_9_5_8_B7.set (.bool n1) (.slice a1 l1 c1) (.int .i64 e1)
    have S0_1:=new_st3n Mfd10_9_5_8_1 Pfd10_9_5_8_B7 (.bool n1) (.slice a1 l1 c1) (.int .i64 e1)
    have S0_2:=new_st3n Mfd10_9_5_8 Pfd10_9_5_8_B7 (.bool n1) (.slice a1 l1 c1) (.int .i64 e1)
    have Z0_B8:=Pfd10_9_5_8_B8.far hne' (.bool n1) (.slice a1 l1 c1) (.int .i64 e1)
    obtain⟨Y0,hY0⟩:∃Y,Y=st3w ufd10_9_5_8 B7 (.bool n1) (.slice a1 l1 c1) (.int .i64 e1):=⟨_,rfl⟩
    rw[←hY0]at Q0 KL0 S0_1 S0_2 Z0_B8
    rw[show((ufd10_9_5_8.setCell ⟨B7,0,none⟩ (.bool n1)).setCell ⟨B7,1,none⟩ (.slice a1 l1 c1)).setCell ⟨B7,2,none⟩ (.int .i64 e1)=Y0 from hY0.symm]
    clear hY0 d0 d1 d2 fz hL0
    have d0:=Z0_B8.c0
    have d1:=Z0_B8.c1
    have d2:=Z0_B8.c2
    have fz:=Z0_B8.fz
    have KL1:=kept_st3 KL0 lB8 (.bool n2) (.slice a2 l2 c2) (.int .i64 e2)
    refine wpAnyT_late (i:=12) (by kernel_rfl) rfl (by kernel_rfl) (fun K hK9=>?_)
    go_simp
    refine hK9.out _ _ (HS0.out _ KL1) (fun hL1=>?_)
    clear hK9 K
    (try simp only[Act.put,zA,zB,zC,zD,zE,zF])
    have Q1:=Z0_B8.set (.bool n2) (.slice a2 l2 c2) (.int .i64 e2)
    have S1_1:=new_st3n S0_1 Z0_B8 (.bool n2) (.slice a2 l2 c2) (.int .i64 e2)
    have S1_2:=new_st3n S0_2 Z0_B8 (.bool n2) (.slice a2 l2 c2) (.int .i64 e2)
    have Z1_B7:=Q0.far hne (.bool n2) (.slice a2 l2 c2) (.int .i64 e2)
    obtain⟨Y1,hY1⟩:∃Y,Y=st3w Y0 B8 (.bool n2) (.slice a2 l2 c2) (.int .i64 e2):=⟨_,rfl⟩
    rw[←hY1]at Q1 KL1 S1_1 S1_2 Z1_B7
    rw[show((Y0.setCell ⟨B8,0,none⟩ (.bool n2)).setCell ⟨B8,1,none⟩ (.slice a2 l2 c2)).setCell ⟨B8,2,none⟩ (.int .i64 e2)=Y1 from hY1.symm]
    clear hY1 d0 d1 d2 fz hL1
    refine wpAnyT_done (by kernel_rfl) ?_ _
    (try simp only[Act.put,zA,zB,zC,zD,zE,zF])
    exact HNf.out B7 B8 n1 a1 l1 c1 e1 n2 a2 l2 c2 e2 Y1 ⟨lB7,Z1_B7,S1_1,lB8,Q1,S1_2,hne,KL1⟩
 case contfd=>
  intro B7 B8 n1 a1 l1 c1 e1 n2 a2 l2 c2 e2 Y hF
  obtain⟨hl7,p7,N1,hl8,p8,N2,hne,kY⟩:=hF
  have HS:Hid (∀u,Kept Y u→Kept Y u∧(u.cell? ⟨B0,0,none⟩=some (.int .i64 kd)∧u.cell? ⟨B0,1,none⟩=some (.int .i64 ba)∧u.cell? ⟨B0,2,none⟩=some (.int .i64 fa)∧u.cell? ⟨B0,3,none⟩=some (.int .i64 wa)∧u.cell? ⟨B0,4,none⟩=some (.int .i64 ev)∧u.cell? ⟨B0,5,none⟩=some (.int .i64 tt))∧(u.cell? ⟨B7,0,none⟩=some (.bool n1)∧u.cell? ⟨B7,1,none⟩=some (.slice a1 l1 c1)∧u.cell? ⟨B7,2,none⟩=some (.int .i64 e1))∧(u.cell? ⟨B8,0,none⟩=some (.bool n2)∧u.cell? ⟨B8,1,none⟩=some (.slice a2 l2 c2)∧u.cell? ⟨B8,2,none⟩=some (.int .i64 e2))):=fun u k=>⟨k,HS0.out u (kY.trans k),⟨(p7.kept k).c0,(p7.kept k).c1,(p7.kept k).c2⟩,⟨(p8.kept k).c0,(p8.kept k).c1,(p8.kept k).c2⟩⟩
  have A1:=hidr N1.numAt
  have A2:=hidr N2.numAt
  have HQ:=hidr (hK.trans kY)
  clear hl7 p7 N1 hl8 p8 N2 hne kY
  go_upto_region 2 with fail
  refine wp_region_held_drew (S:=fun u=>Kept Y u∧(u.cell? ⟨B0,0,none⟩=some (.int .i64 kd)∧u.cell? ⟨B0,1,none⟩=some (.int .i64 ba)∧u.cell? ⟨B0,2,none⟩=some (.int .i64 fa)∧u.cell? ⟨B0,3,none⟩=some (.int .i64 wa)∧u.cell? ⟨B0,4,none⟩=some (.int .i64 ev)∧u.cell? ⟨B0,5,none⟩=some (.int .i64 tt))∧(u.cell? ⟨B7,0,none⟩=some (.bool n1)∧u.cell? ⟨B7,1,none⟩=some (.slice a1 l1 c1)∧u.cell? ⟨B7,2,none⟩=some (.int .i64 e1))∧(u.cell? ⟨B8,0,none⟩=some (.bool n2)∧u.cell? ⟨B8,1,none⟩=some (.slice a2 l2 c2)∧u.cell? ⟨B8,2,none⟩=some (.int .i64 e2))) (by kernel_rfl) (HS.out _ (Kept.refl Y).drew) (fun hHeld=>?_)
  refine tk (i:=0) (v:=?_) rfl ?_
  simp only[Act.put,zA,zB,zC,zD,zE,zF]
  refine tk (i:=1) (v:=?_) rfl ?_
  simp only[Act.put,zA,zB,zC,zD,zE,zF]
  refine tk (i:=2) (v:=?_) rfl ?_
  simp only[Act.put,zA,zB,zC,zD,zE,zF]
  refine tk (i:=3) (v:=?_) rfl ?_
  simp only[Act.put,zA,zB,zC,zD,zE,zF]
  refine tk (i:=5) (v:=?_) rfl ?_
  simp only[Act.put,zA,zB,zC,zD,zE,zF]
  refine tk (i:=6) (v:=?_) rfl ?_
  simp only[Act.put,zA,zB,zC,zD,zE,zF]
  refine wpAnyH_ready (rs:=[4]) (by kernel_rfl) (by simp) ?_
  refine AllReadyH.cons rfl (fun K hK9=>?_) AllReadyH.nil
  go_simp
  go_wp2_with fail
  refine(KP1.out _ _ (HQ.out.trans (Kept.refl Y).drew) (A1.out.keptS (Kept.refl Y).drew)).mono ?_
  rintro e u3 ⟨v3,rfl,N3,k3⟩
  have r3:=(Kept.refl Y).drew.trans k3
  have e3':=HS.out _ r3
  refine hK9.out _ _ e3' (fun hHeld3=>?_)
  clear hK9 K
  (try simp only[Act.put,zA,zB,zC,zD,zE,zF])
  refine wpAnyH_ready (rs:=[7]) (by kernel_rfl) (by simp) ?_
  refine AllReadyH.cons rfl (fun K hK9=>?_) AllReadyH.nil
  go_simp
  go_wp2_with fail
  refine(KP2.out _ _ (HQ.out.trans r3) (A2.out.keptS r3)).mono ?_
  rintro e u4 ⟨v4,rfl,N4,k4⟩
  have r4:=r3.trans k4
  have e4':=HS.out _ r4
  refine hK9.out _ _ e4' (fun hHeld4=>?_)
  clear hK9 K
  (try simp only[Act.put,zA,zB,zC,zD,zE,zF])
  refine wpAnyH_ready (rs:=[8]) (by kernel_rfl) (by simp) ?_
  refine AllReadyH.cons rfl (fun K hK9=>?_) AllReadyH.nil
  go_simp
  go_wp2_with fail
  refine(KS.out _ _ _ (HQ.out.trans r4) (N3.kept k4).numAt N4.numAt).mono ?_
  rintro e u5 ⟨rfl,k5⟩
  have r5:=r4.trans k5
  have e5':=HS.out _ r5
  refine hK9.out _ _ e5' (fun hHeld5=>?_)
  clear hK9 K
  (try simp only[Act.put,zA,zB,zC,zD,zE,zF])
  refine tk (i:=9) (v:=?_) rfl ?_
  simp only[Act.put,zA,zB,zC,zD,zE,zF]
  refine wpAnyH_done (by kernel_rfl) ?_ _
  go_wp2_with fail
  go_ret
  exact⟨rfl,HQ.out.trans r5⟩
end Go.Proofs.YtnniljhdcplkgaaGreatDoor
