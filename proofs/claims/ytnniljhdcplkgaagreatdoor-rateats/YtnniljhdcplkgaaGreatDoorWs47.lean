/-  -/
import Derived.Test.YtnniljhdcplkgaaGreatDoorWs39
import Derived.Test.YtnniljhdcplkgaaGreatDoorWs42
import Derived.Test.YtnniljhdcplkgaaGreatDoorWs45
import Derived.Test.YtnniljhdcplkgaaGreatDoorWs43
import Derived.Test.YtnniljhdcplkgaaGreatDoorWs46
namespace Go.Proofs.YtnniljhdcplkgaaGreatDoor
open Go.ChangeShapes Go.WideShapes Go.ChangeAt Go.RowKit
set_option maxHeartbeats 16000000
set_option maxRecDepth 100000
set_option linter.unusedVariables false
set_option linter.unusedSimpArgs false
theorem via_tr {G:Prop}(Fact F:Nat→Bool→Option Addr→Nat→Nat→Int→Value→Value→World→Prop)(h1:Hid (∀(B7:Nat) (n1:Bool) (a1:Option Addr) (l1:Nat) (c1:Nat) (e1:Int) (j2:Value) (j3:Value) (Y:World),Fact B7 n1 a1 l1 c1 e1 j2 j3 Y→F B7 n1 a1 l1 c1 e1 j2 j3 Y)→G)(h2:∀(B7:Nat) (n1:Bool) (a1:Option Addr) (l1:Nat) (c1:Nat) (e1:Int) (j2:Value) (j3:Value) (Y:World),Fact B7 n1 a1 l1 c1 e1 j2 j3 Y→F B7 n1 a1 l1 c1 e1 j2 j3 Y):G:=h1 (hidr h2)
theorem triangle_walk (kd ba fa wa ev tt:Int)(k m2 pp d2 qq ed:Int)(hm2:IntKind.i64.wrap (2*ev)=m2)(hm0:¬m2=0)(hm0':(m2==0)=false)(hpp:k.tmod m2=pp)(hd2:IntKind.i64.wrap (m2-pp)=d2)(hqq:min pp d2=qq)(hed:IntKind.i64.wrap (ev-qq)=ed)(xb xf i1 i2 i3 m1 m3 z:Nm)(s:Int)(w:World)
  (KOb:Hid (∀u,Kept w u→Calls Tryz.prog 42 #[.int .i64 ba,.int .i64 64] u fun e w'=>∃v,e=.returned v∧New u w' v xb∧Kept u w'))
  (KOf:Hid (∀u,Kept w u→Calls Tryz.prog 42 #[.int .i64 fa,.int .i64 64] u fun e w'=>∃v,e=.returned v∧New u w' v xf∧Kept u w'))
  (KI1:Hid (∀u,Kept w u→Calls Tryz.prog 23 #[.int .i64 ed] u fun e w'=>∃v,e=.returned v∧New u w' v i1∧Kept u w'))
  (KI2:Hid (∀u,Kept w u→Calls Tryz.prog 23 #[.int .i64 qq] u fun e w'=>∃v,e=.returned v∧New u w' v i2∧Kept u w'))
  (KI3:Hid (∀u,Kept w u→Calls Tryz.prog 23 #[.int .i64 ev] u fun e w'=>∃v,e=.returned v∧New u w' v i3∧Kept u w'))
  (KM1:Hid (∀u v v',Kept w u→NumAt u v xb→NumAt u v' i1→Calls Tryz.prog 41 #[v,v'] u fun e w'=>∃v,e=.returned v∧New u w' v m1∧Kept u w'))
  (KM2:Hid (∀u v v',Kept w u→NumAt u v xf→NumAt u v' i2→Calls Tryz.prog 41 #[v,v'] u fun e w'=>∃v,e=.returned v∧New u w' v m3∧Kept u w'))
  (KA:Hid (∀u v v',Kept w u→NumAt u v m1→NumAt u v' m3→Calls Tryz.prog 94 #[v,v'] u fun e w'=>∃v,e=.returned v∧New u w' v z∧Kept u w'))
  (KQ:Hid (∀u v v',Kept w u→NumAt u v z→NumAt u v' i3→Calls Tryz.prog 40 #[v,v',.int .i64 64] u fun e w'=>e=.returned (.int .i64 s)∧Kept u w')):
  Calls Tryz.prog 65 #[.agg #[.int .i64 kd,.int .i64 ba,.int .i64 fa,.int .i64 wa,.int .i64 ev,.int .i64 tt],.int .i64 k] w fun e w'=>e=.returned (.int .i64 s)∧Kept w w':=by
 obtain⟨X,hX⟩:∃X,X=w.alloc (.cells #[.int .i64 kd,.int .i64 ba,.int .i64 fa,.int .i64 wa,.int .i64 ev,.int .i64 tt] 23):=⟨_,rfl⟩
 have hK:Kept w X:=by rw[hX];exact(Kept.refl w).alloc _ _
 have HS0:Hid (∀u,Kept X u→u.cell? ⟨w.heap.size,0,none⟩=some (.int .i64 kd)∧u.cell? ⟨w.heap.size,1,none⟩=some (.int .i64 ba)∧u.cell? ⟨w.heap.size,2,none⟩=some (.int .i64 fa)∧u.cell? ⟨w.heap.size,3,none⟩=some (.int .i64 wa)∧u.cell? ⟨w.heap.size,4,none⟩=some (.int .i64 ev)∧u.cell? ⟨w.heap.size,5,none⟩=some (.int .i64 tt)):=fun u k=>sch_cells w kd ba fa wa ev tt _ X hX u k
 obtain⟨B0,hB0⟩:∃B,B=w.heap.size:=⟨_,rfl⟩
 rw[←hB0]at HS0
 go_enter Tryz.func65,Tryz.ntmps65
 go_upto_region 1 with fail
 rw[←hX,←hB0]
 have hBX:B0<X.heap.size:=by rw[hB0,hX];simp
 clear hX hB0
 obtain⟨c0,c1,c2,c3,c4,c5⟩:=HS0.out _ (Kept.refl X)
 go_upto_region 3 with fail
 clear c0 c1 c2 c3 c4 c5
 refine wp_region_lateT [10] (fun _=>True) (fun u=>u.cell? ⟨B0,0,none⟩=some (.int .i64 kd)∧u.cell? ⟨B0,1,none⟩=some (.int .i64 ba)∧u.cell? ⟨B0,2,none⟩=some (.int .i64 fa)∧u.cell? ⟨B0,3,none⟩=some (.int .i64 wa)∧u.cell? ⟨B0,4,none⟩=some (.int .i64 ev)∧u.cell? ⟨B0,5,none⟩=some (.int .i64 tt)) (by kernel_rfl) trivial (HS0.out _ (Kept.refl X).drew) (fun _ hHeld=>?_)
 refine tkU (i:=0) (v:=?_) rfl (fun _=>trivial) hHeld ?_
 (try simp only[Act.put,zA,zB,zC,zD,zE,zF])
 refine tkU (i:=1) (v:=?_) rfl (fun _=>trivial) hHeld ?_
 (try simp only[Act.put,zA,zB,zC,zD,zE,zF])
 refine tkU (i:=3) (v:=?_) rfl (fun _=>trivial) hHeld ?_
 (try simp only[Act.put,zA,zB,zC,zD,zE,zF])
 refine tkU (i:=4) (v:=?_) rfl (fun _=>trivial) hHeld ?_
 (try simp only[Act.put,zA,zB,zC,zD,zE,zF])
 refine tkU (i:=5) (v:=?_) rfl (fun _=>trivial) hHeld ?_
 (try simp only[Act.put,zA,zB,zC,zD,zE,zF])
 refine tkU (i:=6) (v:=?_) rfl (fun _=>trivial) hHeld ?_
 (try simp only[Act.put,zA,zB,zC,zD,zE,zF])
 obtain⟨Y0,hY0⟩:∃Y0,Y0=X.drew:=⟨_,rfl⟩
 have k0:Kept X Y0:=by rw[hY0];exact(Kept.refl X).drew
 rw[←hY0]at hHeld ⊢
 clear hY0
 refine via_tr (fun B7 n1 a1 l1 c1 e1 j2 j3 Y=>X.heap.size≤B7∧N3 Y B7 (.bool n1) (.slice a1 l1 c1) (.int .i64 e1)∧New X Y (.agg #[.bool n1,.slice a1 l1 c1,.int .i64 e1]) m1∧Kept X Y) ?Ftr (fun HNt=>?treetr) ?conttr
 case treetr=>
  refine wpAnyT_two (i:=2) (j:=9) (by kernel_rfl) rfl rfl ?_ ?_
  ·skip
   intro K hK9
   go_simp
   go_wp2_with fail
   refine(KOb.out _ (hK.trans k0)).mono ?_
   rintro e utr2 ⟨v2,rfl,Ntr2,ktr2⟩
   have Mtr2:=new_mono Ntr2 k0.below.size
   have Ktr2:=k0.trans ktr2
   clear Ntr2
   refine hK9.out _ _ trivial (HS0.out _ Ktr2) (fun _ hTtr2=>?_)
   clear hK9 K
   (try simp only[Act.put,zA,zB,zC,zD,zE,zF])
   refine wpAnyT_two (i:=7) (j:=9) (by kernel_rfl) rfl rfl ?_ ?_
   ·skip
    intro K hK9
    go_simp
    go_wp2_with fail
    refine(KI1.out _ (hK.trans Ktr2)).mono ?_
    rintro e utr2_7 ⟨v3,rfl,Ntr2_7,ktr2_7⟩
    have Mtr2_7:=new_mono Ntr2_7 Ktr2.below.size
    have Ktr2_7:=Ktr2.trans ktr2_7
    have Mtr2_7_2:=Mtr2.kept ktr2_7
    clear Ntr2_7
    refine hK9.out _ _ trivial (HS0.out _ Ktr2_7) (fun _ hTtr2_7=>?_)
    clear hK9 K
    (try simp only[Act.put,zA,zB,zC,zD,zE,zF])
    refine wpAnyT_two (i:=8) (j:=9) (by kernel_rfl) rfl rfl ?_ ?_
    ·skip
     intro K hK9
     go_simp
     go_wp2_with fail
     refine(KM1.out _ _ _ (hK.trans Ktr2_7) Mtr2_7_2.numAt Mtr2_7.numAt).mono ?_
     rintro e utr2_7_8 ⟨v1,rfl,Ntr2_7_8,ktr2_7_8⟩
     obtain⟨n1,a1,l1,c1,e1,rfl⟩:=Ntr2_7_8.shape
     have Mtr2_7_8:=new_mono Ntr2_7_8 Ktr2_7.below.size
     have Ktr2_7_8:=Ktr2_7.trans ktr2_7_8
     have Mtr2_7_8_2:=Mtr2_7_2.kept ktr2_7_8
     have Mtr2_7_8_3:=Mtr2_7.kept ktr2_7_8
     clear Ntr2_7_8
     refine hK9.out _ _ trivial (HS0.out _ Ktr2_7_8) (fun _ hTtr2_7_8=>?_)
     clear hK9 K
     (try simp only[Act.put,zA,zB,zC,zD,zE,zF])
     refine wpAnyT_one (i:=9) (by kernel_rfl) rfl ?_
     intro K hK9
     go_simp
     have gtr2_7_8_9:=N3.new utr2_7_8 (.bool false) (.slice none 0 0) (.int .i64 0) 43
     have ktr2_7_8_9:Kept utr2_7_8 (utr2_7_8.alloc (.cells #[.bool false,.slice none 0 0,.int .i64 0] 43)):=(Kept.refl utr2_7_8).alloc _ _
     obtain⟨utr2_7_8_9,hutr2_7_8_9⟩:∃u,u=utr2_7_8.alloc (.cells #[.bool false,.slice none 0 0,.int .i64 0] 43):=⟨_,rfl⟩
     obtain⟨B7,hbtr2_7_8_9⟩:∃b,b=utr2_7_8.heap.size:=⟨_,rfl⟩
     rw[←hutr2_7_8_9,←hbtr2_7_8_9]at gtr2_7_8_9
     rw[←hutr2_7_8_9]at ktr2_7_8_9 ⊢
     rw[←hbtr2_7_8_9]
     have Ktr2_7_8_9:=Ktr2_7_8.trans ktr2_7_8_9
     have lB7:X.heap.size≤B7:=by rw[hbtr2_7_8_9];exact Ktr2_7_8.below.size
     have Mtr2_7_8_9_2:=Mtr2_7_8_2.kept ktr2_7_8_9
     have Mtr2_7_8_9_3:=Mtr2_7_8_3.kept ktr2_7_8_9
     have Mtr2_7_8_9_1:=Mtr2_7_8.kept ktr2_7_8_9
     clear hutr2_7_8_9 hbtr2_7_8_9
     refine hK9.out _ _ trivial (HS0.out _ Ktr2_7_8_9) (fun _ hTtr2_7_8_9=>?_)
     clear hK9 K
     (try simp only[Act.put,zA,zB,zC,zD,zE,zF])
     have d0:=gtr2_7_8_9.c0
     have d1:=gtr2_7_8_9.c1
     have d2:=gtr2_7_8_9.c2
     have fz:=gtr2_7_8_9.fz
     have KL0:=kept_st3 Ktr2_7_8_9 lB7 (.bool n1) (.slice a1 l1 c1) (.int .i64 e1)
     refine wpAnyT_late (i:=10) (by kernel_rfl) rfl (by kernel_rfl) (fun K hK9=>?_)
     go_simp
     refine hK9.out _ _ (HS0.out _ KL0) (fun hL0=>?_)
     clear hK9 K
     (try simp only[Act.put,zA,zB,zC,zD,zE,zF])
     have Q0:=gtr2_7_8_9.set (.bool n1) (.slice a1 l1 c1) (.int .i64 e1)
     have S0_1:=new_st3n Mtr2_7_8_9_1 gtr2_7_8_9 (.bool n1) (.slice a1 l1 c1) (.int .i64 e1)
     obtain⟨Y0,hY0⟩:∃Y,Y=st3w utr2_7_8_9 B7 (.bool n1) (.slice a1 l1 c1) (.int .i64 e1):=⟨_,rfl⟩
     rw[←hY0]at Q0 KL0 S0_1
     rw[show((utr2_7_8_9.setCell ⟨B7,0,none⟩ (.bool n1)).setCell ⟨B7,1,none⟩ (.slice a1 l1 c1)).setCell ⟨B7,2,none⟩ (.int .i64 e1)=Y0 from hY0.symm]
     clear hY0 d0 d1 d2 fz hL0
     refine wpAnyT_done (by kernel_rfl) ?_ _
     (try simp only[Act.put,zA,zB,zC,zD,zE,zF])
     exact HNt.out B7 n1 a1 l1 c1 e1 v2 v3 Y0 ⟨lB7,Q0,S0_1,KL0⟩
    ·skip
     intro K hK9
     go_simp
     have gtr2_7_9:=N3.new utr2_7 (.bool false) (.slice none 0 0) (.int .i64 0) 43
     have ktr2_7_9:Kept utr2_7 (utr2_7.alloc (.cells #[.bool false,.slice none 0 0,.int .i64 0] 43)):=(Kept.refl utr2_7).alloc _ _
     obtain⟨utr2_7_9,hutr2_7_9⟩:∃u,u=utr2_7.alloc (.cells #[.bool false,.slice none 0 0,.int .i64 0] 43):=⟨_,rfl⟩
     obtain⟨B7,hbtr2_7_9⟩:∃b,b=utr2_7.heap.size:=⟨_,rfl⟩
     rw[←hutr2_7_9,←hbtr2_7_9]at gtr2_7_9
     rw[←hutr2_7_9]at ktr2_7_9 ⊢
     rw[←hbtr2_7_9]
     have Ktr2_7_9:=Ktr2_7.trans ktr2_7_9
     have lB7:X.heap.size≤B7:=by rw[hbtr2_7_9];exact Ktr2_7.below.size
     have Mtr2_7_9_2:=Mtr2_7_2.kept ktr2_7_9
     have Mtr2_7_9_3:=Mtr2_7.kept ktr2_7_9
     clear hutr2_7_9 hbtr2_7_9
     refine hK9.out _ _ trivial (HS0.out _ Ktr2_7_9) (fun _ hTtr2_7_9=>?_)
     clear hK9 K
     (try simp only[Act.put,zA,zB,zC,zD,zE,zF])
     refine wpAnyT_one (i:=8) (by kernel_rfl) rfl ?_
     intro K hK9
     go_simp
     go_wp2_with fail
     refine(KM1.out _ _ _ (hK.trans Ktr2_7_9) Mtr2_7_9_2.numAt Mtr2_7_9_3.numAt).mono ?_
     rintro e utr2_7_9_8 ⟨v1,rfl,Ntr2_7_9_8,ktr2_7_9_8⟩
     obtain⟨n1,a1,l1,c1,e1,rfl⟩:=Ntr2_7_9_8.shape
     have Mtr2_7_9_8:=new_mono Ntr2_7_9_8 Ktr2_7_9.below.size
     have Ktr2_7_9_8:=Ktr2_7_9.trans ktr2_7_9_8
     have Mtr2_7_9_8_2:=Mtr2_7_9_2.kept ktr2_7_9_8
     have Mtr2_7_9_8_3:=Mtr2_7_9_3.kept ktr2_7_9_8
     have Ptr2_7_9_8_B7:=gtr2_7_9.kept ktr2_7_9_8
     clear Ntr2_7_9_8
     refine hK9.out _ _ trivial (HS0.out _ Ktr2_7_9_8) (fun _ hTtr2_7_9_8=>?_)
     clear hK9 K
     (try simp only[Act.put,zA,zB,zC,zD,zE,zF])
     have d0:=Ptr2_7_9_8_B7.c0
     have d1:=Ptr2_7_9_8_B7.c1
     have d2:=Ptr2_7_9_8_B7.c2
     have fz:=Ptr2_7_9_8_B7.fz
     have KL0:=kept_st3 Ktr2_7_9_8 lB7 (.bool n1) (.slice a1 l1 c1) (.int .i64 e1)
     refine wpAnyT_late (i:=10) (by kernel_rfl) rfl (by kernel_rfl) (fun K hK9=>?_)
     go_simp
     refine hK9.out _ _ (HS0.out _ KL0) (fun hL0=>?_)
     clear hK9 K
     (try simp only[Act.put,zA,zB,zC,zD,zE,zF])
     have Q0:=Ptr2_7_9_8_B7.set (.bool n1) (.slice a1 l1 c1) (.int .i64 e1)
     have S0_1:=new_st3n Mtr2_7_9_8 Ptr2_7_9_8_B7 (.bool n1) (.slice a1 l1 c1) (.int .i64 e1)
     obtain⟨Y0,hY0⟩:∃Y,Y=st3w utr2_7_9_8 B7 (.bool n1) (.slice a1 l1 c1) (.int .i64 e1):=⟨_,rfl⟩
     rw[←hY0]at Q0 KL0 S0_1
     rw[show((utr2_7_9_8.setCell ⟨B7,0,none⟩ (.bool n1)).setCell ⟨B7,1,none⟩ (.slice a1 l1 c1)).setCell ⟨B7,2,none⟩ (.int .i64 e1)=Y0 from hY0.symm]
     clear hY0 d0 d1 d2 fz hL0
     refine wpAnyT_done (by kernel_rfl) ?_ _
     (try simp only[Act.put,zA,zB,zC,zD,zE,zF])
     exact HNt.out B7 n1 a1 l1 c1 e1 v2 v3 Y0 ⟨lB7,Q0,S0_1,KL0⟩
   ·skip
    intro K hK9
    go_simp
    have gtr2_9:=N3.new utr2 (.bool false) (.slice none 0 0) (.int .i64 0) 43
    have ktr2_9:Kept utr2 (utr2.alloc (.cells #[.bool false,.slice none 0 0,.int .i64 0] 43)):=(Kept.refl utr2).alloc _ _
    obtain⟨utr2_9,hutr2_9⟩:∃u,u=utr2.alloc (.cells #[.bool false,.slice none 0 0,.int .i64 0] 43):=⟨_,rfl⟩
    obtain⟨B7,hbtr2_9⟩:∃b,b=utr2.heap.size:=⟨_,rfl⟩
    rw[←hutr2_9,←hbtr2_9]at gtr2_9
    rw[←hutr2_9]at ktr2_9 ⊢
    rw[←hbtr2_9]
    have Ktr2_9:=Ktr2.trans ktr2_9
    have lB7:X.heap.size≤B7:=by rw[hbtr2_9];exact Ktr2.below.size
    have Mtr2_9_2:=Mtr2.kept ktr2_9
    clear hutr2_9 hbtr2_9
    refine hK9.out _ _ trivial (HS0.out _ Ktr2_9) (fun _ hTtr2_9=>?_)
    clear hK9 K
    (try simp only[Act.put,zA,zB,zC,zD,zE,zF])
    refine wpAnyT_one (i:=7) (by kernel_rfl) rfl ?_
    intro K hK9
    go_simp
    go_wp2_with fail
    refine(KI1.out _ (hK.trans Ktr2_9)).mono ?_
    rintro e utr2_9_7 ⟨v3,rfl,Ntr2_9_7,ktr2_9_7⟩
    have Mtr2_9_7:=new_mono Ntr2_9_7 Ktr2_9.below.size
    have Ktr2_9_7:=Ktr2_9.trans ktr2_9_7
    have Mtr2_9_7_2:=Mtr2_9_2.kept ktr2_9_7
    have Ptr2_9_7_B7:=gtr2_9.kept ktr2_9_7
    clear Ntr2_9_7
    refine hK9.out _ _ trivial (HS0.out _ Ktr2_9_7) (fun _ hTtr2_9_7=>?_)
    clear hK9 K
    (try simp only[Act.put,zA,zB,zC,zD,zE,zF])
    refine wpAnyT_one (i:=8) (by kernel_rfl) rfl ?_
    intro K hK9
    go_simp
    go_wp2_with fail
    refine(KM1.out _ _ _ (hK.trans Ktr2_9_7) Mtr2_9_7_2.numAt Mtr2_9_7.numAt).mono ?_
    rintro e utr2_9_7_8 ⟨v1,rfl,Ntr2_9_7_8,ktr2_9_7_8⟩
    obtain⟨n1,a1,l1,c1,e1,rfl⟩:=Ntr2_9_7_8.shape
    have Mtr2_9_7_8:=new_mono Ntr2_9_7_8 Ktr2_9_7.below.size
    have Ktr2_9_7_8:=Ktr2_9_7.trans ktr2_9_7_8
    have Mtr2_9_7_8_2:=Mtr2_9_7_2.kept ktr2_9_7_8
    have Mtr2_9_7_8_3:=Mtr2_9_7.kept ktr2_9_7_8
    have Ptr2_9_7_8_B7:=Ptr2_9_7_B7.kept ktr2_9_7_8
    clear Ntr2_9_7_8
    refine hK9.out _ _ trivial (HS0.out _ Ktr2_9_7_8) (fun _ hTtr2_9_7_8=>?_)
    clear hK9 K
    (try simp only[Act.put,zA,zB,zC,zD,zE,zF])
    have d0:=Ptr2_9_7_8_B7.c0
    have d1:=Ptr2_9_7_8_B7.c1
    have d2:=Ptr2_9_7_8_B7.c2
    have fz:=Ptr2_9_7_8_B7.fz
    have KL0:=kept_st3 Ktr2_9_7_8 lB7 (.bool n1) (.slice a1 l1 c1) (.int .i64 e1)
    refine wpAnyT_late (i:=10) (by kernel_rfl) rfl (by kernel_rfl) (fun K hK9=>?_)
    go_simp
    refine hK9.out _ _ (HS0.out _ KL0) (fun hL0=>?_)
    clear hK9 K
    (try simp only[Act.put,zA,zB,zC,zD,zE,zF])
    have Q0:=Ptr2_9_7_8_B7.set (.bool n1) (.slice a1 l1 c1) (.int .i64 e1)
    have S0_1:=new_st3n Mtr2_9_7_8 Ptr2_9_7_8_B7 (.bool n1) (.slice a1 l1 c1) (.int .i64 e1)
    obtain⟨Y0,hY0⟩:∃Y,Y=st3w utr2_9_7_8 B7 (.bool n1) (.slice a1 l1 c1) (.int .i64 e1):=⟨_,rfl⟩
    rw[←hY0]at Q0 KL0 S0_1
    rw[show((utr2_9_7_8.setCell ⟨B7,0,none⟩ (.bool n1)).setCell ⟨B7,1,none⟩ (.slice a1 l1 c1)).setCell ⟨B7,2,none⟩ (.int .i64 e1)=Y0 from hY0.symm]
    clear hY0 d0 d1 d2 fz hL0
    refine wpAnyT_done (by kernel_rfl) ?_ _
    (try simp only[Act.put,zA,zB,zC,zD,zE,zF])
    exact HNt.out B7 n1 a1 l1 c1 e1 v2 v3 Y0 ⟨lB7,Q0,S0_1,KL0⟩
  ·skip
   intro K hK9
   go_simp
   have gtr9:=N3.new Y0 (.bool false) (.slice none 0 0) (.int .i64 0) 43
   have ktr9:Kept Y0 (Y0.alloc (.cells #[.bool false,.slice none 0 0,.int .i64 0] 43)):=(Kept.refl Y0).alloc _ _
   obtain⟨utr9,hutr9⟩:∃u,u=Y0.alloc (.cells #[.bool false,.slice none 0 0,.int .i64 0] 43):=⟨_,rfl⟩
   obtain⟨B7,hbtr9⟩:∃b,b=Y0.heap.size:=⟨_,rfl⟩
   rw[←hutr9,←hbtr9]at gtr9
   rw[←hutr9]at ktr9 ⊢
   rw[←hbtr9]
   have Ktr9:=k0.trans ktr9
   have lB7:X.heap.size≤B7:=by rw[hbtr9];exact k0.below.size
   clear hutr9 hbtr9
   refine hK9.out _ _ trivial (HS0.out _ Ktr9) (fun _ hTtr9=>?_)
   clear hK9 K
   (try simp only[Act.put,zA,zB,zC,zD,zE,zF])
   refine wpAnyT_one (i:=2) (by kernel_rfl) rfl ?_
   intro K hK9
   go_simp
   go_wp2_with fail
   refine(KOb.out _ (hK.trans Ktr9)).mono ?_
   rintro e utr9_2 ⟨v2,rfl,Ntr9_2,ktr9_2⟩
   have Mtr9_2:=new_mono Ntr9_2 Ktr9.below.size
   have Ktr9_2:=Ktr9.trans ktr9_2
   have Ptr9_2_B7:=gtr9.kept ktr9_2
   clear Ntr9_2
   refine hK9.out _ _ trivial (HS0.out _ Ktr9_2) (fun _ hTtr9_2=>?_)
   clear hK9 K
   (try simp only[Act.put,zA,zB,zC,zD,zE,zF])
   refine wpAnyT_one (i:=7) (by kernel_rfl) rfl ?_
   intro K hK9
   go_simp
   go_wp2_with fail
   refine(KI1.out _ (hK.trans Ktr9_2)).mono ?_
   rintro e utr9_2_7 ⟨v3,rfl,Ntr9_2_7,ktr9_2_7⟩
   have Mtr9_2_7:=new_mono Ntr9_2_7 Ktr9_2.below.size
   have Ktr9_2_7:=Ktr9_2.trans ktr9_2_7
   have Mtr9_2_7_2:=Mtr9_2.kept ktr9_2_7
   have Ptr9_2_7_B7:=Ptr9_2_B7.kept ktr9_2_7
   clear Ntr9_2_7
   refine hK9.out _ _ trivial (HS0.out _ Ktr9_2_7) (fun _ hTtr9_2_7=>?_)
   clear hK9 K
   (try simp only[Act.put,zA,zB,zC,zD,zE,zF])
   refine wpAnyT_one (i:=8) (by kernel_rfl) rfl ?_
   intro K hK9
   go_simp
   go_wp2_with fail
   refine(KM1.out _ _ _ (hK.trans Ktr9_2_7) Mtr9_2_7_2.numAt Mtr9_2_7.numAt).mono ?_
   rintro e utr9_2_7_8 ⟨v1,rfl,Ntr9_2_7_8,ktr9_2_7_8⟩
   obtain⟨n1,a1,l1,c1,e1,rfl⟩:=Ntr9_2_7_8.shape
   have Mtr9_2_7_8:=new_mono Ntr9_2_7_8 Ktr9_2_7.below.size
   have Ktr9_2_7_8:=Ktr9_2_7.trans ktr9_2_7_8
   have Mtr9_2_7_8_2:=Mtr9_2_7_2.kept ktr9_2_7_8
   have Mtr9_2_7_8_3:=Mtr9_2_7.kept ktr9_2_7_8
   have Ptr9_2_7_8_B7:=Ptr9_2_7_B7.kept ktr9_2_7_8
   clear Ntr9_2_7_8
   refine hK9.out _ _ trivial (HS0.out _ Ktr9_2_7_8) (fun _ hTtr9_2_7_8=>?_)
   clear hK9 K
   (try simp only[Act.put,zA,zB,zC,zD,zE,zF])
   have d0:=Ptr9_2_7_8_B7.c0
   have d1:=Ptr9_2_7_8_B7.c1
   have d2:=Ptr9_2_7_8_B7.c2
   have fz:=Ptr9_2_7_8_B7.fz
   have KL0:=kept_st3 Ktr9_2_7_8 lB7 (.bool n1) (.slice a1 l1 c1) (.int .i64 e1)
   refine wpAnyT_late (i:=10) (by kernel_rfl) rfl (by kernel_rfl) (fun K hK9=>?_)
   go_simp
   refine hK9.out _ _ (HS0.out _ KL0) (fun hL0=>?_)
   clear hK9 K
   (try simp only[Act.put,zA,zB,zC,zD,zE,zF])
   have Q0:=Ptr9_2_7_8_B7.set (.bool n1) (.slice a1 l1 c1) (.int .i64 e1)
   have S0_1:=new_st3n Mtr9_2_7_8 Ptr9_2_7_8_B7 (.bool n1) (.slice a1 l1 c1) (.int .i64 e1)
   obtain⟨Y0,hY0⟩:∃Y,Y=st3w utr9_2_7_8 B7 (.bool n1) (.slice a1 l1 c1) (.int .i64 e1):=⟨_,rfl⟩
   rw[←hY0]at Q0 KL0 S0_1
   rw[show((utr9_2_7_8.setCell ⟨B7,0,none⟩ (.bool n1)).setCell ⟨B7,1,none⟩ (.slice a1 l1 c1)).setCell ⟨B7,2,none⟩ (.int .i64 e1)=Y0 from hY0.symm]
   clear hY0 d0 d1 d2 fz hL0
   refine wpAnyT_done (by kernel_rfl) ?_ _
   (try simp only[Act.put,zA,zB,zC,zD,zE,zF])
   exact HNt.out B7 n1 a1 l1 c1 e1 v2 v3 Y0 ⟨lB7,Q0,S0_1,KL0⟩
 case conttr=>
  intro B7 n1 a1 l1 c1 e1 j2 j3 Y hF
  obtain⟨hl7,p7,N1,kY⟩:=hF
  obtain⟨c0,c1',c2',c3,c4,c5⟩:=HS0.out _ kY
  have HP7:=hidr (And.intro p7 (And.intro N1 kY))
  have HQ:=hidr (hK.trans kY)
  clear hl7 p7 N1 kY
  go_upto_region 5 with (first|(go_at_call 42;refine(KOf.out _ HQ.out).mono ?_;rintro e u1 ⟨v4,rfl,N4,k4⟩)|(go_at_call 23;refine(KI2.out _ (HQ.out.trans k4)).mono ?_;rintro e u2 ⟨v5,rfl,N5,k5⟩)|(go_at_call 41;refine(KM2.out _ _ _ (HQ.out.trans (k4.trans k5)) (N4.kept k5).numAt N5.numAt).mono ?_;rintro e u3 ⟨v6,rfl,N6,k6⟩;obtain⟨n2,a2,l2,c2,e2,rfl⟩:=N6.shape))
  clear c0 c1' c2' c3 c4 c5
  obtain⟨Y2,hY2⟩:∃Y,Y=u3.alloc (.cells #[.bool n2,.slice a2 l2 c2,.int .i64 e2] 43):=⟨_,rfl⟩
  have kY2:Kept u3 Y2:=by rw[hY2];exact(Kept.refl u3).alloc _ _
  have p8:N3 Y2 u3.heap.size (.bool n2) (.slice a2 l2 c2) (.int .i64 e2):=by rw[hY2];exact N3.new u3 _ _ _ 43
  obtain⟨B8,hB8⟩:∃B,B=u3.heap.size:=⟨_,rfl⟩
  rw[←hB8]at p8
  rw[←hY2,←hB8]
  clear hY2 hB8
  have k46:=k4.trans (k5.trans (k6.trans kY2))
  have HS:Hid (∀u,Kept Y2 u→Kept Y2 u∧(u.cell? ⟨B0,0,none⟩=some (.int .i64 kd)∧u.cell? ⟨B0,1,none⟩=some (.int .i64 ba)∧u.cell? ⟨B0,2,none⟩=some (.int .i64 fa)∧u.cell? ⟨B0,3,none⟩=some (.int .i64 wa)∧u.cell? ⟨B0,4,none⟩=some (.int .i64 ev)∧u.cell? ⟨B0,5,none⟩=some (.int .i64 tt))∧(u.cell? ⟨B7,0,none⟩=some (.bool n1)∧u.cell? ⟨B7,1,none⟩=some (.slice a1 l1 c1)∧u.cell? ⟨B7,2,none⟩=some (.int .i64 e1))∧(u.cell? ⟨B8,0,none⟩=some (.bool n2)∧u.cell? ⟨B8,1,none⟩=some (.slice a2 l2 c2)∧u.cell? ⟨B8,2,none⟩=some (.int .i64 e2))):=fun u k=>⟨k,HS0.out u (HP7.out.2.2.trans (k46.trans k)),⟨(HP7.out.1.kept (k46.trans k)).c0,(HP7.out.1.kept (k46.trans k)).c1,(HP7.out.1.kept (k46.trans k)).c2⟩,⟨(p8.kept k).c0,(p8.kept k).c1,(p8.kept k).c2⟩⟩
  have A1:=hidr (HP7.out.2.1.kept k46).numAt
  have A2:=hidr (N6.kept kY2).numAt
  have HQ2:=hidr (HQ.out.trans k46)
  clear k4 k5 k6 kY2 k46 p8 N4 N5 N6
  refine wp_region_held_drew (S:=fun u=>Kept Y2 u∧(u.cell? ⟨B0,0,none⟩=some (.int .i64 kd)∧u.cell? ⟨B0,1,none⟩=some (.int .i64 ba)∧u.cell? ⟨B0,2,none⟩=some (.int .i64 fa)∧u.cell? ⟨B0,3,none⟩=some (.int .i64 wa)∧u.cell? ⟨B0,4,none⟩=some (.int .i64 ev)∧u.cell? ⟨B0,5,none⟩=some (.int .i64 tt))∧(u.cell? ⟨B7,0,none⟩=some (.bool n1)∧u.cell? ⟨B7,1,none⟩=some (.slice a1 l1 c1)∧u.cell? ⟨B7,2,none⟩=some (.int .i64 e1))∧(u.cell? ⟨B8,0,none⟩=some (.bool n2)∧u.cell? ⟨B8,1,none⟩=some (.slice a2 l2 c2)∧u.cell? ⟨B8,2,none⟩=some (.int .i64 e2))) (by kernel_rfl) (HS.out _ (Kept.refl Y2).drew) (fun hHeld=>?_)
  refine tk (i:=0) (v:=?_) rfl ?_
  simp only[Act.put,zA,zB,zC,zD,zE,zF]
  refine tk (i:=1) (v:=?_) rfl ?_
  simp only[Act.put,zA,zB,zC,zD,zE,zF]
  refine tk (i:=3) (v:=?_) rfl ?_
  simp only[Act.put,zA,zB,zC,zD,zE,zF]
  refine tk (i:=4) (v:=?_) rfl ?_
  simp only[Act.put,zA,zB,zC,zD,zE,zF]
  refine wpAnyH_ready (rs:=[2]) (by kernel_rfl) (by simp) ?_
  refine AllReadyH.cons rfl (fun K hK9=>?_) AllReadyH.nil
  go_simp
  go_wp2_with fail
  refine(KA.out _ _ _ (HQ2.out.trans (Kept.refl Y2).drew) (A1.out.keptS (Kept.refl Y2).drew) (A2.out.keptS (Kept.refl Y2).drew)).mono ?_
  rintro e u3 ⟨v7,rfl,N7,k7⟩
  have r3:=(Kept.refl Y2).drew.trans k7
  have e3':=HS.out _ r3
  refine hK9.out _ _ e3' (fun hHeld3=>?_)
  clear hK9 K
  (try simp only[Act.put,zA,zB,zC,zD,zE,zF])
  refine wpAnyH_ready (rs:=[5]) (by kernel_rfl) (by simp) ?_
  refine AllReadyH.cons rfl (fun K hK9=>?_) AllReadyH.nil
  go_simp
  go_wp2_with fail
  refine(KI3.out _ (HQ2.out.trans r3)).mono ?_
  rintro e u4 ⟨v8,rfl,N8,k8⟩
  have r4:=r3.trans k8
  have e4':=HS.out _ r4
  refine hK9.out _ _ e4' (fun hHeld4=>?_)
  clear hK9 K
  (try simp only[Act.put,zA,zB,zC,zD,zE,zF])
  refine wpAnyH_ready (rs:=[6]) (by kernel_rfl) (by simp) ?_
  refine AllReadyH.cons rfl (fun K hK9=>?_) AllReadyH.nil
  go_simp
  go_wp2_with fail
  refine(KQ.out _ _ _ (HQ2.out.trans r4) (N7.kept k8).numAt N8.numAt).mono ?_
  rintro e u5 ⟨rfl,k9⟩
  have r5:=r4.trans k9
  have e5':=HS.out _ r5
  refine hK9.out _ _ e5' (fun hHeld5=>?_)
  clear hK9 K
  (try simp only[Act.put,zA,zB,zC,zD,zE,zF])
  refine tk (i:=7) (v:=?_) rfl ?_
  simp only[Act.put,zA,zB,zC,zD,zE,zF]
  refine wpAnyH_done (by kernel_rfl) ?_ _
  go_wp2_with fail
  go_ret
  exact⟨rfl,HQ2.out.trans r5⟩
end Go.Proofs.YtnniljhdcplkgaaGreatDoor

namespace Go.Proofs.YtnniljhdcplkgaaGreatDoor
open Go.ChangeShapes Go.WideShapes Go.ChangeAt Go.RowKit
set_option maxHeartbeats 16000000
set_option maxRecDepth 100000
set_option linter.unusedVariables false
set_option linter.unusedSimpArgs false
theorem vz_ne {Z:Int}{x:Nm}(h:Vz 0 Z x)(hz:Z≠0):x.mag≠[]:=fun e=>by
 have hv:=h.val
 unfold vz at hv
 rw[e]at hv
 apply hz
 rw[←hv]
 cases x.neg<;>simp[sg,nv]
end Go.Proofs.YtnniljhdcplkgaaGreatDoor

namespace Go.Proofs.YtnniljhdcplkgaaGreatDoor
open Go.ChangeShapes Go.WideShapes Go.ChangeAt Go.RowKit
set_option maxHeartbeats 16000000
set_option maxRecDepth 100000
set_option linter.unusedVariables false
set_option linter.unusedSimpArgs false
theorem cnt_iff {n:Int}(h:cnt n=true):0≤n∧n≤1099511627776:=of_decide_eq_true h
end Go.Proofs.YtnniljhdcplkgaaGreatDoor
