/-  -/
import Derived.Test.YtnniljhdcplkgaaGreatDoorWs42
import Derived.Test.YtnniljhdcplkgaaGreatDoorWs43
namespace Go.Proofs.YtnniljhdcplkgaaGreatDoor
open Go.ChangeShapes Go.WideShapes Go.ChangeAt Go.RowKit
set_option maxHeartbeats 16000000
set_option maxRecDepth 100000
set_option linter.unusedVariables false
set_option linter.unusedSimpArgs false
theorem ni_st3 {l:List Nat}{W:World}{v:Value}{r:Nm}{b:Nat}(h:NI l W v r)(hb:b∈l)(x y z:Value):NI l (st3w W b x y z) v r:=ni_set (ni_set (ni_set h hb 0 x) hb 1 y) hb 2 z
theorem ni_nil {l:List Nat}{W:World}{v:Value}{r:Nm}(h:NI l W v r):NI [] W v r:=h.imp fun _ _ h=>by cases h
def Lt (l:List Nat)(u:World):Prop:=∀b∈l,b<u.heap.size
def Dwh (n:Int)(r:Nm):Prop:=∀(l:List Nat) (u:World),Lt l u→Calls Tryz.prog 16 #[.int .i64 n] u fun e w'=>∃v,e=.returned v∧NI l w' v r∧Kept u w'
def Dnu (b:Int)(r:Nm):Prop:=∀(l:List Nat) (u:World),Lt l u→Calls Tryz.prog 15 #[.int .i64 b] u fun e w'=>∃v,e=.returned v∧NI l w' v r∧Kept u w'
def Dtm (x y r:Nm):Prop:=∀(l:List Nat) (u:World) (va vb:Value),Lt l u→NI l u va x→NI l u vb y→Calls Tryz.prog 14 #[va,vb] u fun e w'=>∃v,e=.returned v∧NI l w' v r∧Kept u w'
def Dmi (x y r:Nm):Prop:=∀(l:List Nat) (u:World) (va vb:Value),Lt l u→NI l u va x→NI l u vb y→Calls Tryz.prog 36 #[va,vb] u fun e w'=>∃v,e=.returned v∧NI l w' v r∧Kept u w'
def Dpl (x y r:Nm):Prop:=∀(l:List Nat) (u:World) (va vb:Value),Lt l u→NI l u va x→NI l u vb y→Calls Tryz.prog 35 #[va,vb] u fun e w'=>∃v,e=.returned v∧NI l w' v r∧Kept u w'
def Dpw (x:Nm)(n:Int)(r:Nm):Prop:=∀(u:World) (va:Value),NI [] u va x→Calls Tryz.prog 32 #[va,.int .i64 n] u fun e w'=>∃v,e=.returned v∧NI [] w' v r∧Kept u w'
def Dqt (x y:Nm)(s:Int):Prop:=∀(u:World) (va vb:Value),NI [] u va x→NI [] u vb y→Calls Tryz.prog 13 #[va,vb,.int .i64 64,.int .i64 0] u fun e w'=>e=.returned (.int .i64 s)∧Kept u w'
def Drq (x y:Nm)(s:Int):Prop:=∀(u:World) (va vb:Value),NI [] u va x→NI [] u vb y→Calls Tryz.prog 34 #[va,vb,.int .i64 64] u fun e w'=>e=.returned (.int .i64 s)∧Kept u w'
def Dnr (x:Nm)(s:Int):Prop:=∀(u:World) (va:Value),NI [] u va x→Calls Tryz.prog 31 #[va,.int .i64 64] u fun e w'=>e=.returned (.int .i64 s)∧Kept u w'
theorem lt0 (u:World):Lt [] u:=fun b hb=>by cases hb
theorem lt1 {b:Nat}{u:World}(h:b<u.heap.size):Lt [b] u:=fun c hc=>by
 rw[List.mem_singleton]at hc
 rw[hc]
 exact h
theorem lt2 {b d:Nat}{u:World}(h:b<u.heap.size)(k:d<u.heap.size):Lt [b,d] u:=fun c hc=>by
 rcases List.mem_cons.1 hc with e|e
 ·rw[e]
  exact h
 ·rw[List.mem_singleton]at e
  rw[e]
  exact k
theorem via_bh {G:Prop}(Fact F:Nat→Nat→Bool→Option Addr→Nat→Nat→Int→Bool→Option Addr→Nat→Nat→Int→World→Prop)(h1:Hid (∀(B5:Nat) (B6:Nat) (n1:Bool) (a1:Option Addr) (l1:Nat) (c1:Nat) (e1:Int) (n2:Bool) (a2:Option Addr) (l2:Nat) (c2:Nat) (e2:Int) (Y:World),Fact B5 B6 n1 a1 l1 c1 e1 n2 a2 l2 c2 e2 Y→F B5 B6 n1 a1 l1 c1 e1 n2 a2 l2 c2 e2 Y)→G)(h2:∀(B5:Nat) (B6:Nat) (n1:Bool) (a1:Option Addr) (l1:Nat) (c1:Nat) (e1:Int) (n2:Bool) (a2:Option Addr) (l2:Nat) (c2:Nat) (e2:Int) (Y:World),Fact B5 B6 n1 a1 l1 c1 e1 n2 a2 l2 c2 e2 Y→F B5 B6 n1 a1 l1 c1 e1 n2 a2 l2 c2 e2 Y):G:=h1 (hidr h2)
theorem via_b4 {G:Prop}(Fact F:Nat→Bool→Option Addr→Nat→Nat→Int→Value→Value→Value→Value→Value→World→Prop)(h1:Hid (∀(B9:Nat) (n41:Bool) (a41:Option Addr) (l41:Nat) (c41:Nat) (e41:Int) (j31:Value) (j32:Value) (j33:Value) (j34:Value) (j35:Value) (Y:World),Fact B9 n41 a41 l41 c41 e41 j31 j32 j33 j34 j35 Y→F B9 n41 a41 l41 c41 e41 j31 j32 j33 j34 j35 Y)→G)(h2:∀(B9:Nat) (n41:Bool) (a41:Option Addr) (l41:Nat) (c41:Nat) (e41:Int) (j31:Value) (j32:Value) (j33:Value) (j34:Value) (j35:Value) (Y:World),Fact B9 n41 a41 l41 c41 e41 j31 j32 j33 j34 j35 Y→F B9 n41 a41 l41 c41 e41 j31 j32 j33 j34 j35 Y):G:=h1 (hidr h2)
theorem behind_walk (kd ba fa wa ev tt:Int)(k s:Int)(nb nf:Nm)(w:World)(KN1:Hid (Dnu ba nb))(KN2:Hid (Dnu fa nf))
  (KIND:Hid ((kd=1∧(ev=0→False)∧∃(q:Int) (np nt:Nm),IntKind.i64.wrap (k.tdiv ev)=q∧Dpw nf (min q 900) np∧Dtm nb np nt∧Dnr nt s)∨
   (kd=2∧tt≤k∧s=0)∨
   (kd=2∧¬tt≤k∧∃(d:Int) (n1 n2 n3:Nm),IntKind.i64.wrap (tt-k)=d∧Dwh d n1∧Dtm nb n1 n2∧Dwh tt n3∧Dqt n2 n3 s)∨
   (kd=3∧∃(d:Int) (n1 n2 n3 n4:Nm),IntKind.i64.wrap (ev+k)=d∧Dtm nb nb n1∧Dwh ev n2∧Dtm n1 n2 n3∧Dwh d n4∧Drq n3 n4 s)∨
   (kd=4∧∃(t p d q:Int) (n1 n2 n3 n4 n5 n6:Nm),IntKind.i64.wrap (2*ev)=t∧(t=0→False)∧k.tmod t=p∧IntKind.i64.wrap (t-p)=d∧min p d=q∧Dwh ev n1∧Dtm nb n1 n2∧Dmi nf nb n3∧Dwh q n4∧Dtm n3 n4 n5∧Dpl n2 n5 n6∧Dqt n6 n1 s)∨
   (kd=5∧tt≤k∧s=0)∨
   (kd=5∧¬tt≤k∧∃(d:Int) (n1 n2 n3 n4 n5:Nm),IntKind.i64.wrap (tt-k)=d∧Dwh d n1∧Dpw n1 ev n2∧Dtm nb n2 n3∧Dwh tt n4∧Dpw n4 ev n5∧Dqt n3 n5 s)∨
   (kd=0∧Dnr nb s))):
  Calls Tryz.prog 17 #[.agg #[.int .i64 kd,.int .i64 ba,.int .i64 fa,.int .i64 wa,.int .i64 ev,.int .i64 tt],.int .i64 k] w fun e w'=>e=.returned (.int .i64 s)∧Kept w w':=by
 obtain⟨X,hX⟩:∃X,X=w.alloc (.cells #[.int .i64 kd,.int .i64 ba,.int .i64 fa,.int .i64 wa,.int .i64 ev,.int .i64 tt] 23):=⟨_,rfl⟩
 have hK:Kept w X:=by rw[hX];exact(Kept.refl w).alloc _ _
 have HS0:Hid (∀u,Kept X u→u.cell? ⟨w.heap.size,0,none⟩=some (.int .i64 kd)∧u.cell? ⟨w.heap.size,1,none⟩=some (.int .i64 ba)∧u.cell? ⟨w.heap.size,2,none⟩=some (.int .i64 fa)∧u.cell? ⟨w.heap.size,3,none⟩=some (.int .i64 wa)∧u.cell? ⟨w.heap.size,4,none⟩=some (.int .i64 ev)∧u.cell? ⟨w.heap.size,5,none⟩=some (.int .i64 tt)):=fun u k=>sch_cells w kd ba fa wa ev tt _ X hX u k
 obtain⟨B0,hB0⟩:∃B,B=w.heap.size:=⟨_,rfl⟩
 rw[←hB0]at HS0
 go_enter Tryz.func17,Tryz.ntmps17
 go_upto_region 1 with fail
 rw[←hX,←hB0]
 have hBX:B0<X.heap.size:=by rw[hB0,hX];simp
 clear hX hB0
 obtain⟨c0,c1,c2,c3,c4,c5⟩:=HS0.out _ (Kept.refl X)
 clear c0 c1 c2 c3 c4 c5
 refine wp_region_lateT [8,9] (fun _=>True) (fun u=>u.cell? ⟨B0,0,none⟩=some (.int .i64 kd)∧u.cell? ⟨B0,1,none⟩=some (.int .i64 ba)∧u.cell? ⟨B0,2,none⟩=some (.int .i64 fa)∧u.cell? ⟨B0,3,none⟩=some (.int .i64 wa)∧u.cell? ⟨B0,4,none⟩=some (.int .i64 ev)∧u.cell? ⟨B0,5,none⟩=some (.int .i64 tt)) (by kernel_rfl) trivial (HS0.out _ (Kept.refl X).drew) (fun _ hHeld=>?_)
 refine tkU (i:=0) (v:=?_) rfl (fun _=>trivial) hHeld ?_
 (try simp only[Act.put,zA,zB,zC,zD,zE,zF])
 refine tkU (i:=1) (v:=?_) rfl (fun _=>trivial) hHeld ?_
 (try simp only[Act.put,zA,zB,zC,zD,zE,zF])
 refine tkU (i:=3) (v:=?_) rfl (fun _=>trivial) hHeld ?_
 (try simp only[Act.put,zA,zB,zC,zD,zE,zF])
 refine tkU (i:=4) (v:=?_) rfl (fun _=>trivial) hHeld ?_
 (try simp only[Act.put,zA,zB,zC,zD,zE,zF])
 obtain⟨Y0,hY0⟩:∃Y0,Y0=X.drew:=⟨_,rfl⟩
 have k0:Kept X Y0:=by rw[hY0];exact(Kept.refl X).drew
 rw[←hY0]at hHeld ⊢
 clear hY0
 refine via_bh (fun B5 B6 n1 a1 l1 c1 e1 n2 a2 l2 c2 e2 Y=>X.heap.size≤B5∧N3 Y B5 (.bool n1) (.slice a1 l1 c1) (.int .i64 e1)∧NI [] Y (.agg #[.bool n1,.slice a1 l1 c1,.int .i64 e1]) nb∧X.heap.size≤B6∧N3 Y B6 (.bool n2) (.slice a2 l2 c2) (.int .i64 e2)∧NI [] Y (.agg #[.bool n2,.slice a2 l2 c2,.int .i64 e2]) nf∧B5≠B6∧Kept X Y) ?Fbh (fun HNf=>?treebh) ?contbh
 case treebh=>
  refine wpAnyT_three (i:=2) (j:=6) (m:=7) (by kernel_rfl) rfl rfl rfl ?_ ?_ ?_
  ·skip
   intro K hK9
   go_simp
   refine(KN1.out [] _ (lt0 _)).mono ?_
   rintro e ubh2 ⟨v1,rfl,Mbh2,kbh2⟩
   obtain⟨n1,a1,l1,c1,e1,rfl⟩:=Mbh2.shape5
   have Kbh2:=k0.trans kbh2
   refine hK9.out _ _ trivial (HS0.out _ Kbh2) (fun _ hTbh2=>?_)
   clear hK9 K
   (try simp only[Act.put,zA,zB,zC,zD,zE,zF])
   refine wpAnyT_three (i:=5) (j:=6) (m:=7) (by kernel_rfl) rfl rfl rfl ?_ ?_ ?_
   ·skip
    intro K hK9
    go_simp
    refine(KN2.out [] _ (lt0 _)).mono ?_
    rintro e ubh2_5 ⟨v2,rfl,Mbh2_5,kbh2_5⟩
    obtain⟨n2,a2,l2,c2,e2,rfl⟩:=Mbh2_5.shape5
    have Kbh2_5:=Kbh2.trans kbh2_5
    have Mbh2_5_1:=Mbh2.kept kbh2_5
    refine hK9.out _ _ trivial (HS0.out _ Kbh2_5) (fun _ hTbh2_5=>?_)
    clear hK9 K
    (try simp only[Act.put,zA,zB,zC,zD,zE,zF])
    refine wpAnyT_two (i:=6) (j:=7) (by kernel_rfl) rfl rfl ?_ ?_
    ·skip
     intro K hK9
     go_simp
     have gbh2_5_6:=N3.new ubh2_5 (.bool false) (.slice none 0 0) (.int .i64 0) 43
     have kbh2_5_6:Kept ubh2_5 (ubh2_5.alloc (.cells #[.bool false,.slice none 0 0,.int .i64 0] 43)):=(Kept.refl ubh2_5).alloc _ _
     obtain⟨ubh2_5_6,hubh2_5_6⟩:∃u,u=ubh2_5.alloc (.cells #[.bool false,.slice none 0 0,.int .i64 0] 43):=⟨_,rfl⟩
     obtain⟨B5,hbbh2_5_6⟩:∃b,b=ubh2_5.heap.size:=⟨_,rfl⟩
     rw[←hubh2_5_6,←hbbh2_5_6]at gbh2_5_6
     rw[←hubh2_5_6]at kbh2_5_6 ⊢
     rw[←hbbh2_5_6]
     have Kbh2_5_6:=Kbh2_5.trans kbh2_5_6
     have lB5:X.heap.size≤B5:=by rw[hbbh2_5_6];exact Kbh2_5.below.size
     have Mbh2_5_6_1:=ni_alloc B5 Mbh2_5_1 kbh2_5_6 hbbh2_5_6
     have Mbh2_5_6_2:=ni_alloc B5 Mbh2_5 kbh2_5_6 hbbh2_5_6
     clear hubh2_5_6 hbbh2_5_6
     refine hK9.out _ _ trivial (HS0.out _ Kbh2_5_6) (fun _ hTbh2_5_6=>?_)
     clear hK9 K
     (try simp only[Act.put,zA,zB,zC,zD,zE,zF])
     refine wpAnyT_one (i:=7) (by kernel_rfl) rfl ?_
     intro K hK9
     go_simp
     have gbh2_5_6_7:=N3.new ubh2_5_6 (.bool false) (.slice none 0 0) (.int .i64 0) 43
     have kbh2_5_6_7:Kept ubh2_5_6 (ubh2_5_6.alloc (.cells #[.bool false,.slice none 0 0,.int .i64 0] 43)):=(Kept.refl ubh2_5_6).alloc _ _
     obtain⟨ubh2_5_6_7,hubh2_5_6_7⟩:∃u,u=ubh2_5_6.alloc (.cells #[.bool false,.slice none 0 0,.int .i64 0] 43):=⟨_,rfl⟩
     obtain⟨B6,hbbh2_5_6_7⟩:∃b,b=ubh2_5_6.heap.size:=⟨_,rfl⟩
     rw[←hubh2_5_6_7,←hbbh2_5_6_7]at gbh2_5_6_7
     rw[←hubh2_5_6_7]at kbh2_5_6_7 ⊢
     rw[←hbbh2_5_6_7]
     have Kbh2_5_6_7:=Kbh2_5_6.trans kbh2_5_6_7
     have lB6:X.heap.size≤B6:=by rw[hbbh2_5_6_7];exact Kbh2_5_6.below.size
     have Mbh2_5_6_7_1:=ni_alloc B6 Mbh2_5_6_1 kbh2_5_6_7 hbbh2_5_6_7
     have Mbh2_5_6_7_2:=ni_alloc B6 Mbh2_5_6_2 kbh2_5_6_7 hbbh2_5_6_7
     have Pbh2_5_6_7_B5:=gbh2_5_6.kept kbh2_5_6_7
     have hne:¬B5=B6:=by have:=gbh2_5_6.lt;omega
     have hne':¬B6=B5:=fun e=>hne e.symm
     clear hubh2_5_6_7 hbbh2_5_6_7
     refine hK9.out _ _ trivial (HS0.out _ Kbh2_5_6_7) (fun _ hTbh2_5_6_7=>?_)
     clear hK9 K
     (try simp only[Act.put,zA,zB,zC,zD,zE,zF])
     have d0:=Pbh2_5_6_7_B5.c0
     have d1:=Pbh2_5_6_7_B5.c1
     have d2:=Pbh2_5_6_7_B5.c2
     have fz:=Pbh2_5_6_7_B5.fz
     have KL0:=kept_st3 Kbh2_5_6_7 lB5 (.bool n1) (.slice a1 l1 c1) (.int .i64 e1)
     refine wpAnyT_late (i:=8) (by kernel_rfl) rfl (by kernel_rfl) (fun K hK9=>?_)
     go_simp
     refine hK9.out _ _ (HS0.out _ KL0) (fun hL0=>?_)
     clear hK9 K
     (try simp only[Act.put,zA,zB,zC,zD,zE,zF])
     have Q0:=Pbh2_5_6_7_B5.set (.bool n1) (.slice a1 l1 c1) (.int .i64 e1)
     have S0_1:=ni_st3 Mbh2_5_6_7_1 (b:=B5) (by simp) (.bool n1) (.slice a1 l1 c1) (.int .i64 e1)
     have S0_2:=ni_st3 Mbh2_5_6_7_2 (b:=B5) (by simp) (.bool n1) (.slice a1 l1 c1) (.int .i64 e1)
     have Z0_B6:=gbh2_5_6_7.far hne' (.bool n1) (.slice a1 l1 c1) (.int .i64 e1)
     obtain⟨Y0,hY0⟩:∃Y,Y=st3w ubh2_5_6_7 B5 (.bool n1) (.slice a1 l1 c1) (.int .i64 e1):=⟨_,rfl⟩
     rw[←hY0]at Q0 KL0 S0_1 S0_2 Z0_B6
     rw[show((ubh2_5_6_7.setCell ⟨B5,0,none⟩ (.bool n1)).setCell ⟨B5,1,none⟩ (.slice a1 l1 c1)).setCell ⟨B5,2,none⟩ (.int .i64 e1)=Y0 from hY0.symm]
     clear hY0 d0 d1 d2 fz hL0
     have d0:=Z0_B6.c0
     have d1:=Z0_B6.c1
     have d2:=Z0_B6.c2
     have fz:=Z0_B6.fz
     have KL1:=kept_st3 KL0 lB6 (.bool n2) (.slice a2 l2 c2) (.int .i64 e2)
     refine wpAnyT_late (i:=9) (by kernel_rfl) rfl (by kernel_rfl) (fun K hK9=>?_)
     go_simp
     refine hK9.out _ _ (HS0.out _ KL1) (fun hL1=>?_)
     clear hK9 K
     (try simp only[Act.put,zA,zB,zC,zD,zE,zF])
     have Q1:=Z0_B6.set (.bool n2) (.slice a2 l2 c2) (.int .i64 e2)
     have S1_1:=ni_st3 S0_1 (b:=B6) (by simp) (.bool n2) (.slice a2 l2 c2) (.int .i64 e2)
     have S1_2:=ni_st3 S0_2 (b:=B6) (by simp) (.bool n2) (.slice a2 l2 c2) (.int .i64 e2)
     have Z1_B5:=Q0.far hne (.bool n2) (.slice a2 l2 c2) (.int .i64 e2)
     obtain⟨Y1,hY1⟩:∃Y,Y=st3w Y0 B6 (.bool n2) (.slice a2 l2 c2) (.int .i64 e2):=⟨_,rfl⟩
     rw[←hY1]at Q1 KL1 S1_1 S1_2 Z1_B5
     rw[show((Y0.setCell ⟨B6,0,none⟩ (.bool n2)).setCell ⟨B6,1,none⟩ (.slice a2 l2 c2)).setCell ⟨B6,2,none⟩ (.int .i64 e2)=Y1 from hY1.symm]
     clear hY1 d0 d1 d2 fz hL1
     refine wpAnyT_done (by kernel_rfl) ?_ _
     (try simp only[Act.put,zA,zB,zC,zD,zE,zF])
     exact HNf.out B5 B6 n1 a1 l1 c1 e1 n2 a2 l2 c2 e2 Y1 ⟨lB5,Z1_B5,(ni_nil S1_1),lB6,Q1,(ni_nil S1_2),hne,KL1⟩
    ·skip
     intro K hK9
     go_simp
     have gbh2_5_7:=N3.new ubh2_5 (.bool false) (.slice none 0 0) (.int .i64 0) 43
     have kbh2_5_7:Kept ubh2_5 (ubh2_5.alloc (.cells #[.bool false,.slice none 0 0,.int .i64 0] 43)):=(Kept.refl ubh2_5).alloc _ _
     obtain⟨ubh2_5_7,hubh2_5_7⟩:∃u,u=ubh2_5.alloc (.cells #[.bool false,.slice none 0 0,.int .i64 0] 43):=⟨_,rfl⟩
     obtain⟨B6,hbbh2_5_7⟩:∃b,b=ubh2_5.heap.size:=⟨_,rfl⟩
     rw[←hubh2_5_7,←hbbh2_5_7]at gbh2_5_7
     rw[←hubh2_5_7]at kbh2_5_7 ⊢
     rw[←hbbh2_5_7]
     have Kbh2_5_7:=Kbh2_5.trans kbh2_5_7
     have lB6:X.heap.size≤B6:=by rw[hbbh2_5_7];exact Kbh2_5.below.size
     have Mbh2_5_7_1:=ni_alloc B6 Mbh2_5_1 kbh2_5_7 hbbh2_5_7
     have Mbh2_5_7_2:=ni_alloc B6 Mbh2_5 kbh2_5_7 hbbh2_5_7
     clear hubh2_5_7 hbbh2_5_7
     refine hK9.out _ _ trivial (HS0.out _ Kbh2_5_7) (fun _ hTbh2_5_7=>?_)
     clear hK9 K
     (try simp only[Act.put,zA,zB,zC,zD,zE,zF])
     refine wpAnyT_one (i:=6) (by kernel_rfl) rfl ?_
     intro K hK9
     go_simp
     have gbh2_5_7_6:=N3.new ubh2_5_7 (.bool false) (.slice none 0 0) (.int .i64 0) 43
     have kbh2_5_7_6:Kept ubh2_5_7 (ubh2_5_7.alloc (.cells #[.bool false,.slice none 0 0,.int .i64 0] 43)):=(Kept.refl ubh2_5_7).alloc _ _
     obtain⟨ubh2_5_7_6,hubh2_5_7_6⟩:∃u,u=ubh2_5_7.alloc (.cells #[.bool false,.slice none 0 0,.int .i64 0] 43):=⟨_,rfl⟩
     obtain⟨B5,hbbh2_5_7_6⟩:∃b,b=ubh2_5_7.heap.size:=⟨_,rfl⟩
     rw[←hubh2_5_7_6,←hbbh2_5_7_6]at gbh2_5_7_6
     rw[←hubh2_5_7_6]at kbh2_5_7_6 ⊢
     rw[←hbbh2_5_7_6]
     have Kbh2_5_7_6:=Kbh2_5_7.trans kbh2_5_7_6
     have lB5:X.heap.size≤B5:=by rw[hbbh2_5_7_6];exact Kbh2_5_7.below.size
     have Mbh2_5_7_6_1:=ni_alloc B5 Mbh2_5_7_1 kbh2_5_7_6 hbbh2_5_7_6
     have Mbh2_5_7_6_2:=ni_alloc B5 Mbh2_5_7_2 kbh2_5_7_6 hbbh2_5_7_6
     have Pbh2_5_7_6_B6:=gbh2_5_7.kept kbh2_5_7_6
     have hne:¬B5=B6:=by have:=gbh2_5_7.lt;omega
     have hne':¬B6=B5:=fun e=>hne e.symm
     clear hubh2_5_7_6 hbbh2_5_7_6
     refine hK9.out _ _ trivial (HS0.out _ Kbh2_5_7_6) (fun _ hTbh2_5_7_6=>?_)
     clear hK9 K
     (try simp only[Act.put,zA,zB,zC,zD,zE,zF])
     have d0:=gbh2_5_7_6.c0
     have d1:=gbh2_5_7_6.c1
     have d2:=gbh2_5_7_6.c2
     have fz:=gbh2_5_7_6.fz
     have KL0:=kept_st3 Kbh2_5_7_6 lB5 (.bool n1) (.slice a1 l1 c1) (.int .i64 e1)
     refine wpAnyT_late (i:=8) (by kernel_rfl) rfl (by kernel_rfl) (fun K hK9=>?_)
     go_simp
     refine hK9.out _ _ (HS0.out _ KL0) (fun hL0=>?_)
     clear hK9 K
     (try simp only[Act.put,zA,zB,zC,zD,zE,zF])
     have Q0:=gbh2_5_7_6.set (.bool n1) (.slice a1 l1 c1) (.int .i64 e1)
     have S0_1:=ni_st3 Mbh2_5_7_6_1 (b:=B5) (by simp) (.bool n1) (.slice a1 l1 c1) (.int .i64 e1)
     have S0_2:=ni_st3 Mbh2_5_7_6_2 (b:=B5) (by simp) (.bool n1) (.slice a1 l1 c1) (.int .i64 e1)
     have Z0_B6:=Pbh2_5_7_6_B6.far hne' (.bool n1) (.slice a1 l1 c1) (.int .i64 e1)
     obtain⟨Y0,hY0⟩:∃Y,Y=st3w ubh2_5_7_6 B5 (.bool n1) (.slice a1 l1 c1) (.int .i64 e1):=⟨_,rfl⟩
     rw[←hY0]at Q0 KL0 S0_1 S0_2 Z0_B6
     rw[show((ubh2_5_7_6.setCell ⟨B5,0,none⟩ (.bool n1)).setCell ⟨B5,1,none⟩ (.slice a1 l1 c1)).setCell ⟨B5,2,none⟩ (.int .i64 e1)=Y0 from hY0.symm]
     clear hY0 d0 d1 d2 fz hL0
     have d0:=Z0_B6.c0
     have d1:=Z0_B6.c1
     have d2:=Z0_B6.c2
     have fz:=Z0_B6.fz
     have KL1:=kept_st3 KL0 lB6 (.bool n2) (.slice a2 l2 c2) (.int .i64 e2)
     refine wpAnyT_late (i:=9) (by kernel_rfl) rfl (by kernel_rfl) (fun K hK9=>?_)
     go_simp
     refine hK9.out _ _ (HS0.out _ KL1) (fun hL1=>?_)
     clear hK9 K
     (try simp only[Act.put,zA,zB,zC,zD,zE,zF])
     have Q1:=Z0_B6.set (.bool n2) (.slice a2 l2 c2) (.int .i64 e2)
     have S1_1:=ni_st3 S0_1 (b:=B6) (by simp) (.bool n2) (.slice a2 l2 c2) (.int .i64 e2)
     have S1_2:=ni_st3 S0_2 (b:=B6) (by simp) (.bool n2) (.slice a2 l2 c2) (.int .i64 e2)
     have Z1_B5:=Q0.far hne (.bool n2) (.slice a2 l2 c2) (.int .i64 e2)
     obtain⟨Y1,hY1⟩:∃Y,Y=st3w Y0 B6 (.bool n2) (.slice a2 l2 c2) (.int .i64 e2):=⟨_,rfl⟩
     rw[←hY1]at Q1 KL1 S1_1 S1_2 Z1_B5
     rw[show((Y0.setCell ⟨B6,0,none⟩ (.bool n2)).setCell ⟨B6,1,none⟩ (.slice a2 l2 c2)).setCell ⟨B6,2,none⟩ (.int .i64 e2)=Y1 from hY1.symm]
     clear hY1 d0 d1 d2 fz hL1
     refine wpAnyT_done (by kernel_rfl) ?_ _
     (try simp only[Act.put,zA,zB,zC,zD,zE,zF])
     exact HNf.out B5 B6 n1 a1 l1 c1 e1 n2 a2 l2 c2 e2 Y1 ⟨lB5,Z1_B5,(ni_nil S1_1),lB6,Q1,(ni_nil S1_2),hne,KL1⟩
   ·skip
    intro K hK9
    go_simp
    have gbh2_6:=N3.new ubh2 (.bool false) (.slice none 0 0) (.int .i64 0) 43
    have kbh2_6:Kept ubh2 (ubh2.alloc (.cells #[.bool false,.slice none 0 0,.int .i64 0] 43)):=(Kept.refl ubh2).alloc _ _
    obtain⟨ubh2_6,hubh2_6⟩:∃u,u=ubh2.alloc (.cells #[.bool false,.slice none 0 0,.int .i64 0] 43):=⟨_,rfl⟩
    obtain⟨B5,hbbh2_6⟩:∃b,b=ubh2.heap.size:=⟨_,rfl⟩
    rw[←hubh2_6,←hbbh2_6]at gbh2_6
    rw[←hubh2_6]at kbh2_6 ⊢
    rw[←hbbh2_6]
    have Kbh2_6:=Kbh2.trans kbh2_6
    have lB5:X.heap.size≤B5:=by rw[hbbh2_6];exact Kbh2.below.size
    have Mbh2_6_1:=ni_alloc B5 Mbh2 kbh2_6 hbbh2_6
    clear hubh2_6 hbbh2_6
    refine hK9.out _ _ trivial (HS0.out _ Kbh2_6) (fun _ hTbh2_6=>?_)
    clear hK9 K
    (try simp only[Act.put,zA,zB,zC,zD,zE,zF])
    refine wpAnyT_two (i:=5) (j:=7) (by kernel_rfl) rfl rfl ?_ ?_
    ·skip
     intro K hK9
     go_simp
     refine(KN2.out [B5] _ (lt1 gbh2_6.lt)).mono ?_
     rintro e ubh2_6_5 ⟨v2,rfl,Mbh2_6_5,kbh2_6_5⟩
     obtain⟨n2,a2,l2,c2,e2,rfl⟩:=Mbh2_6_5.shape5
     have Kbh2_6_5:=Kbh2_6.trans kbh2_6_5
     have Mbh2_6_5_1:=Mbh2_6_1.kept kbh2_6_5
     have Pbh2_6_5_B5:=gbh2_6.kept kbh2_6_5
     refine hK9.out _ _ trivial (HS0.out _ Kbh2_6_5) (fun _ hTbh2_6_5=>?_)
     clear hK9 K
     (try simp only[Act.put,zA,zB,zC,zD,zE,zF])
     refine wpAnyT_one (i:=7) (by kernel_rfl) rfl ?_
     intro K hK9
     go_simp
     have gbh2_6_5_7:=N3.new ubh2_6_5 (.bool false) (.slice none 0 0) (.int .i64 0) 43
     have kbh2_6_5_7:Kept ubh2_6_5 (ubh2_6_5.alloc (.cells #[.bool false,.slice none 0 0,.int .i64 0] 43)):=(Kept.refl ubh2_6_5).alloc _ _
     obtain⟨ubh2_6_5_7,hubh2_6_5_7⟩:∃u,u=ubh2_6_5.alloc (.cells #[.bool false,.slice none 0 0,.int .i64 0] 43):=⟨_,rfl⟩
     obtain⟨B6,hbbh2_6_5_7⟩:∃b,b=ubh2_6_5.heap.size:=⟨_,rfl⟩
     rw[←hubh2_6_5_7,←hbbh2_6_5_7]at gbh2_6_5_7
     rw[←hubh2_6_5_7]at kbh2_6_5_7 ⊢
     rw[←hbbh2_6_5_7]
     have Kbh2_6_5_7:=Kbh2_6_5.trans kbh2_6_5_7
     have lB6:X.heap.size≤B6:=by rw[hbbh2_6_5_7];exact Kbh2_6_5.below.size
     have Mbh2_6_5_7_1:=ni_alloc B6 Mbh2_6_5_1 kbh2_6_5_7 hbbh2_6_5_7
     have Mbh2_6_5_7_2:=ni_alloc B6 Mbh2_6_5 kbh2_6_5_7 hbbh2_6_5_7
     have Pbh2_6_5_7_B5:=Pbh2_6_5_B5.kept kbh2_6_5_7
     have hne:¬B5=B6:=by have:=Pbh2_6_5_B5.lt;omega
     have hne':¬B6=B5:=fun e=>hne e.symm
     clear hubh2_6_5_7 hbbh2_6_5_7
     refine hK9.out _ _ trivial (HS0.out _ Kbh2_6_5_7) (fun _ hTbh2_6_5_7=>?_)
     clear hK9 K
     (try simp only[Act.put,zA,zB,zC,zD,zE,zF])
     have d0:=Pbh2_6_5_7_B5.c0
     have d1:=Pbh2_6_5_7_B5.c1
     have d2:=Pbh2_6_5_7_B5.c2
     have fz:=Pbh2_6_5_7_B5.fz
     have KL0:=kept_st3 Kbh2_6_5_7 lB5 (.bool n1) (.slice a1 l1 c1) (.int .i64 e1)
     refine wpAnyT_late (i:=8) (by kernel_rfl) rfl (by kernel_rfl) (fun K hK9=>?_)
     go_simp
     refine hK9.out _ _ (HS0.out _ KL0) (fun hL0=>?_)
     clear hK9 K
     (try simp only[Act.put,zA,zB,zC,zD,zE,zF])
     have Q0:=Pbh2_6_5_7_B5.set (.bool n1) (.slice a1 l1 c1) (.int .i64 e1)
     have S0_1:=ni_st3 Mbh2_6_5_7_1 (b:=B5) (by simp) (.bool n1) (.slice a1 l1 c1) (.int .i64 e1)
     have S0_2:=ni_st3 Mbh2_6_5_7_2 (b:=B5) (by simp) (.bool n1) (.slice a1 l1 c1) (.int .i64 e1)
     have Z0_B6:=gbh2_6_5_7.far hne' (.bool n1) (.slice a1 l1 c1) (.int .i64 e1)
     obtain⟨Y0,hY0⟩:∃Y,Y=st3w ubh2_6_5_7 B5 (.bool n1) (.slice a1 l1 c1) (.int .i64 e1):=⟨_,rfl⟩
     rw[←hY0]at Q0 KL0 S0_1 S0_2 Z0_B6
     rw[show((ubh2_6_5_7.setCell ⟨B5,0,none⟩ (.bool n1)).setCell ⟨B5,1,none⟩ (.slice a1 l1 c1)).setCell ⟨B5,2,none⟩ (.int .i64 e1)=Y0 from hY0.symm]
     clear hY0 d0 d1 d2 fz hL0
     have d0:=Z0_B6.c0
     have d1:=Z0_B6.c1
     have d2:=Z0_B6.c2
     have fz:=Z0_B6.fz
     have KL1:=kept_st3 KL0 lB6 (.bool n2) (.slice a2 l2 c2) (.int .i64 e2)
     refine wpAnyT_late (i:=9) (by kernel_rfl) rfl (by kernel_rfl) (fun K hK9=>?_)
     go_simp
     refine hK9.out _ _ (HS0.out _ KL1) (fun hL1=>?_)
     clear hK9 K
     (try simp only[Act.put,zA,zB,zC,zD,zE,zF])
     have Q1:=Z0_B6.set (.bool n2) (.slice a2 l2 c2) (.int .i64 e2)
     have S1_1:=ni_st3 S0_1 (b:=B6) (by simp) (.bool n2) (.slice a2 l2 c2) (.int .i64 e2)
     have S1_2:=ni_st3 S0_2 (b:=B6) (by simp) (.bool n2) (.slice a2 l2 c2) (.int .i64 e2)
     have Z1_B5:=Q0.far hne (.bool n2) (.slice a2 l2 c2) (.int .i64 e2)
     obtain⟨Y1,hY1⟩:∃Y,Y=st3w Y0 B6 (.bool n2) (.slice a2 l2 c2) (.int .i64 e2):=⟨_,rfl⟩
     rw[←hY1]at Q1 KL1 S1_1 S1_2 Z1_B5
     rw[show((Y0.setCell ⟨B6,0,none⟩ (.bool n2)).setCell ⟨B6,1,none⟩ (.slice a2 l2 c2)).setCell ⟨B6,2,none⟩ (.int .i64 e2)=Y1 from hY1.symm]
     clear hY1 d0 d1 d2 fz hL1
     refine wpAnyT_done (by kernel_rfl) ?_ _
     (try simp only[Act.put,zA,zB,zC,zD,zE,zF])
     exact HNf.out B5 B6 n1 a1 l1 c1 e1 n2 a2 l2 c2 e2 Y1 ⟨lB5,Z1_B5,(ni_nil S1_1),lB6,Q1,(ni_nil S1_2),hne,KL1⟩
    ·skip
     intro K hK9
     go_simp
     have gbh2_6_7:=N3.new ubh2_6 (.bool false) (.slice none 0 0) (.int .i64 0) 43
     have kbh2_6_7:Kept ubh2_6 (ubh2_6.alloc (.cells #[.bool false,.slice none 0 0,.int .i64 0] 43)):=(Kept.refl ubh2_6).alloc _ _
     obtain⟨ubh2_6_7,hubh2_6_7⟩:∃u,u=ubh2_6.alloc (.cells #[.bool false,.slice none 0 0,.int .i64 0] 43):=⟨_,rfl⟩
     obtain⟨B6,hbbh2_6_7⟩:∃b,b=ubh2_6.heap.size:=⟨_,rfl⟩
     rw[←hubh2_6_7,←hbbh2_6_7]at gbh2_6_7
     rw[←hubh2_6_7]at kbh2_6_7 ⊢
     rw[←hbbh2_6_7]
     have Kbh2_6_7:=Kbh2_6.trans kbh2_6_7
     have lB6:X.heap.size≤B6:=by rw[hbbh2_6_7];exact Kbh2_6.below.size
     have Mbh2_6_7_1:=ni_alloc B6 Mbh2_6_1 kbh2_6_7 hbbh2_6_7
     have Pbh2_6_7_B5:=gbh2_6.kept kbh2_6_7
     have hne:¬B5=B6:=by have:=gbh2_6.lt;omega
     have hne':¬B6=B5:=fun e=>hne e.symm
     clear hubh2_6_7 hbbh2_6_7
     refine hK9.out _ _ trivial (HS0.out _ Kbh2_6_7) (fun _ hTbh2_6_7=>?_)
     clear hK9 K
     (try simp only[Act.put,zA,zB,zC,zD,zE,zF])
     refine wpAnyT_one (i:=5) (by kernel_rfl) rfl ?_
     intro K hK9
     go_simp
     refine(KN2.out [B6,B5] _ (lt2 gbh2_6_7.lt Pbh2_6_7_B5.lt)).mono ?_
     rintro e ubh2_6_7_5 ⟨v2,rfl,Mbh2_6_7_5,kbh2_6_7_5⟩
     obtain⟨n2,a2,l2,c2,e2,rfl⟩:=Mbh2_6_7_5.shape5
     have Kbh2_6_7_5:=Kbh2_6_7.trans kbh2_6_7_5
     have Mbh2_6_7_5_1:=Mbh2_6_7_1.kept kbh2_6_7_5
     have Pbh2_6_7_5_B5:=Pbh2_6_7_B5.kept kbh2_6_7_5
     have Pbh2_6_7_5_B6:=gbh2_6_7.kept kbh2_6_7_5
     refine hK9.out _ _ trivial (HS0.out _ Kbh2_6_7_5) (fun _ hTbh2_6_7_5=>?_)
     clear hK9 K
     (try simp only[Act.put,zA,zB,zC,zD,zE,zF])
     have d0:=Pbh2_6_7_5_B5.c0
     have d1:=Pbh2_6_7_5_B5.c1
     have d2:=Pbh2_6_7_5_B5.c2
     have fz:=Pbh2_6_7_5_B5.fz
     have KL0:=kept_st3 Kbh2_6_7_5 lB5 (.bool n1) (.slice a1 l1 c1) (.int .i64 e1)
     refine wpAnyT_late (i:=8) (by kernel_rfl) rfl (by kernel_rfl) (fun K hK9=>?_)
     go_simp
     refine hK9.out _ _ (HS0.out _ KL0) (fun hL0=>?_)
     clear hK9 K
     (try simp only[Act.put,zA,zB,zC,zD,zE,zF])
     have Q0:=Pbh2_6_7_5_B5.set (.bool n1) (.slice a1 l1 c1) (.int .i64 e1)
     have S0_1:=ni_st3 Mbh2_6_7_5_1 (b:=B5) (by simp) (.bool n1) (.slice a1 l1 c1) (.int .i64 e1)
     have S0_2:=ni_st3 Mbh2_6_7_5 (b:=B5) (by simp) (.bool n1) (.slice a1 l1 c1) (.int .i64 e1)
     have Z0_B6:=Pbh2_6_7_5_B6.far hne' (.bool n1) (.slice a1 l1 c1) (.int .i64 e1)
     obtain⟨Y0,hY0⟩:∃Y,Y=st3w ubh2_6_7_5 B5 (.bool n1) (.slice a1 l1 c1) (.int .i64 e1):=⟨_,rfl⟩
     rw[←hY0]at Q0 KL0 S0_1 S0_2 Z0_B6
     rw[show((ubh2_6_7_5.setCell ⟨B5,0,none⟩ (.bool n1)).setCell ⟨B5,1,none⟩ (.slice a1 l1 c1)).setCell ⟨B5,2,none⟩ (.int .i64 e1)=Y0 from hY0.symm]
     clear hY0 d0 d1 d2 fz hL0
     have d0:=Z0_B6.c0
     have d1:=Z0_B6.c1
     have d2:=Z0_B6.c2
     have fz:=Z0_B6.fz
     have KL1:=kept_st3 KL0 lB6 (.bool n2) (.slice a2 l2 c2) (.int .i64 e2)
     refine wpAnyT_late (i:=9) (by kernel_rfl) rfl (by kernel_rfl) (fun K hK9=>?_)
     go_simp
     refine hK9.out _ _ (HS0.out _ KL1) (fun hL1=>?_)
     clear hK9 K
     (try simp only[Act.put,zA,zB,zC,zD,zE,zF])
     have Q1:=Z0_B6.set (.bool n2) (.slice a2 l2 c2) (.int .i64 e2)
     have S1_1:=ni_st3 S0_1 (b:=B6) (by simp) (.bool n2) (.slice a2 l2 c2) (.int .i64 e2)
     have S1_2:=ni_st3 S0_2 (b:=B6) (by simp) (.bool n2) (.slice a2 l2 c2) (.int .i64 e2)
     have Z1_B5:=Q0.far hne (.bool n2) (.slice a2 l2 c2) (.int .i64 e2)
     obtain⟨Y1,hY1⟩:∃Y,Y=st3w Y0 B6 (.bool n2) (.slice a2 l2 c2) (.int .i64 e2):=⟨_,rfl⟩
     rw[←hY1]at Q1 KL1 S1_1 S1_2 Z1_B5
     rw[show((Y0.setCell ⟨B6,0,none⟩ (.bool n2)).setCell ⟨B6,1,none⟩ (.slice a2 l2 c2)).setCell ⟨B6,2,none⟩ (.int .i64 e2)=Y1 from hY1.symm]
     clear hY1 d0 d1 d2 fz hL1
     refine wpAnyT_done (by kernel_rfl) ?_ _
     (try simp only[Act.put,zA,zB,zC,zD,zE,zF])
     exact HNf.out B5 B6 n1 a1 l1 c1 e1 n2 a2 l2 c2 e2 Y1 ⟨lB5,Z1_B5,(ni_nil S1_1),lB6,Q1,(ni_nil S1_2),hne,KL1⟩
   ·skip
    intro K hK9
    go_simp
    have gbh2_7:=N3.new ubh2 (.bool false) (.slice none 0 0) (.int .i64 0) 43
    have kbh2_7:Kept ubh2 (ubh2.alloc (.cells #[.bool false,.slice none 0 0,.int .i64 0] 43)):=(Kept.refl ubh2).alloc _ _
    obtain⟨ubh2_7,hubh2_7⟩:∃u,u=ubh2.alloc (.cells #[.bool false,.slice none 0 0,.int .i64 0] 43):=⟨_,rfl⟩
    obtain⟨B6,hbbh2_7⟩:∃b,b=ubh2.heap.size:=⟨_,rfl⟩
    rw[←hubh2_7,←hbbh2_7]at gbh2_7
    rw[←hubh2_7]at kbh2_7 ⊢
    rw[←hbbh2_7]
    have Kbh2_7:=Kbh2.trans kbh2_7
    have lB6:X.heap.size≤B6:=by rw[hbbh2_7];exact Kbh2.below.size
    have Mbh2_7_1:=ni_alloc B6 Mbh2 kbh2_7 hbbh2_7
    clear hubh2_7 hbbh2_7
    refine hK9.out _ _ trivial (HS0.out _ Kbh2_7) (fun _ hTbh2_7=>?_)
    clear hK9 K
    (try simp only[Act.put,zA,zB,zC,zD,zE,zF])
    refine wpAnyT_two (i:=5) (j:=6) (by kernel_rfl) rfl rfl ?_ ?_
    ·skip
     intro K hK9
     go_simp
     refine(KN2.out [B6] _ (lt1 gbh2_7.lt)).mono ?_
     rintro e ubh2_7_5 ⟨v2,rfl,Mbh2_7_5,kbh2_7_5⟩
     obtain⟨n2,a2,l2,c2,e2,rfl⟩:=Mbh2_7_5.shape5
     have Kbh2_7_5:=Kbh2_7.trans kbh2_7_5
     have Mbh2_7_5_1:=Mbh2_7_1.kept kbh2_7_5
     have Pbh2_7_5_B6:=gbh2_7.kept kbh2_7_5
     refine hK9.out _ _ trivial (HS0.out _ Kbh2_7_5) (fun _ hTbh2_7_5=>?_)
     clear hK9 K
     (try simp only[Act.put,zA,zB,zC,zD,zE,zF])
     refine wpAnyT_one (i:=6) (by kernel_rfl) rfl ?_
     intro K hK9
     go_simp
     have gbh2_7_5_6:=N3.new ubh2_7_5 (.bool false) (.slice none 0 0) (.int .i64 0) 43
     have kbh2_7_5_6:Kept ubh2_7_5 (ubh2_7_5.alloc (.cells #[.bool false,.slice none 0 0,.int .i64 0] 43)):=(Kept.refl ubh2_7_5).alloc _ _
     obtain⟨ubh2_7_5_6,hubh2_7_5_6⟩:∃u,u=ubh2_7_5.alloc (.cells #[.bool false,.slice none 0 0,.int .i64 0] 43):=⟨_,rfl⟩
     obtain⟨B5,hbbh2_7_5_6⟩:∃b,b=ubh2_7_5.heap.size:=⟨_,rfl⟩
     rw[←hubh2_7_5_6,←hbbh2_7_5_6]at gbh2_7_5_6
     rw[←hubh2_7_5_6]at kbh2_7_5_6 ⊢
     rw[←hbbh2_7_5_6]
     have Kbh2_7_5_6:=Kbh2_7_5.trans kbh2_7_5_6
     have lB5:X.heap.size≤B5:=by rw[hbbh2_7_5_6];exact Kbh2_7_5.below.size
     have Mbh2_7_5_6_1:=ni_alloc B5 Mbh2_7_5_1 kbh2_7_5_6 hbbh2_7_5_6
     have Mbh2_7_5_6_2:=ni_alloc B5 Mbh2_7_5 kbh2_7_5_6 hbbh2_7_5_6
     have Pbh2_7_5_6_B6:=Pbh2_7_5_B6.kept kbh2_7_5_6
     have hne:¬B5=B6:=by have:=Pbh2_7_5_B6.lt;omega
     have hne':¬B6=B5:=fun e=>hne e.symm
     clear hubh2_7_5_6 hbbh2_7_5_6
     refine hK9.out _ _ trivial (HS0.out _ Kbh2_7_5_6) (fun _ hTbh2_7_5_6=>?_)
     clear hK9 K
     (try simp only[Act.put,zA,zB,zC,zD,zE,zF])
     have d0:=gbh2_7_5_6.c0
     have d1:=gbh2_7_5_6.c1
     have d2:=gbh2_7_5_6.c2
     have fz:=gbh2_7_5_6.fz
     have KL0:=kept_st3 Kbh2_7_5_6 lB5 (.bool n1) (.slice a1 l1 c1) (.int .i64 e1)
     refine wpAnyT_late (i:=8) (by kernel_rfl) rfl (by kernel_rfl) (fun K hK9=>?_)
     go_simp
     refine hK9.out _ _ (HS0.out _ KL0) (fun hL0=>?_)
     clear hK9 K
     (try simp only[Act.put,zA,zB,zC,zD,zE,zF])
     have Q0:=gbh2_7_5_6.set (.bool n1) (.slice a1 l1 c1) (.int .i64 e1)
     have S0_1:=ni_st3 Mbh2_7_5_6_1 (b:=B5) (by simp) (.bool n1) (.slice a1 l1 c1) (.int .i64 e1)
     have S0_2:=ni_st3 Mbh2_7_5_6_2 (b:=B5) (by simp) (.bool n1) (.slice a1 l1 c1) (.int .i64 e1)
     have Z0_B6:=Pbh2_7_5_6_B6.far hne' (.bool n1) (.slice a1 l1 c1) (.int .i64 e1)
     obtain⟨Y0,hY0⟩:∃Y,Y=st3w ubh2_7_5_6 B5 (.bool n1) (.slice a1 l1 c1) (.int .i64 e1):=⟨_,rfl⟩
     rw[←hY0]at Q0 KL0 S0_1 S0_2 Z0_B6
     rw[show((ubh2_7_5_6.setCell ⟨B5,0,none⟩ (.bool n1)).setCell ⟨B5,1,none⟩ (.slice a1 l1 c1)).setCell ⟨B5,2,none⟩ (.int .i64 e1)=Y0 from hY0.symm]
     clear hY0 d0 d1 d2 fz hL0
     have d0:=Z0_B6.c0
     have d1:=Z0_B6.c1
     have d2:=Z0_B6.c2
     have fz:=Z0_B6.fz
     have KL1:=kept_st3 KL0 lB6 (.bool n2) (.slice a2 l2 c2) (.int .i64 e2)
     refine wpAnyT_late (i:=9) (by kernel_rfl) rfl (by kernel_rfl) (fun K hK9=>?_)
     go_simp
     refine hK9.out _ _ (HS0.out _ KL1) (fun hL1=>?_)
     clear hK9 K
     (try simp only[Act.put,zA,zB,zC,zD,zE,zF])
     have Q1:=Z0_B6.set (.bool n2) (.slice a2 l2 c2) (.int .i64 e2)
     have S1_1:=ni_st3 S0_1 (b:=B6) (by simp) (.bool n2) (.slice a2 l2 c2) (.int .i64 e2)
     have S1_2:=ni_st3 S0_2 (b:=B6) (by simp) (.bool n2) (.slice a2 l2 c2) (.int .i64 e2)
     have Z1_B5:=Q0.far hne (.bool n2) (.slice a2 l2 c2) (.int .i64 e2)
     obtain⟨Y1,hY1⟩:∃Y,Y=st3w Y0 B6 (.bool n2) (.slice a2 l2 c2) (.int .i64 e2):=⟨_,rfl⟩
     rw[←hY1]at Q1 KL1 S1_1 S1_2 Z1_B5
     rw[show((Y0.setCell ⟨B6,0,none⟩ (.bool n2)).setCell ⟨B6,1,none⟩ (.slice a2 l2 c2)).setCell ⟨B6,2,none⟩ (.int .i64 e2)=Y1 from hY1.symm]
     clear hY1 d0 d1 d2 fz hL1
     refine wpAnyT_done (by kernel_rfl) ?_ _
     (try simp only[Act.put,zA,zB,zC,zD,zE,zF])
     exact HNf.out B5 B6 n1 a1 l1 c1 e1 n2 a2 l2 c2 e2 Y1 ⟨lB5,Z1_B5,(ni_nil S1_1),lB6,Q1,(ni_nil S1_2),hne,KL1⟩
    ·skip
     intro K hK9
     go_simp
     have gbh2_7_6:=N3.new ubh2_7 (.bool false) (.slice none 0 0) (.int .i64 0) 43
     have kbh2_7_6:Kept ubh2_7 (ubh2_7.alloc (.cells #[.bool false,.slice none 0 0,.int .i64 0] 43)):=(Kept.refl ubh2_7).alloc _ _
     obtain⟨ubh2_7_6,hubh2_7_6⟩:∃u,u=ubh2_7.alloc (.cells #[.bool false,.slice none 0 0,.int .i64 0] 43):=⟨_,rfl⟩
     obtain⟨B5,hbbh2_7_6⟩:∃b,b=ubh2_7.heap.size:=⟨_,rfl⟩
     rw[←hubh2_7_6,←hbbh2_7_6]at gbh2_7_6
     rw[←hubh2_7_6]at kbh2_7_6 ⊢
     rw[←hbbh2_7_6]
     have Kbh2_7_6:=Kbh2_7.trans kbh2_7_6
     have lB5:X.heap.size≤B5:=by rw[hbbh2_7_6];exact Kbh2_7.below.size
     have Mbh2_7_6_1:=ni_alloc B5 Mbh2_7_1 kbh2_7_6 hbbh2_7_6
     have Pbh2_7_6_B6:=gbh2_7.kept kbh2_7_6
     have hne:¬B5=B6:=by have:=gbh2_7.lt;omega
     have hne':¬B6=B5:=fun e=>hne e.symm
     clear hubh2_7_6 hbbh2_7_6
     refine hK9.out _ _ trivial (HS0.out _ Kbh2_7_6) (fun _ hTbh2_7_6=>?_)
     clear hK9 K
     (try simp only[Act.put,zA,zB,zC,zD,zE,zF])
     refine wpAnyT_one (i:=5) (by kernel_rfl) rfl ?_
     intro K hK9
     go_simp
     refine(KN2.out [B5,B6] _ (lt2 gbh2_7_6.lt Pbh2_7_6_B6.lt)).mono ?_
     rintro e ubh2_7_6_5 ⟨v2,rfl,Mbh2_7_6_5,kbh2_7_6_5⟩
     obtain⟨n2,a2,l2,c2,e2,rfl⟩:=Mbh2_7_6_5.shape5
     have Kbh2_7_6_5:=Kbh2_7_6.trans kbh2_7_6_5
     have Mbh2_7_6_5_1:=Mbh2_7_6_1.kept kbh2_7_6_5
     have Pbh2_7_6_5_B6:=Pbh2_7_6_B6.kept kbh2_7_6_5
     have Pbh2_7_6_5_B5:=gbh2_7_6.kept kbh2_7_6_5
     refine hK9.out _ _ trivial (HS0.out _ Kbh2_7_6_5) (fun _ hTbh2_7_6_5=>?_)
     clear hK9 K
     (try simp only[Act.put,zA,zB,zC,zD,zE,zF])
     have d0:=Pbh2_7_6_5_B5.c0
     have d1:=Pbh2_7_6_5_B5.c1
     have d2:=Pbh2_7_6_5_B5.c2
     have fz:=Pbh2_7_6_5_B5.fz
     have KL0:=kept_st3 Kbh2_7_6_5 lB5 (.bool n1) (.slice a1 l1 c1) (.int .i64 e1)
     refine wpAnyT_late (i:=8) (by kernel_rfl) rfl (by kernel_rfl) (fun K hK9=>?_)
     go_simp
     refine hK9.out _ _ (HS0.out _ KL0) (fun hL0=>?_)
     clear hK9 K
     (try simp only[Act.put,zA,zB,zC,zD,zE,zF])
     have Q0:=Pbh2_7_6_5_B5.set (.bool n1) (.slice a1 l1 c1) (.int .i64 e1)
     have S0_1:=ni_st3 Mbh2_7_6_5_1 (b:=B5) (by simp) (.bool n1) (.slice a1 l1 c1) (.int .i64 e1)
     have S0_2:=ni_st3 Mbh2_7_6_5 (b:=B5) (by simp) (.bool n1) (.slice a1 l1 c1) (.int .i64 e1)
     have Z0_B6:=Pbh2_7_6_5_B6.far hne' (.bool n1) (.slice a1 l1 c1) (.int .i64 e1)
     obtain⟨Y0,hY0⟩:∃Y,Y=st3w ubh2_7_6_5 B5 (.bool n1) (.slice a1 l1 c1) (.int .i64 e1):=⟨_,rfl⟩
     rw[←hY0]at Q0 KL0 S0_1 S0_2 Z0_B6
     rw[show((ubh2_7_6_5.setCell ⟨B5,0,none⟩ (.bool n1)).setCell ⟨B5,1,none⟩ (.slice a1 l1 c1)).setCell ⟨B5,2,none⟩ (.int .i64 e1)=Y0 from hY0.symm]
     clear hY0 d0 d1 d2 fz hL0
     have d0:=Z0_B6.c0
     have d1:=Z0_B6.c1
     have d2:=Z0_B6.c2
     have fz:=Z0_B6.fz
     have KL1:=kept_st3 KL0 lB6 (.bool n2) (.slice a2 l2 c2) (.int .i64 e2)
     refine wpAnyT_late (i:=9) (by kernel_rfl) rfl (by kernel_rfl) (fun K hK9=>?_)
     go_simp
     refine hK9.out _ _ (HS0.out _ KL1) (fun hL1=>?_)
     clear hK9 K
     (try simp only[Act.put,zA,zB,zC,zD,zE,zF])
     have Q1:=Z0_B6.set (.bool n2) (.slice a2 l2 c2) (.int .i64 e2)
     have S1_1:=ni_st3 S0_1 (b:=B6) (by simp) (.bool n2) (.slice a2 l2 c2) (.int .i64 e2)
     have S1_2:=ni_st3 S0_2 (b:=B6) (by simp) (.bool n2) (.slice a2 l2 c2) (.int .i64 e2)
     have Z1_B5:=Q0.far hne (.bool n2) (.slice a2 l2 c2) (.int .i64 e2)
     obtain⟨Y1,hY1⟩:∃Y,Y=st3w Y0 B6 (.bool n2) (.slice a2 l2 c2) (.int .i64 e2):=⟨_,rfl⟩
     rw[←hY1]at Q1 KL1 S1_1 S1_2 Z1_B5
     rw[show((Y0.setCell ⟨B6,0,none⟩ (.bool n2)).setCell ⟨B6,1,none⟩ (.slice a2 l2 c2)).setCell ⟨B6,2,none⟩ (.int .i64 e2)=Y1 from hY1.symm]
     clear hY1 d0 d1 d2 fz hL1
     refine wpAnyT_done (by kernel_rfl) ?_ _
     (try simp only[Act.put,zA,zB,zC,zD,zE,zF])
     exact HNf.out B5 B6 n1 a1 l1 c1 e1 n2 a2 l2 c2 e2 Y1 ⟨lB5,Z1_B5,(ni_nil S1_1),lB6,Q1,(ni_nil S1_2),hne,KL1⟩
  ·skip
   intro K hK9
   go_simp
   have gbh6:=N3.new Y0 (.bool false) (.slice none 0 0) (.int .i64 0) 43
   have kbh6:Kept Y0 (Y0.alloc (.cells #[.bool false,.slice none 0 0,.int .i64 0] 43)):=(Kept.refl Y0).alloc _ _
   obtain⟨ubh6,hubh6⟩:∃u,u=Y0.alloc (.cells #[.bool false,.slice none 0 0,.int .i64 0] 43):=⟨_,rfl⟩
   obtain⟨B5,hbbh6⟩:∃b,b=Y0.heap.size:=⟨_,rfl⟩
   rw[←hubh6,←hbbh6]at gbh6
   rw[←hubh6]at kbh6 ⊢
   rw[←hbbh6]
   have Kbh6:=k0.trans kbh6
   have lB5:X.heap.size≤B5:=by rw[hbbh6];exact k0.below.size
   clear hubh6 hbbh6
   refine hK9.out _ _ trivial (HS0.out _ Kbh6) (fun _ hTbh6=>?_)
   clear hK9 K
   (try simp only[Act.put,zA,zB,zC,zD,zE,zF])
   refine wpAnyT_two (i:=2) (j:=7) (by kernel_rfl) rfl rfl ?_ ?_
   ·skip
    intro K hK9
    go_simp
    refine(KN1.out [B5] _ (lt1 gbh6.lt)).mono ?_
    rintro e ubh6_2 ⟨v1,rfl,Mbh6_2,kbh6_2⟩
    obtain⟨n1,a1,l1,c1,e1,rfl⟩:=Mbh6_2.shape5
    have Kbh6_2:=Kbh6.trans kbh6_2
    have Pbh6_2_B5:=gbh6.kept kbh6_2
    refine hK9.out _ _ trivial (HS0.out _ Kbh6_2) (fun _ hTbh6_2=>?_)
    clear hK9 K
    (try simp only[Act.put,zA,zB,zC,zD,zE,zF])
    refine wpAnyT_two (i:=5) (j:=7) (by kernel_rfl) rfl rfl ?_ ?_
    ·skip
     intro K hK9
     go_simp
     refine(KN2.out [B5] _ (lt1 Pbh6_2_B5.lt)).mono ?_
     rintro e ubh6_2_5 ⟨v2,rfl,Mbh6_2_5,kbh6_2_5⟩
     obtain⟨n2,a2,l2,c2,e2,rfl⟩:=Mbh6_2_5.shape5
     have Kbh6_2_5:=Kbh6_2.trans kbh6_2_5
     have Mbh6_2_5_1:=Mbh6_2.kept kbh6_2_5
     have Pbh6_2_5_B5:=Pbh6_2_B5.kept kbh6_2_5
     refine hK9.out _ _ trivial (HS0.out _ Kbh6_2_5) (fun _ hTbh6_2_5=>?_)
     clear hK9 K
     (try simp only[Act.put,zA,zB,zC,zD,zE,zF])
     refine wpAnyT_one (i:=7) (by kernel_rfl) rfl ?_
     intro K hK9
     go_simp
     have gbh6_2_5_7:=N3.new ubh6_2_5 (.bool false) (.slice none 0 0) (.int .i64 0) 43
     have kbh6_2_5_7:Kept ubh6_2_5 (ubh6_2_5.alloc (.cells #[.bool false,.slice none 0 0,.int .i64 0] 43)):=(Kept.refl ubh6_2_5).alloc _ _
     obtain⟨ubh6_2_5_7,hubh6_2_5_7⟩:∃u,u=ubh6_2_5.alloc (.cells #[.bool false,.slice none 0 0,.int .i64 0] 43):=⟨_,rfl⟩
     obtain⟨B6,hbbh6_2_5_7⟩:∃b,b=ubh6_2_5.heap.size:=⟨_,rfl⟩
     rw[←hubh6_2_5_7,←hbbh6_2_5_7]at gbh6_2_5_7
     rw[←hubh6_2_5_7]at kbh6_2_5_7 ⊢
     rw[←hbbh6_2_5_7]
     have Kbh6_2_5_7:=Kbh6_2_5.trans kbh6_2_5_7
     have lB6:X.heap.size≤B6:=by rw[hbbh6_2_5_7];exact Kbh6_2_5.below.size
     have Mbh6_2_5_7_1:=ni_alloc B6 Mbh6_2_5_1 kbh6_2_5_7 hbbh6_2_5_7
     have Mbh6_2_5_7_2:=ni_alloc B6 Mbh6_2_5 kbh6_2_5_7 hbbh6_2_5_7
     have Pbh6_2_5_7_B5:=Pbh6_2_5_B5.kept kbh6_2_5_7
     have hne:¬B5=B6:=by have:=Pbh6_2_5_B5.lt;omega
     have hne':¬B6=B5:=fun e=>hne e.symm
     clear hubh6_2_5_7 hbbh6_2_5_7
     refine hK9.out _ _ trivial (HS0.out _ Kbh6_2_5_7) (fun _ hTbh6_2_5_7=>?_)
     clear hK9 K
     (try simp only[Act.put,zA,zB,zC,zD,zE,zF])
     have d0:=Pbh6_2_5_7_B5.c0
     have d1:=Pbh6_2_5_7_B5.c1
     have d2:=Pbh6_2_5_7_B5.c2
     have fz:=Pbh6_2_5_7_B5.fz
     have KL0:=kept_st3 Kbh6_2_5_7 lB5 (.bool n1) (.slice a1 l1 c1) (.int .i64 e1)
     refine wpAnyT_late (i:=8) (by kernel_rfl) rfl (by kernel_rfl) (fun K hK9=>?_)
     go_simp
     refine hK9.out _ _ (HS0.out _ KL0) (fun hL0=>?_)
     clear hK9 K
     (try simp only[Act.put,zA,zB,zC,zD,zE,zF])
     have Q0:=Pbh6_2_5_7_B5.set (.bool n1) (.slice a1 l1 c1) (.int .i64 e1)
     have S0_1:=ni_st3 Mbh6_2_5_7_1 (b:=B5) (by simp) (.bool n1) (.slice a1 l1 c1) (.int .i64 e1)
     have S0_2:=ni_st3 Mbh6_2_5_7_2 (b:=B5) (by simp) (.bool n1) (.slice a1 l1 c1) (.int .i64 e1)
     have Z0_B6:=gbh6_2_5_7.far hne' (.bool n1) (.slice a1 l1 c1) (.int .i64 e1)
     obtain⟨Y0,hY0⟩:∃Y,Y=st3w ubh6_2_5_7 B5 (.bool n1) (.slice a1 l1 c1) (.int .i64 e1):=⟨_,rfl⟩
     rw[←hY0]at Q0 KL0 S0_1 S0_2 Z0_B6
     rw[show((ubh6_2_5_7.setCell ⟨B5,0,none⟩ (.bool n1)).setCell ⟨B5,1,none⟩ (.slice a1 l1 c1)).setCell ⟨B5,2,none⟩ (.int .i64 e1)=Y0 from hY0.symm]
     clear hY0 d0 d1 d2 fz hL0
     have d0:=Z0_B6.c0
     have d1:=Z0_B6.c1
     have d2:=Z0_B6.c2
     have fz:=Z0_B6.fz
     have KL1:=kept_st3 KL0 lB6 (.bool n2) (.slice a2 l2 c2) (.int .i64 e2)
     refine wpAnyT_late (i:=9) (by kernel_rfl) rfl (by kernel_rfl) (fun K hK9=>?_)
     go_simp
     refine hK9.out _ _ (HS0.out _ KL1) (fun hL1=>?_)
     clear hK9 K
     (try simp only[Act.put,zA,zB,zC,zD,zE,zF])
     have Q1:=Z0_B6.set (.bool n2) (.slice a2 l2 c2) (.int .i64 e2)
     have S1_1:=ni_st3 S0_1 (b:=B6) (by simp) (.bool n2) (.slice a2 l2 c2) (.int .i64 e2)
     have S1_2:=ni_st3 S0_2 (b:=B6) (by simp) (.bool n2) (.slice a2 l2 c2) (.int .i64 e2)
     have Z1_B5:=Q0.far hne (.bool n2) (.slice a2 l2 c2) (.int .i64 e2)
     obtain⟨Y1,hY1⟩:∃Y,Y=st3w Y0 B6 (.bool n2) (.slice a2 l2 c2) (.int .i64 e2):=⟨_,rfl⟩
     rw[←hY1]at Q1 KL1 S1_1 S1_2 Z1_B5
     rw[show((Y0.setCell ⟨B6,0,none⟩ (.bool n2)).setCell ⟨B6,1,none⟩ (.slice a2 l2 c2)).setCell ⟨B6,2,none⟩ (.int .i64 e2)=Y1 from hY1.symm]
     clear hY1 d0 d1 d2 fz hL1
     refine wpAnyT_done (by kernel_rfl) ?_ _
     (try simp only[Act.put,zA,zB,zC,zD,zE,zF])
     exact HNf.out B5 B6 n1 a1 l1 c1 e1 n2 a2 l2 c2 e2 Y1 ⟨lB5,Z1_B5,(ni_nil S1_1),lB6,Q1,(ni_nil S1_2),hne,KL1⟩
    ·skip
     intro K hK9
     go_simp
     have gbh6_2_7:=N3.new ubh6_2 (.bool false) (.slice none 0 0) (.int .i64 0) 43
     have kbh6_2_7:Kept ubh6_2 (ubh6_2.alloc (.cells #[.bool false,.slice none 0 0,.int .i64 0] 43)):=(Kept.refl ubh6_2).alloc _ _
     obtain⟨ubh6_2_7,hubh6_2_7⟩:∃u,u=ubh6_2.alloc (.cells #[.bool false,.slice none 0 0,.int .i64 0] 43):=⟨_,rfl⟩
     obtain⟨B6,hbbh6_2_7⟩:∃b,b=ubh6_2.heap.size:=⟨_,rfl⟩
     rw[←hubh6_2_7,←hbbh6_2_7]at gbh6_2_7
     rw[←hubh6_2_7]at kbh6_2_7 ⊢
     rw[←hbbh6_2_7]
     have Kbh6_2_7:=Kbh6_2.trans kbh6_2_7
     have lB6:X.heap.size≤B6:=by rw[hbbh6_2_7];exact Kbh6_2.below.size
     have Mbh6_2_7_1:=ni_alloc B6 Mbh6_2 kbh6_2_7 hbbh6_2_7
     have Pbh6_2_7_B5:=Pbh6_2_B5.kept kbh6_2_7
     have hne:¬B5=B6:=by have:=Pbh6_2_B5.lt;omega
     have hne':¬B6=B5:=fun e=>hne e.symm
     clear hubh6_2_7 hbbh6_2_7
     refine hK9.out _ _ trivial (HS0.out _ Kbh6_2_7) (fun _ hTbh6_2_7=>?_)
     clear hK9 K
     (try simp only[Act.put,zA,zB,zC,zD,zE,zF])
     refine wpAnyT_one (i:=5) (by kernel_rfl) rfl ?_
     intro K hK9
     go_simp
     refine(KN2.out [B6,B5] _ (lt2 gbh6_2_7.lt Pbh6_2_7_B5.lt)).mono ?_
     rintro e ubh6_2_7_5 ⟨v2,rfl,Mbh6_2_7_5,kbh6_2_7_5⟩
     obtain⟨n2,a2,l2,c2,e2,rfl⟩:=Mbh6_2_7_5.shape5
     have Kbh6_2_7_5:=Kbh6_2_7.trans kbh6_2_7_5
     have Mbh6_2_7_5_1:=Mbh6_2_7_1.kept kbh6_2_7_5
     have Pbh6_2_7_5_B5:=Pbh6_2_7_B5.kept kbh6_2_7_5
     have Pbh6_2_7_5_B6:=gbh6_2_7.kept kbh6_2_7_5
     refine hK9.out _ _ trivial (HS0.out _ Kbh6_2_7_5) (fun _ hTbh6_2_7_5=>?_)
     clear hK9 K
     (try simp only[Act.put,zA,zB,zC,zD,zE,zF])
     have d0:=Pbh6_2_7_5_B5.c0
     have d1:=Pbh6_2_7_5_B5.c1
     have d2:=Pbh6_2_7_5_B5.c2
     have fz:=Pbh6_2_7_5_B5.fz
     have KL0:=kept_st3 Kbh6_2_7_5 lB5 (.bool n1) (.slice a1 l1 c1) (.int .i64 e1)
     refine wpAnyT_late (i:=8) (by kernel_rfl) rfl (by kernel_rfl) (fun K hK9=>?_)
     go_simp
     refine hK9.out _ _ (HS0.out _ KL0) (fun hL0=>?_)
     clear hK9 K
     (try simp only[Act.put,zA,zB,zC,zD,zE,zF])
     have Q0:=Pbh6_2_7_5_B5.set (.bool n1) (.slice a1 l1 c1) (.int .i64 e1)
     have S0_1:=ni_st3 Mbh6_2_7_5_1 (b:=B5) (by simp) (.bool n1) (.slice a1 l1 c1) (.int .i64 e1)
     have S0_2:=ni_st3 Mbh6_2_7_5 (b:=B5) (by simp) (.bool n1) (.slice a1 l1 c1) (.int .i64 e1)
     have Z0_B6:=Pbh6_2_7_5_B6.far hne' (.bool n1) (.slice a1 l1 c1) (.int .i64 e1)
     obtain⟨Y0,hY0⟩:∃Y,Y=st3w ubh6_2_7_5 B5 (.bool n1) (.slice a1 l1 c1) (.int .i64 e1):=⟨_,rfl⟩
     rw[←hY0]at Q0 KL0 S0_1 S0_2 Z0_B6
     rw[show((ubh6_2_7_5.setCell ⟨B5,0,none⟩ (.bool n1)).setCell ⟨B5,1,none⟩ (.slice a1 l1 c1)).setCell ⟨B5,2,none⟩ (.int .i64 e1)=Y0 from hY0.symm]
     clear hY0 d0 d1 d2 fz hL0
     have d0:=Z0_B6.c0
     have d1:=Z0_B6.c1
     have d2:=Z0_B6.c2
     have fz:=Z0_B6.fz
     have KL1:=kept_st3 KL0 lB6 (.bool n2) (.slice a2 l2 c2) (.int .i64 e2)
     refine wpAnyT_late (i:=9) (by kernel_rfl) rfl (by kernel_rfl) (fun K hK9=>?_)
     go_simp
     refine hK9.out _ _ (HS0.out _ KL1) (fun hL1=>?_)
     clear hK9 K
     (try simp only[Act.put,zA,zB,zC,zD,zE,zF])
     have Q1:=Z0_B6.set (.bool n2) (.slice a2 l2 c2) (.int .i64 e2)
     have S1_1:=ni_st3 S0_1 (b:=B6) (by simp) (.bool n2) (.slice a2 l2 c2) (.int .i64 e2)
     have S1_2:=ni_st3 S0_2 (b:=B6) (by simp) (.bool n2) (.slice a2 l2 c2) (.int .i64 e2)
     have Z1_B5:=Q0.far hne (.bool n2) (.slice a2 l2 c2) (.int .i64 e2)
     obtain⟨Y1,hY1⟩:∃Y,Y=st3w Y0 B6 (.bool n2) (.slice a2 l2 c2) (.int .i64 e2):=⟨_,rfl⟩
     rw[←hY1]at Q1 KL1 S1_1 S1_2 Z1_B5
     rw[show((Y0.setCell ⟨B6,0,none⟩ (.bool n2)).setCell ⟨B6,1,none⟩ (.slice a2 l2 c2)).setCell ⟨B6,2,none⟩ (.int .i64 e2)=Y1 from hY1.symm]
     clear hY1 d0 d1 d2 fz hL1
     refine wpAnyT_done (by kernel_rfl) ?_ _
     (try simp only[Act.put,zA,zB,zC,zD,zE,zF])
     exact HNf.out B5 B6 n1 a1 l1 c1 e1 n2 a2 l2 c2 e2 Y1 ⟨lB5,Z1_B5,(ni_nil S1_1),lB6,Q1,(ni_nil S1_2),hne,KL1⟩
   ·skip
    intro K hK9
    go_simp
    have gbh6_7:=N3.new ubh6 (.bool false) (.slice none 0 0) (.int .i64 0) 43
    have kbh6_7:Kept ubh6 (ubh6.alloc (.cells #[.bool false,.slice none 0 0,.int .i64 0] 43)):=(Kept.refl ubh6).alloc _ _
    obtain⟨ubh6_7,hubh6_7⟩:∃u,u=ubh6.alloc (.cells #[.bool false,.slice none 0 0,.int .i64 0] 43):=⟨_,rfl⟩
    obtain⟨B6,hbbh6_7⟩:∃b,b=ubh6.heap.size:=⟨_,rfl⟩
    rw[←hubh6_7,←hbbh6_7]at gbh6_7
    rw[←hubh6_7]at kbh6_7 ⊢
    rw[←hbbh6_7]
    have Kbh6_7:=Kbh6.trans kbh6_7
    have lB6:X.heap.size≤B6:=by rw[hbbh6_7];exact Kbh6.below.size
    have Pbh6_7_B5:=gbh6.kept kbh6_7
    have hne:¬B5=B6:=by have:=gbh6.lt;omega
    have hne':¬B6=B5:=fun e=>hne e.symm
    clear hubh6_7 hbbh6_7
    refine hK9.out _ _ trivial (HS0.out _ Kbh6_7) (fun _ hTbh6_7=>?_)
    clear hK9 K
    (try simp only[Act.put,zA,zB,zC,zD,zE,zF])
    refine wpAnyT_one (i:=2) (by kernel_rfl) rfl ?_
    intro K hK9
    go_simp
    refine(KN1.out [B6,B5] _ (lt2 gbh6_7.lt Pbh6_7_B5.lt)).mono ?_
    rintro e ubh6_7_2 ⟨v1,rfl,Mbh6_7_2,kbh6_7_2⟩
    obtain⟨n1,a1,l1,c1,e1,rfl⟩:=Mbh6_7_2.shape5
    have Kbh6_7_2:=Kbh6_7.trans kbh6_7_2
    have Pbh6_7_2_B5:=Pbh6_7_B5.kept kbh6_7_2
    have Pbh6_7_2_B6:=gbh6_7.kept kbh6_7_2
    refine hK9.out _ _ trivial (HS0.out _ Kbh6_7_2) (fun _ hTbh6_7_2=>?_)
    clear hK9 K
    (try simp only[Act.put,zA,zB,zC,zD,zE,zF])
    refine wpAnyT_one (i:=5) (by kernel_rfl) rfl ?_
    intro K hK9
    go_simp
    refine(KN2.out [B6,B5] _ (lt2 Pbh6_7_2_B6.lt Pbh6_7_2_B5.lt)).mono ?_
    rintro e ubh6_7_2_5 ⟨v2,rfl,Mbh6_7_2_5,kbh6_7_2_5⟩
    obtain⟨n2,a2,l2,c2,e2,rfl⟩:=Mbh6_7_2_5.shape5
    have Kbh6_7_2_5:=Kbh6_7_2.trans kbh6_7_2_5
    have Mbh6_7_2_5_1:=Mbh6_7_2.kept kbh6_7_2_5
    have Pbh6_7_2_5_B5:=Pbh6_7_2_B5.kept kbh6_7_2_5
    have Pbh6_7_2_5_B6:=Pbh6_7_2_B6.kept kbh6_7_2_5
    refine hK9.out _ _ trivial (HS0.out _ Kbh6_7_2_5) (fun _ hTbh6_7_2_5=>?_)
    clear hK9 K
    (try simp only[Act.put,zA,zB,zC,zD,zE,zF])
    have d0:=Pbh6_7_2_5_B5.c0
    have d1:=Pbh6_7_2_5_B5.c1
    have d2:=Pbh6_7_2_5_B5.c2
    have fz:=Pbh6_7_2_5_B5.fz
    have KL0:=kept_st3 Kbh6_7_2_5 lB5 (.bool n1) (.slice a1 l1 c1) (.int .i64 e1)
    refine wpAnyT_late (i:=8) (by kernel_rfl) rfl (by kernel_rfl) (fun K hK9=>?_)
    go_simp
    refine hK9.out _ _ (HS0.out _ KL0) (fun hL0=>?_)
    clear hK9 K
    (try simp only[Act.put,zA,zB,zC,zD,zE,zF])
    have Q0:=Pbh6_7_2_5_B5.set (.bool n1) (.slice a1 l1 c1) (.int .i64 e1)
    have S0_1:=ni_st3 Mbh6_7_2_5_1 (b:=B5) (by simp) (.bool n1) (.slice a1 l1 c1) (.int .i64 e1)
    have S0_2:=ni_st3 Mbh6_7_2_5 (b:=B5) (by simp) (.bool n1) (.slice a1 l1 c1) (.int .i64 e1)
    have Z0_B6:=Pbh6_7_2_5_B6.far hne' (.bool n1) (.slice a1 l1 c1) (.int .i64 e1)
    obtain⟨Y0,hY0⟩:∃Y,Y=st3w ubh6_7_2_5 B5 (.bool n1) (.slice a1 l1 c1) (.int .i64 e1):=⟨_,rfl⟩
    rw[←hY0]at Q0 KL0 S0_1 S0_2 Z0_B6
    rw[show((ubh6_7_2_5.setCell ⟨B5,0,none⟩ (.bool n1)).setCell ⟨B5,1,none⟩ (.slice a1 l1 c1)).setCell ⟨B5,2,none⟩ (.int .i64 e1)=Y0 from hY0.symm]
    clear hY0 d0 d1 d2 fz hL0
    have d0:=Z0_B6.c0
    have d1:=Z0_B6.c1
    have d2:=Z0_B6.c2
    have fz:=Z0_B6.fz
    have KL1:=kept_st3 KL0 lB6 (.bool n2) (.slice a2 l2 c2) (.int .i64 e2)
    refine wpAnyT_late (i:=9) (by kernel_rfl) rfl (by kernel_rfl) (fun K hK9=>?_)
    go_simp
    refine hK9.out _ _ (HS0.out _ KL1) (fun hL1=>?_)
    clear hK9 K
    (try simp only[Act.put,zA,zB,zC,zD,zE,zF])
    have Q1:=Z0_B6.set (.bool n2) (.slice a2 l2 c2) (.int .i64 e2)
    have S1_1:=ni_st3 S0_1 (b:=B6) (by simp) (.bool n2) (.slice a2 l2 c2) (.int .i64 e2)
    have S1_2:=ni_st3 S0_2 (b:=B6) (by simp) (.bool n2) (.slice a2 l2 c2) (.int .i64 e2)
    have Z1_B5:=Q0.far hne (.bool n2) (.slice a2 l2 c2) (.int .i64 e2)
    obtain⟨Y1,hY1⟩:∃Y,Y=st3w Y0 B6 (.bool n2) (.slice a2 l2 c2) (.int .i64 e2):=⟨_,rfl⟩
    rw[←hY1]at Q1 KL1 S1_1 S1_2 Z1_B5
    rw[show((Y0.setCell ⟨B6,0,none⟩ (.bool n2)).setCell ⟨B6,1,none⟩ (.slice a2 l2 c2)).setCell ⟨B6,2,none⟩ (.int .i64 e2)=Y1 from hY1.symm]
    clear hY1 d0 d1 d2 fz hL1
    refine wpAnyT_done (by kernel_rfl) ?_ _
    (try simp only[Act.put,zA,zB,zC,zD,zE,zF])
    exact HNf.out B5 B6 n1 a1 l1 c1 e1 n2 a2 l2 c2 e2 Y1 ⟨lB5,Z1_B5,(ni_nil S1_1),lB6,Q1,(ni_nil S1_2),hne,KL1⟩
  ·skip
   intro K hK9
   go_simp
   have gbh7:=N3.new Y0 (.bool false) (.slice none 0 0) (.int .i64 0) 43
   have kbh7:Kept Y0 (Y0.alloc (.cells #[.bool false,.slice none 0 0,.int .i64 0] 43)):=(Kept.refl Y0).alloc _ _
   obtain⟨ubh7,hubh7⟩:∃u,u=Y0.alloc (.cells #[.bool false,.slice none 0 0,.int .i64 0] 43):=⟨_,rfl⟩
   obtain⟨B6,hbbh7⟩:∃b,b=Y0.heap.size:=⟨_,rfl⟩
   rw[←hubh7,←hbbh7]at gbh7
   rw[←hubh7]at kbh7 ⊢
   rw[←hbbh7]
   have Kbh7:=k0.trans kbh7
   have lB6:X.heap.size≤B6:=by rw[hbbh7];exact k0.below.size
   clear hubh7 hbbh7
   refine hK9.out _ _ trivial (HS0.out _ Kbh7) (fun _ hTbh7=>?_)
   clear hK9 K
   (try simp only[Act.put,zA,zB,zC,zD,zE,zF])
   refine wpAnyT_two (i:=2) (j:=6) (by kernel_rfl) rfl rfl ?_ ?_
   ·skip
    intro K hK9
    go_simp
    refine(KN1.out [B6] _ (lt1 gbh7.lt)).mono ?_
    rintro e ubh7_2 ⟨v1,rfl,Mbh7_2,kbh7_2⟩
    obtain⟨n1,a1,l1,c1,e1,rfl⟩:=Mbh7_2.shape5
    have Kbh7_2:=Kbh7.trans kbh7_2
    have Pbh7_2_B6:=gbh7.kept kbh7_2
    refine hK9.out _ _ trivial (HS0.out _ Kbh7_2) (fun _ hTbh7_2=>?_)
    clear hK9 K
    (try simp only[Act.put,zA,zB,zC,zD,zE,zF])
    refine wpAnyT_two (i:=5) (j:=6) (by kernel_rfl) rfl rfl ?_ ?_
    ·skip
     intro K hK9
     go_simp
     refine(KN2.out [B6] _ (lt1 Pbh7_2_B6.lt)).mono ?_
     rintro e ubh7_2_5 ⟨v2,rfl,Mbh7_2_5,kbh7_2_5⟩
     obtain⟨n2,a2,l2,c2,e2,rfl⟩:=Mbh7_2_5.shape5
     have Kbh7_2_5:=Kbh7_2.trans kbh7_2_5
     have Mbh7_2_5_1:=Mbh7_2.kept kbh7_2_5
     have Pbh7_2_5_B6:=Pbh7_2_B6.kept kbh7_2_5
     refine hK9.out _ _ trivial (HS0.out _ Kbh7_2_5) (fun _ hTbh7_2_5=>?_)
     clear hK9 K
     (try simp only[Act.put,zA,zB,zC,zD,zE,zF])
     refine wpAnyT_one (i:=6) (by kernel_rfl) rfl ?_
     intro K hK9
     go_simp
     have gbh7_2_5_6:=N3.new ubh7_2_5 (.bool false) (.slice none 0 0) (.int .i64 0) 43
     have kbh7_2_5_6:Kept ubh7_2_5 (ubh7_2_5.alloc (.cells #[.bool false,.slice none 0 0,.int .i64 0] 43)):=(Kept.refl ubh7_2_5).alloc _ _
     obtain⟨ubh7_2_5_6,hubh7_2_5_6⟩:∃u,u=ubh7_2_5.alloc (.cells #[.bool false,.slice none 0 0,.int .i64 0] 43):=⟨_,rfl⟩
     obtain⟨B5,hbbh7_2_5_6⟩:∃b,b=ubh7_2_5.heap.size:=⟨_,rfl⟩
     rw[←hubh7_2_5_6,←hbbh7_2_5_6]at gbh7_2_5_6
     rw[←hubh7_2_5_6]at kbh7_2_5_6 ⊢
     rw[←hbbh7_2_5_6]
     have Kbh7_2_5_6:=Kbh7_2_5.trans kbh7_2_5_6
     have lB5:X.heap.size≤B5:=by rw[hbbh7_2_5_6];exact Kbh7_2_5.below.size
     have Mbh7_2_5_6_1:=ni_alloc B5 Mbh7_2_5_1 kbh7_2_5_6 hbbh7_2_5_6
     have Mbh7_2_5_6_2:=ni_alloc B5 Mbh7_2_5 kbh7_2_5_6 hbbh7_2_5_6
     have Pbh7_2_5_6_B6:=Pbh7_2_5_B6.kept kbh7_2_5_6
     have hne:¬B5=B6:=by have:=Pbh7_2_5_B6.lt;omega
     have hne':¬B6=B5:=fun e=>hne e.symm
     clear hubh7_2_5_6 hbbh7_2_5_6
     refine hK9.out _ _ trivial (HS0.out _ Kbh7_2_5_6) (fun _ hTbh7_2_5_6=>?_)
     clear hK9 K
     (try simp only[Act.put,zA,zB,zC,zD,zE,zF])
     have d0:=gbh7_2_5_6.c0
     have d1:=gbh7_2_5_6.c1
     have d2:=gbh7_2_5_6.c2
     have fz:=gbh7_2_5_6.fz
     have KL0:=kept_st3 Kbh7_2_5_6 lB5 (.bool n1) (.slice a1 l1 c1) (.int .i64 e1)
     refine wpAnyT_late (i:=8) (by kernel_rfl) rfl (by kernel_rfl) (fun K hK9=>?_)
     go_simp
     refine hK9.out _ _ (HS0.out _ KL0) (fun hL0=>?_)
     clear hK9 K
     (try simp only[Act.put,zA,zB,zC,zD,zE,zF])
     have Q0:=gbh7_2_5_6.set (.bool n1) (.slice a1 l1 c1) (.int .i64 e1)
     have S0_1:=ni_st3 Mbh7_2_5_6_1 (b:=B5) (by simp) (.bool n1) (.slice a1 l1 c1) (.int .i64 e1)
     have S0_2:=ni_st3 Mbh7_2_5_6_2 (b:=B5) (by simp) (.bool n1) (.slice a1 l1 c1) (.int .i64 e1)
     have Z0_B6:=Pbh7_2_5_6_B6.far hne' (.bool n1) (.slice a1 l1 c1) (.int .i64 e1)
     obtain⟨Y0,hY0⟩:∃Y,Y=st3w ubh7_2_5_6 B5 (.bool n1) (.slice a1 l1 c1) (.int .i64 e1):=⟨_,rfl⟩
     rw[←hY0]at Q0 KL0 S0_1 S0_2 Z0_B6
     rw[show((ubh7_2_5_6.setCell ⟨B5,0,none⟩ (.bool n1)).setCell ⟨B5,1,none⟩ (.slice a1 l1 c1)).setCell ⟨B5,2,none⟩ (.int .i64 e1)=Y0 from hY0.symm]
     clear hY0 d0 d1 d2 fz hL0
     have d0:=Z0_B6.c0
     have d1:=Z0_B6.c1
     have d2:=Z0_B6.c2
     have fz:=Z0_B6.fz
     have KL1:=kept_st3 KL0 lB6 (.bool n2) (.slice a2 l2 c2) (.int .i64 e2)
     refine wpAnyT_late (i:=9) (by kernel_rfl) rfl (by kernel_rfl) (fun K hK9=>?_)
     go_simp
     refine hK9.out _ _ (HS0.out _ KL1) (fun hL1=>?_)
     clear hK9 K
     (try simp only[Act.put,zA,zB,zC,zD,zE,zF])
     have Q1:=Z0_B6.set (.bool n2) (.slice a2 l2 c2) (.int .i64 e2)
     have S1_1:=ni_st3 S0_1 (b:=B6) (by simp) (.bool n2) (.slice a2 l2 c2) (.int .i64 e2)
     have S1_2:=ni_st3 S0_2 (b:=B6) (by simp) (.bool n2) (.slice a2 l2 c2) (.int .i64 e2)
     have Z1_B5:=Q0.far hne (.bool n2) (.slice a2 l2 c2) (.int .i64 e2)
     obtain⟨Y1,hY1⟩:∃Y,Y=st3w Y0 B6 (.bool n2) (.slice a2 l2 c2) (.int .i64 e2):=⟨_,rfl⟩
     rw[←hY1]at Q1 KL1 S1_1 S1_2 Z1_B5
     rw[show((Y0.setCell ⟨B6,0,none⟩ (.bool n2)).setCell ⟨B6,1,none⟩ (.slice a2 l2 c2)).setCell ⟨B6,2,none⟩ (.int .i64 e2)=Y1 from hY1.symm]
     clear hY1 d0 d1 d2 fz hL1
     refine wpAnyT_done (by kernel_rfl) ?_ _
     (try simp only[Act.put,zA,zB,zC,zD,zE,zF])
     exact HNf.out B5 B6 n1 a1 l1 c1 e1 n2 a2 l2 c2 e2 Y1 ⟨lB5,Z1_B5,(ni_nil S1_1),lB6,Q1,(ni_nil S1_2),hne,KL1⟩
    ·skip
     intro K hK9
     go_simp
     have gbh7_2_6:=N3.new ubh7_2 (.bool false) (.slice none 0 0) (.int .i64 0) 43
     have kbh7_2_6:Kept ubh7_2 (ubh7_2.alloc (.cells #[.bool false,.slice none 0 0,.int .i64 0] 43)):=(Kept.refl ubh7_2).alloc _ _
     obtain⟨ubh7_2_6,hubh7_2_6⟩:∃u,u=ubh7_2.alloc (.cells #[.bool false,.slice none 0 0,.int .i64 0] 43):=⟨_,rfl⟩
     obtain⟨B5,hbbh7_2_6⟩:∃b,b=ubh7_2.heap.size:=⟨_,rfl⟩
     rw[←hubh7_2_6,←hbbh7_2_6]at gbh7_2_6
     rw[←hubh7_2_6]at kbh7_2_6 ⊢
     rw[←hbbh7_2_6]
     have Kbh7_2_6:=Kbh7_2.trans kbh7_2_6
     have lB5:X.heap.size≤B5:=by rw[hbbh7_2_6];exact Kbh7_2.below.size
     have Mbh7_2_6_1:=ni_alloc B5 Mbh7_2 kbh7_2_6 hbbh7_2_6
     have Pbh7_2_6_B6:=Pbh7_2_B6.kept kbh7_2_6
     have hne:¬B5=B6:=by have:=Pbh7_2_B6.lt;omega
     have hne':¬B6=B5:=fun e=>hne e.symm
     clear hubh7_2_6 hbbh7_2_6
     refine hK9.out _ _ trivial (HS0.out _ Kbh7_2_6) (fun _ hTbh7_2_6=>?_)
     clear hK9 K
     (try simp only[Act.put,zA,zB,zC,zD,zE,zF])
     refine wpAnyT_one (i:=5) (by kernel_rfl) rfl ?_
     intro K hK9
     go_simp
     refine(KN2.out [B5,B6] _ (lt2 gbh7_2_6.lt Pbh7_2_6_B6.lt)).mono ?_
     rintro e ubh7_2_6_5 ⟨v2,rfl,Mbh7_2_6_5,kbh7_2_6_5⟩
     obtain⟨n2,a2,l2,c2,e2,rfl⟩:=Mbh7_2_6_5.shape5
     have Kbh7_2_6_5:=Kbh7_2_6.trans kbh7_2_6_5
     have Mbh7_2_6_5_1:=Mbh7_2_6_1.kept kbh7_2_6_5
     have Pbh7_2_6_5_B6:=Pbh7_2_6_B6.kept kbh7_2_6_5
     have Pbh7_2_6_5_B5:=gbh7_2_6.kept kbh7_2_6_5
     refine hK9.out _ _ trivial (HS0.out _ Kbh7_2_6_5) (fun _ hTbh7_2_6_5=>?_)
     clear hK9 K
     (try simp only[Act.put,zA,zB,zC,zD,zE,zF])
     have d0:=Pbh7_2_6_5_B5.c0
     have d1:=Pbh7_2_6_5_B5.c1
     have d2:=Pbh7_2_6_5_B5.c2
     have fz:=Pbh7_2_6_5_B5.fz
     have KL0:=kept_st3 Kbh7_2_6_5 lB5 (.bool n1) (.slice a1 l1 c1) (.int .i64 e1)
     refine wpAnyT_late (i:=8) (by kernel_rfl) rfl (by kernel_rfl) (fun K hK9=>?_)
     go_simp
     refine hK9.out _ _ (HS0.out _ KL0) (fun hL0=>?_)
     clear hK9 K
     (try simp only[Act.put,zA,zB,zC,zD,zE,zF])
     have Q0:=Pbh7_2_6_5_B5.set (.bool n1) (.slice a1 l1 c1) (.int .i64 e1)
     have S0_1:=ni_st3 Mbh7_2_6_5_1 (b:=B5) (by simp) (.bool n1) (.slice a1 l1 c1) (.int .i64 e1)
     have S0_2:=ni_st3 Mbh7_2_6_5 (b:=B5) (by simp) (.bool n1) (.slice a1 l1 c1) (.int .i64 e1)
     have Z0_B6:=Pbh7_2_6_5_B6.far hne' (.bool n1) (.slice a1 l1 c1) (.int .i64 e1)
     obtain⟨Y0,hY0⟩:∃Y,Y=st3w ubh7_2_6_5 B5 (.bool n1) (.slice a1 l1 c1) (.int .i64 e1):=⟨_,rfl⟩
     rw[←hY0]at Q0 KL0 S0_1 S0_2 Z0_B6
     rw[show((ubh7_2_6_5.setCell ⟨B5,0,none⟩ (.bool n1)).setCell ⟨B5,1,none⟩ (.slice a1 l1 c1)).setCell ⟨B5,2,none⟩ (.int .i64 e1)=Y0 from hY0.symm]
     clear hY0 d0 d1 d2 fz hL0
     have d0:=Z0_B6.c0
     have d1:=Z0_B6.c1
     have d2:=Z0_B6.c2
     have fz:=Z0_B6.fz
     have KL1:=kept_st3 KL0 lB6 (.bool n2) (.slice a2 l2 c2) (.int .i64 e2)
     refine wpAnyT_late (i:=9) (by kernel_rfl) rfl (by kernel_rfl) (fun K hK9=>?_)
     go_simp
     refine hK9.out _ _ (HS0.out _ KL1) (fun hL1=>?_)
     clear hK9 K
     (try simp only[Act.put,zA,zB,zC,zD,zE,zF])
     have Q1:=Z0_B6.set (.bool n2) (.slice a2 l2 c2) (.int .i64 e2)
     have S1_1:=ni_st3 S0_1 (b:=B6) (by simp) (.bool n2) (.slice a2 l2 c2) (.int .i64 e2)
     have S1_2:=ni_st3 S0_2 (b:=B6) (by simp) (.bool n2) (.slice a2 l2 c2) (.int .i64 e2)
     have Z1_B5:=Q0.far hne (.bool n2) (.slice a2 l2 c2) (.int .i64 e2)
     obtain⟨Y1,hY1⟩:∃Y,Y=st3w Y0 B6 (.bool n2) (.slice a2 l2 c2) (.int .i64 e2):=⟨_,rfl⟩
     rw[←hY1]at Q1 KL1 S1_1 S1_2 Z1_B5
     rw[show((Y0.setCell ⟨B6,0,none⟩ (.bool n2)).setCell ⟨B6,1,none⟩ (.slice a2 l2 c2)).setCell ⟨B6,2,none⟩ (.int .i64 e2)=Y1 from hY1.symm]
     clear hY1 d0 d1 d2 fz hL1
     refine wpAnyT_done (by kernel_rfl) ?_ _
     (try simp only[Act.put,zA,zB,zC,zD,zE,zF])
     exact HNf.out B5 B6 n1 a1 l1 c1 e1 n2 a2 l2 c2 e2 Y1 ⟨lB5,Z1_B5,(ni_nil S1_1),lB6,Q1,(ni_nil S1_2),hne,KL1⟩
   ·skip
    intro K hK9
    go_simp
    have gbh7_6:=N3.new ubh7 (.bool false) (.slice none 0 0) (.int .i64 0) 43
    have kbh7_6:Kept ubh7 (ubh7.alloc (.cells #[.bool false,.slice none 0 0,.int .i64 0] 43)):=(Kept.refl ubh7).alloc _ _
    obtain⟨ubh7_6,hubh7_6⟩:∃u,u=ubh7.alloc (.cells #[.bool false,.slice none 0 0,.int .i64 0] 43):=⟨_,rfl⟩
    obtain⟨B5,hbbh7_6⟩:∃b,b=ubh7.heap.size:=⟨_,rfl⟩
    rw[←hubh7_6,←hbbh7_6]at gbh7_6
    rw[←hubh7_6]at kbh7_6 ⊢
    rw[←hbbh7_6]
    have Kbh7_6:=Kbh7.trans kbh7_6
    have lB5:X.heap.size≤B5:=by rw[hbbh7_6];exact Kbh7.below.size
    have Pbh7_6_B6:=gbh7.kept kbh7_6
    have hne:¬B5=B6:=by have:=gbh7.lt;omega
    have hne':¬B6=B5:=fun e=>hne e.symm
    clear hubh7_6 hbbh7_6
    refine hK9.out _ _ trivial (HS0.out _ Kbh7_6) (fun _ hTbh7_6=>?_)
    clear hK9 K
    (try simp only[Act.put,zA,zB,zC,zD,zE,zF])
    refine wpAnyT_one (i:=2) (by kernel_rfl) rfl ?_
    intro K hK9
    go_simp
    refine(KN1.out [B5,B6] _ (lt2 gbh7_6.lt Pbh7_6_B6.lt)).mono ?_
    rintro e ubh7_6_2 ⟨v1,rfl,Mbh7_6_2,kbh7_6_2⟩
    obtain⟨n1,a1,l1,c1,e1,rfl⟩:=Mbh7_6_2.shape5
    have Kbh7_6_2:=Kbh7_6.trans kbh7_6_2
    have Pbh7_6_2_B6:=Pbh7_6_B6.kept kbh7_6_2
    have Pbh7_6_2_B5:=gbh7_6.kept kbh7_6_2
    refine hK9.out _ _ trivial (HS0.out _ Kbh7_6_2) (fun _ hTbh7_6_2=>?_)
    clear hK9 K
    (try simp only[Act.put,zA,zB,zC,zD,zE,zF])
    refine wpAnyT_one (i:=5) (by kernel_rfl) rfl ?_
    intro K hK9
    go_simp
    refine(KN2.out [B5,B6] _ (lt2 Pbh7_6_2_B5.lt Pbh7_6_2_B6.lt)).mono ?_
    rintro e ubh7_6_2_5 ⟨v2,rfl,Mbh7_6_2_5,kbh7_6_2_5⟩
    obtain⟨n2,a2,l2,c2,e2,rfl⟩:=Mbh7_6_2_5.shape5
    have Kbh7_6_2_5:=Kbh7_6_2.trans kbh7_6_2_5
    have Mbh7_6_2_5_1:=Mbh7_6_2.kept kbh7_6_2_5
    have Pbh7_6_2_5_B6:=Pbh7_6_2_B6.kept kbh7_6_2_5
    have Pbh7_6_2_5_B5:=Pbh7_6_2_B5.kept kbh7_6_2_5
    refine hK9.out _ _ trivial (HS0.out _ Kbh7_6_2_5) (fun _ hTbh7_6_2_5=>?_)
    clear hK9 K
    (try simp only[Act.put,zA,zB,zC,zD,zE,zF])
    have d0:=Pbh7_6_2_5_B5.c0
    have d1:=Pbh7_6_2_5_B5.c1
    have d2:=Pbh7_6_2_5_B5.c2
    have fz:=Pbh7_6_2_5_B5.fz
    have KL0:=kept_st3 Kbh7_6_2_5 lB5 (.bool n1) (.slice a1 l1 c1) (.int .i64 e1)
    refine wpAnyT_late (i:=8) (by kernel_rfl) rfl (by kernel_rfl) (fun K hK9=>?_)
    go_simp
    refine hK9.out _ _ (HS0.out _ KL0) (fun hL0=>?_)
    clear hK9 K
    (try simp only[Act.put,zA,zB,zC,zD,zE,zF])
    have Q0:=Pbh7_6_2_5_B5.set (.bool n1) (.slice a1 l1 c1) (.int .i64 e1)
    have S0_1:=ni_st3 Mbh7_6_2_5_1 (b:=B5) (by simp) (.bool n1) (.slice a1 l1 c1) (.int .i64 e1)
    have S0_2:=ni_st3 Mbh7_6_2_5 (b:=B5) (by simp) (.bool n1) (.slice a1 l1 c1) (.int .i64 e1)
    have Z0_B6:=Pbh7_6_2_5_B6.far hne' (.bool n1) (.slice a1 l1 c1) (.int .i64 e1)
    obtain⟨Y0,hY0⟩:∃Y,Y=st3w ubh7_6_2_5 B5 (.bool n1) (.slice a1 l1 c1) (.int .i64 e1):=⟨_,rfl⟩
    rw[←hY0]at Q0 KL0 S0_1 S0_2 Z0_B6
    rw[show((ubh7_6_2_5.setCell ⟨B5,0,none⟩ (.bool n1)).setCell ⟨B5,1,none⟩ (.slice a1 l1 c1)).setCell ⟨B5,2,none⟩ (.int .i64 e1)=Y0 from hY0.symm]
    clear hY0 d0 d1 d2 fz hL0
    have d0:=Z0_B6.c0
    have d1:=Z0_B6.c1
    have d2:=Z0_B6.c2
    have fz:=Z0_B6.fz
    have KL1:=kept_st3 KL0 lB6 (.bool n2) (.slice a2 l2 c2) (.int .i64 e2)
    refine wpAnyT_late (i:=9) (by kernel_rfl) rfl (by kernel_rfl) (fun K hK9=>?_)
    go_simp
    refine hK9.out _ _ (HS0.out _ KL1) (fun hL1=>?_)
    clear hK9 K
    (try simp only[Act.put,zA,zB,zC,zD,zE,zF])
    have Q1:=Z0_B6.set (.bool n2) (.slice a2 l2 c2) (.int .i64 e2)
    have S1_1:=ni_st3 S0_1 (b:=B6) (by simp) (.bool n2) (.slice a2 l2 c2) (.int .i64 e2)
    have S1_2:=ni_st3 S0_2 (b:=B6) (by simp) (.bool n2) (.slice a2 l2 c2) (.int .i64 e2)
    have Z1_B5:=Q0.far hne (.bool n2) (.slice a2 l2 c2) (.int .i64 e2)
    obtain⟨Y1,hY1⟩:∃Y,Y=st3w Y0 B6 (.bool n2) (.slice a2 l2 c2) (.int .i64 e2):=⟨_,rfl⟩
    rw[←hY1]at Q1 KL1 S1_1 S1_2 Z1_B5
    rw[show((Y0.setCell ⟨B6,0,none⟩ (.bool n2)).setCell ⟨B6,1,none⟩ (.slice a2 l2 c2)).setCell ⟨B6,2,none⟩ (.int .i64 e2)=Y1 from hY1.symm]
    clear hY1 d0 d1 d2 fz hL1
    refine wpAnyT_done (by kernel_rfl) ?_ _
    (try simp only[Act.put,zA,zB,zC,zD,zE,zF])
    exact HNf.out B5 B6 n1 a1 l1 c1 e1 n2 a2 l2 c2 e2 Y1 ⟨lB5,Z1_B5,(ni_nil S1_1),lB6,Q1,(ni_nil S1_2),hne,KL1⟩
 case contbh=>
  intro B5 B6 n1 a1 l1 c1 e1 n2 a2 l2 c2 e2 Y hF
  obtain⟨hl5,p5,N1,hl6,p6,N2,hne,kY⟩:=hF
  have HS:Hid (∀u,Kept Y u→Kept Y u∧(u.cell? ⟨B0,0,none⟩=some (.int .i64 kd)∧u.cell? ⟨B0,1,none⟩=some (.int .i64 ba)∧u.cell? ⟨B0,2,none⟩=some (.int .i64 fa)∧u.cell? ⟨B0,3,none⟩=some (.int .i64 wa)∧u.cell? ⟨B0,4,none⟩=some (.int .i64 ev)∧u.cell? ⟨B0,5,none⟩=some (.int .i64 tt))∧(u.cell? ⟨B5,0,none⟩=some (.bool n1)∧u.cell? ⟨B5,1,none⟩=some (.slice a1 l1 c1)∧u.cell? ⟨B5,2,none⟩=some (.int .i64 e1))∧(u.cell? ⟨B6,0,none⟩=some (.bool n2)∧u.cell? ⟨B6,1,none⟩=some (.slice a2 l2 c2)∧u.cell? ⟨B6,2,none⟩=some (.int .i64 e2))):=fun u k=>⟨k,HS0.out u (kY.trans k),⟨(p5.kept k).c0,(p5.kept k).c1,(p5.kept k).c2⟩,⟨(p6.kept k).c0,(p6.kept k).c1,(p6.kept k).c2⟩⟩
  have A1:=hidr N1
  have A2:=hidr N2
  have HQ:=hidr (hK.trans kY)
  clear hl5 p5 N1 hl6 p6 N2 hne kY HS0 hK
  have HS1:Hid (∀u,Kept Y u→u.cell? ⟨B0,0,none⟩=some (.int .i64 kd)∧u.cell? ⟨B0,1,none⟩=some (.int .i64 ba)∧u.cell? ⟨B0,2,none⟩=some (.int .i64 fa)∧u.cell? ⟨B0,3,none⟩=some (.int .i64 wa)∧u.cell? ⟨B0,4,none⟩=some (.int .i64 ev)∧u.cell? ⟨B0,5,none⟩=some (.int .i64 tt)):=fun u k=>(HS.out u k).2.1
  obtain⟨c0,c1',c2',c3,c4,c5⟩:=HS1.out _ (Kept.refl Y)
  clear c1' c2' c3 c4 c5
  rcases KIND.out with hkind|hkind|hkind|hkind|hkind|hkind|hkind|hkind
  ·clear KIND c0
   obtain⟨rfl,hev,q,np,nt,hq,DP,DT,DN⟩:=hkind
   have hev':¬ev=0:=hev
   obtain⟨c0,-⟩:=HS1.out _ (Kept.refl Y)
   go_upto_region 4 with fail
   clear c0
   refine wp_region_held_drew (S:=fun u=>Kept Y u∧(u.cell? ⟨B0,0,none⟩=some (.int .i64 1)∧u.cell? ⟨B0,1,none⟩=some (.int .i64 ba)∧u.cell? ⟨B0,2,none⟩=some (.int .i64 fa)∧u.cell? ⟨B0,3,none⟩=some (.int .i64 wa)∧u.cell? ⟨B0,4,none⟩=some (.int .i64 ev)∧u.cell? ⟨B0,5,none⟩=some (.int .i64 tt))∧(u.cell? ⟨B5,0,none⟩=some (.bool n1)∧u.cell? ⟨B5,1,none⟩=some (.slice a1 l1 c1)∧u.cell? ⟨B5,2,none⟩=some (.int .i64 e1))∧(u.cell? ⟨B6,0,none⟩=some (.bool n2)∧u.cell? ⟨B6,1,none⟩=some (.slice a2 l2 c2)∧u.cell? ⟨B6,2,none⟩=some (.int .i64 e2))) (by kernel_rfl) (HS.out _ (Kept.refl Y).drew) (fun hHeld=>?_)
   refine tk (i:=0) (v:=?_) rfl ?_
   simp only[Act.put,zA,zB,zC,zD,zE,zF]
   refine tk (i:=1) (v:=?_) rfl ?_
   simp only[Act.put,zA,zB,zC,zD,zE,zF]
   refine tk (i:=2) (v:=?_) rfl ?_
   simp only[Act.put,zA,zB,zC,zD,zE,zF]
   refine tk (i:=3) (v:=?_) rfl ?_
   simp only[Act.put,zA,zB,zC,zD,zE,zF]
   refine tk (i:=4) (v:=?_) rfl ?_
   simp only[Act.put,zA,zB,zC,zD,zE,zF]
   refine tk (i:=5) (v:=?_) rfl ?_
   simp only[Act.put,zA,zB,zC,zD,zE,zF]
   have M1:=hidr (A1.out.kept (Kept.refl Y).drew)
   have M2:=hidr (A2.out.kept (Kept.refl Y).drew)
   replace M1:=M1.out
   replace M2:=M2.out
   refine wpAnyH_ready (rs:=[6]) (by kernel_rfl) (by simp) ?_
   refine AllReadyH.cons rfl (fun K hK9=>?_) AllReadyH.nil
   go_simp
   refine(least_any q 900 _).mono ?_
   rintro e u6 ⟨rfl,k6⟩
   replace M1:=M1.kept k6
   replace M2:=M2.kept k6
   have r6:=(Kept.refl Y).drew.trans k6
   have e6':=HS.out _ r6
   refine hK9.out _ _ e6' (fun hHeld6=>?_)
   clear hK9 K
   (try simp only[Act.put,zA,zB,zC,zD,zE,zF])
   refine wpAnyH_ready (rs:=[7]) (by kernel_rfl) (by simp) ?_
   refine AllReadyH.cons rfl (fun K hK9=>?_) AllReadyH.nil
   go_simp
   refine(DP _ _ M2).mono ?_
   rintro e u7 ⟨v3,rfl,M3,k7⟩
   replace M1:=M1.kept k7
   have r7:=r6.trans k7
   have e7':=HS.out _ r7
   refine hK9.out _ _ e7' (fun hHeld7=>?_)
   clear hK9 K
   (try simp only[Act.put,zA,zB,zC,zD,zE,zF])
   refine wpAnyH_ready (rs:=[8]) (by kernel_rfl) (by simp) ?_
   refine AllReadyH.cons rfl (fun K hK9=>?_) AllReadyH.nil
   go_simp
   refine(DT [] _ _ _ (lt0 _) M1 M3).mono ?_
   rintro e u8 ⟨v4,rfl,M4,k8⟩
   have r8:=r7.trans k8
   have e8':=HS.out _ r8
   refine hK9.out _ _ e8' (fun hHeld8=>?_)
   clear hK9 K
   (try simp only[Act.put,zA,zB,zC,zD,zE,zF])
   refine wpAnyH_ready (rs:=[9]) (by kernel_rfl) (by simp) ?_
   refine AllReadyH.cons rfl (fun K hK9=>?_) AllReadyH.nil
   go_simp
   refine(DN _ _ M4).mono ?_
   rintro e u9 ⟨rfl,k9⟩
   have r9:=r8.trans k9
   have e9':=HS.out _ r9
   refine hK9.out _ _ e9' (fun hHeld9=>?_)
   clear hK9 K
   (try simp only[Act.put,zA,zB,zC,zD,zE,zF])
   refine tk (i:=10) (v:=?_) rfl ?_
   simp only[Act.put,zA,zB,zC,zD,zE,zF]
   refine wpAnyH_done (by kernel_rfl) ?_ _
   go_wp2_with fail
   go_ret
   exact⟨rfl,HQ.out.trans r9⟩
  ·clear KIND c0
   obtain⟨rfl,htk,rfl⟩:=hkind
   obtain⟨c0,c1,c2,c3,c4,c5⟩:=(HS.out _ (Kept.refl Y)).2.1
   go_wp2_with fail
   go_ret
   exact⟨rfl,HQ.out⟩
  ·clear KIND c0
   obtain⟨rfl,htk,d,n1',n2',n3',hd,DW1,DT,DW2,DQ⟩:=hkind
   obtain⟨c0,c1,c2,c3,c4,c5⟩:=(HS.out _ (Kept.refl Y)).2.1
   go_upto_region 8 with fail
   clear c0 c1 c2 c3 c4 c5
   refine wp_region_held_drew (S:=fun u=>Kept Y u∧(u.cell? ⟨B0,0,none⟩=some (.int .i64 2)∧u.cell? ⟨B0,1,none⟩=some (.int .i64 ba)∧u.cell? ⟨B0,2,none⟩=some (.int .i64 fa)∧u.cell? ⟨B0,3,none⟩=some (.int .i64 wa)∧u.cell? ⟨B0,4,none⟩=some (.int .i64 ev)∧u.cell? ⟨B0,5,none⟩=some (.int .i64 tt))∧(u.cell? ⟨B5,0,none⟩=some (.bool n1)∧u.cell? ⟨B5,1,none⟩=some (.slice a1 l1 c1)∧u.cell? ⟨B5,2,none⟩=some (.int .i64 e1))∧(u.cell? ⟨B6,0,none⟩=some (.bool n2)∧u.cell? ⟨B6,1,none⟩=some (.slice a2 l2 c2)∧u.cell? ⟨B6,2,none⟩=some (.int .i64 e2))) (by kernel_rfl) (HS.out _ (Kept.refl Y).drew) (fun hHeld=>?_)
   refine tk (i:=0) (v:=?_) rfl ?_
   simp only[Act.put,zA,zB,zC,zD,zE,zF]
   refine tk (i:=1) (v:=?_) rfl ?_
   simp only[Act.put,zA,zB,zC,zD,zE,zF]
   refine tk (i:=2) (v:=?_) rfl ?_
   simp only[Act.put,zA,zB,zC,zD,zE,zF]
   refine tk (i:=3) (v:=?_) rfl ?_
   simp only[Act.put,zA,zB,zC,zD,zE,zF]
   refine tk (i:=4) (v:=?_) rfl ?_
   simp only[Act.put,zA,zB,zC,zD,zE,zF]
   refine tk (i:=7) (v:=?_) rfl ?_
   simp only[Act.put,zA,zB,zC,zD,zE,zF]
   refine tk (i:=8) (v:=?_) rfl ?_
   simp only[Act.put,zA,zB,zC,zD,zE,zF]
   have M1:=hidr (A1.out.kept (Kept.refl Y).drew)
   have M2:=hidr (A2.out.kept (Kept.refl Y).drew)
   replace M1:=M1.out
   replace M2:=M2.out
   refine wpAnyH_ready (rs:=[5]) (by kernel_rfl) (by simp) ?_
   refine AllReadyH.cons rfl (fun K hK9=>?_) AllReadyH.nil
   go_simp
   refine(DW1 [] _ (lt0 _)).mono ?_
   rintro e u5 ⟨v3,rfl,M3,k5⟩
   replace M1:=M1.kept k5
   have r5:=(Kept.refl Y).drew.trans k5
   have e5':=HS.out _ r5
   refine hK9.out _ _ e5' (fun hHeld5=>?_)
   clear hK9 K
   (try simp only[Act.put,zA,zB,zC,zD,zE,zF])
   refine wpAnyH_ready (rs:=[6]) (by kernel_rfl) (by simp) ?_
   refine AllReadyH.cons rfl (fun K hK9=>?_) AllReadyH.nil
   go_simp
   refine(DT [] _ _ _ (lt0 _) M1 M3).mono ?_
   rintro e u6 ⟨v4,rfl,M4,k6⟩
   have r6:=r5.trans k6
   have e6':=HS.out _ r6
   refine hK9.out _ _ e6' (fun hHeld6=>?_)
   clear hK9 K
   (try simp only[Act.put,zA,zB,zC,zD,zE,zF])
   refine wpAnyH_ready (rs:=[9]) (by kernel_rfl) (by simp) ?_
   refine AllReadyH.cons rfl (fun K hK9=>?_) AllReadyH.nil
   go_simp
   refine(DW2 [] _ (lt0 _)).mono ?_
   rintro e u9 ⟨v5,rfl,M5,k9⟩
   replace M4:=M4.kept k9
   have r9:=r6.trans k9
   have e9':=HS.out _ r9
   refine hK9.out _ _ e9' (fun hHeld9=>?_)
   clear hK9 K
   (try simp only[Act.put,zA,zB,zC,zD,zE,zF])
   refine wpAnyH_ready (rs:=[10]) (by kernel_rfl) (by simp) ?_
   refine AllReadyH.cons rfl (fun K hK9=>?_) AllReadyH.nil
   go_simp
   refine(DQ _ _ _ M4 M5).mono ?_
   rintro e u10 ⟨rfl,k10⟩
   have r10:=r9.trans k10
   have e10':=HS.out _ r10
   refine hK9.out _ _ e10' (fun hHeld10=>?_)
   clear hK9 K
   (try simp only[Act.put,zA,zB,zC,zD,zE,zF])
   refine tk (i:=11) (v:=?_) rfl ?_
   simp only[Act.put,zA,zB,zC,zD,zE,zF]
   refine wpAnyH_done (by kernel_rfl) ?_ _
   go_wp2_with fail
   go_ret
   exact⟨rfl,HQ.out.trans r10⟩
  ·clear KIND c0
   obtain⟨rfl,d,n1',n2',n3',n4',hd,DT1,DW1,DT2,DW2,DR⟩:=hkind
   obtain⟨c0,-⟩:=HS1.out _ (Kept.refl Y)
   go_upto_region 10 with fail
   clear c0
   refine wp_region_held_drew (S:=fun u=>Kept Y u∧(u.cell? ⟨B0,0,none⟩=some (.int .i64 3)∧u.cell? ⟨B0,1,none⟩=some (.int .i64 ba)∧u.cell? ⟨B0,2,none⟩=some (.int .i64 fa)∧u.cell? ⟨B0,3,none⟩=some (.int .i64 wa)∧u.cell? ⟨B0,4,none⟩=some (.int .i64 ev)∧u.cell? ⟨B0,5,none⟩=some (.int .i64 tt))∧(u.cell? ⟨B5,0,none⟩=some (.bool n1)∧u.cell? ⟨B5,1,none⟩=some (.slice a1 l1 c1)∧u.cell? ⟨B5,2,none⟩=some (.int .i64 e1))∧(u.cell? ⟨B6,0,none⟩=some (.bool n2)∧u.cell? ⟨B6,1,none⟩=some (.slice a2 l2 c2)∧u.cell? ⟨B6,2,none⟩=some (.int .i64 e2))) (by kernel_rfl) (HS.out _ (Kept.refl Y).drew) (fun hHeld=>?_)
   refine tk (i:=0) (v:=?_) rfl ?_
   simp only[Act.put,zA,zB,zC,zD,zE,zF]
   refine tk (i:=1) (v:=?_) rfl ?_
   simp only[Act.put,zA,zB,zC,zD,zE,zF]
   refine tk (i:=3) (v:=?_) rfl ?_
   simp only[Act.put,zA,zB,zC,zD,zE,zF]
   refine tk (i:=4) (v:=?_) rfl ?_
   simp only[Act.put,zA,zB,zC,zD,zE,zF]
   refine tk (i:=7) (v:=?_) rfl ?_
   simp only[Act.put,zA,zB,zC,zD,zE,zF]
   refine tk (i:=8) (v:=?_) rfl ?_
   simp only[Act.put,zA,zB,zC,zD,zE,zF]
   refine tk (i:=9) (v:=?_) rfl ?_
   simp only[Act.put,zA,zB,zC,zD,zE,zF]
   refine tk (i:=10) (v:=?_) rfl ?_
   simp only[Act.put,zA,zB,zC,zD,zE,zF]
   have M1:=hidr (A1.out.kept (Kept.refl Y).drew)
   have M2:=hidr (A2.out.kept (Kept.refl Y).drew)
   replace M1:=M1.out
   replace M2:=M2.out
   refine wpAnyH_ready (rs:=[2]) (by kernel_rfl) (by simp) ?_
   refine AllReadyH.cons rfl (fun K hK9=>?_) AllReadyH.nil
   go_simp
   refine(DT1 [] _ _ _ (lt0 _) M1 M1).mono ?_
   rintro e u2 ⟨v3,rfl,M3,k2⟩
   have r2:=(Kept.refl Y).drew.trans k2
   have e2':=HS.out _ r2
   refine hK9.out _ _ e2' (fun hHeld2=>?_)
   clear hK9 K
   (try simp only[Act.put,zA,zB,zC,zD,zE,zF])
   refine wpAnyH_ready (rs:=[5]) (by kernel_rfl) (by simp) ?_
   refine AllReadyH.cons rfl (fun K hK9=>?_) AllReadyH.nil
   go_simp
   refine(DW1 [] _ (lt0 _)).mono ?_
   rintro e u5 ⟨v4,rfl,M4,k5⟩
   replace M3:=M3.kept k5
   have r5:=r2.trans k5
   have e5':=HS.out _ r5
   refine hK9.out _ _ e5' (fun hHeld5=>?_)
   clear hK9 K
   (try simp only[Act.put,zA,zB,zC,zD,zE,zF])
   refine wpAnyH_ready (rs:=[6]) (by kernel_rfl) (by simp) ?_
   refine AllReadyH.cons rfl (fun K hK9=>?_) AllReadyH.nil
   go_simp
   refine(DT2 [] _ _ _ (lt0 _) M3 M4).mono ?_
   rintro e u6 ⟨v5,rfl,M5,k6⟩
   have r6:=r5.trans k6
   have e6':=HS.out _ r6
   refine hK9.out _ _ e6' (fun hHeld6=>?_)
   clear hK9 K
   (try simp only[Act.put,zA,zB,zC,zD,zE,zF])
   refine wpAnyH_ready (rs:=[11]) (by kernel_rfl) (by simp) ?_
   refine AllReadyH.cons rfl (fun K hK9=>?_) AllReadyH.nil
   go_simp
   refine(DW2 [] _ (lt0 _)).mono ?_
   rintro e u11 ⟨v6,rfl,M6,k11⟩
   replace M5:=M5.kept k11
   have r11:=r6.trans k11
   have e11':=HS.out _ r11
   refine hK9.out _ _ e11' (fun hHeld11=>?_)
   clear hK9 K
   (try simp only[Act.put,zA,zB,zC,zD,zE,zF])
   refine wpAnyH_ready (rs:=[12]) (by kernel_rfl) (by simp) ?_
   refine AllReadyH.cons rfl (fun K hK9=>?_) AllReadyH.nil
   go_simp
   refine(DR _ _ _ M5 M6).mono ?_
   rintro e u12 ⟨rfl,k12⟩
   have r12:=r11.trans k12
   have e12':=HS.out _ r12
   refine hK9.out _ _ e12' (fun hHeld12=>?_)
   clear hK9 K
   (try simp only[Act.put,zA,zB,zC,zD,zE,zF])
   refine tk (i:=13) (v:=?_) rfl ?_
   simp only[Act.put,zA,zB,zC,zD,zE,zF]
   refine wpAnyH_done (by kernel_rfl) ?_ _
   go_wp2_with fail
   go_ret
   exact⟨rfl,HQ.out.trans r12⟩
  ·clear KIND c0
   obtain⟨rfl,t,p,d,q,n1',n2',n3',n4',n5',n6',ht,ht0,hp,hd,hq,DW1,DT1,DM,DW2,DT2,DP,DQ⟩:=hkind
   have ht0':¬t=0:=ht0
   obtain⟨c0,c1,c2,c3,c4,c5⟩:=(HS.out _ (Kept.refl Y)).2.1
   have HKq:Hid (∀u,Calls Tryz.prog 33 #[.int .i64 p,.int .i64 d] u fun e w'=>e=.returned (.int .i64 q)∧Kept u w'):=fun u=>by
    have:=least_any p d u
    rwa [hq]at this
   have HP:=hidr hp
   go_upto_region 14 with (first|(go_at_call 33;refine(HKq.out _).mono ?_;rintro e w4 ⟨rfl,k4⟩))
   clear c0 c1 c2 c3 c4 c5
   have HS':Hid (∀u,Kept w4 u→Kept w4 u∧(u.cell? ⟨B0,0,none⟩=some (.int .i64 4)∧u.cell? ⟨B0,1,none⟩=some (.int .i64 ba)∧u.cell? ⟨B0,2,none⟩=some (.int .i64 fa)∧u.cell? ⟨B0,3,none⟩=some (.int .i64 wa)∧u.cell? ⟨B0,4,none⟩=some (.int .i64 ev)∧u.cell? ⟨B0,5,none⟩=some (.int .i64 tt))∧(u.cell? ⟨B5,0,none⟩=some (.bool n1)∧u.cell? ⟨B5,1,none⟩=some (.slice a1 l1 c1)∧u.cell? ⟨B5,2,none⟩=some (.int .i64 e1))∧(u.cell? ⟨B6,0,none⟩=some (.bool n2)∧u.cell? ⟨B6,1,none⟩=some (.slice a2 l2 c2)∧u.cell? ⟨B6,2,none⟩=some (.int .i64 e2))):=fun u k=>⟨k,(HS.out u (k4.trans k)).2⟩
   have A1':=hidr (A1.out.kept k4)
   have A2':=hidr (A2.out.kept k4)
   have HQ':=hidr (HQ.out.trans k4)
   clear k4 HS A1 A2 HQ
   refine wp_region_lateT [13] (fun _=>True) (fun u=>Kept w4 u∧(u.cell? ⟨B0,0,none⟩=some (.int .i64 4)∧u.cell? ⟨B0,1,none⟩=some (.int .i64 ba)∧u.cell? ⟨B0,2,none⟩=some (.int .i64 fa)∧u.cell? ⟨B0,3,none⟩=some (.int .i64 wa)∧u.cell? ⟨B0,4,none⟩=some (.int .i64 ev)∧u.cell? ⟨B0,5,none⟩=some (.int .i64 tt))∧(u.cell? ⟨B5,0,none⟩=some (.bool n1)∧u.cell? ⟨B5,1,none⟩=some (.slice a1 l1 c1)∧u.cell? ⟨B5,2,none⟩=some (.int .i64 e1))∧(u.cell? ⟨B6,0,none⟩=some (.bool n2)∧u.cell? ⟨B6,1,none⟩=some (.slice a2 l2 c2)∧u.cell? ⟨B6,2,none⟩=some (.int .i64 e2))) (by kernel_rfl) trivial (HS'.out _ (Kept.refl w4).drew) (fun _ hHeld=>?_)
   refine tkU (i:=0) (v:=?_) rfl (fun _=>trivial) hHeld ?_
   (try simp only[Act.put,zA,zB,zC,zD,zE,zF])
   refine tkU (i:=1) (v:=?_) rfl (fun _=>trivial) hHeld ?_
   (try simp only[Act.put,zA,zB,zC,zD,zE,zF])
   refine tkU (i:=2) (v:=?_) rfl (fun _=>trivial) hHeld ?_
   (try simp only[Act.put,zA,zB,zC,zD,zE,zF])
   refine tkU (i:=5) (v:=?_) rfl (fun _=>trivial) hHeld ?_
   (try simp only[Act.put,zA,zB,zC,zD,zE,zF])
   refine tkU (i:=6) (v:=?_) rfl (fun _=>trivial) hHeld ?_
   (try simp only[Act.put,zA,zB,zC,zD,zE,zF])
   refine tkU (i:=8) (v:=?_) rfl (fun _=>trivial) hHeld ?_
   (try simp only[Act.put,zA,zB,zC,zD,zE,zF])
   obtain⟨Y0,hY0⟩:∃Y0,Y0=w4.drew:=⟨_,rfl⟩
   have k0:Kept w4 Y0:=by rw[hY0];exact(Kept.refl w4).drew
   have I0_1:=(A1'.out).kept k0
   have I0_2:=(A2'.out).kept k0
   rw[←hY0]at hHeld ⊢
   clear hY0
   refine via_b4 (fun B9 n41 a41 l41 c41 e41 j31 j32 j33 j34 j35 Y=>w4.heap.size≤B9∧N3 Y B9 (.bool n41) (.slice a41 l41 c41) (.int .i64 e41)∧NI [] Y (.agg #[.bool n41,.slice a41 l41 c41,.int .i64 e41]) n6'∧Kept w4 Y) ?Fb4 (fun HNg=>?treeb4) ?contb4
   case treeb4=>
    refine wpAnyT_two (i:=3) (j:=12) (by kernel_rfl) rfl rfl ?_ ?_
    ·skip
     intro K hK9
     go_simp
     refine(DW1 [] _ (lt0 _)).mono ?_
     rintro e ub43 ⟨v31,rfl,Mb43,kb43⟩
     have Kb43:=k0.trans kb43
     have Mb43_1:=I0_1.kept kb43
     have Mb43_2:=I0_2.kept kb43
     refine hK9.out _ _ trivial (HS'.out _ Kb43) (fun _ hTb43=>?_)
     clear hK9 K
     (try simp only[Act.put,zA,zB,zC,zD,zE,zF])
     refine wpAnyT_two (i:=4) (j:=12) (by kernel_rfl) rfl rfl ?_ ?_
     ·skip
      intro K hK9
      go_simp
      refine(DT1 [] _ _ _ (lt0 _) Mb43_1 Mb43).mono ?_
      rintro e ub43_4 ⟨v32,rfl,Mb43_4,kb43_4⟩
      have Kb43_4:=Kb43.trans kb43_4
      have Mb43_4_1:=Mb43_1.kept kb43_4
      have Mb43_4_2:=Mb43_2.kept kb43_4
      have Mb43_4_31:=Mb43.kept kb43_4
      refine hK9.out _ _ trivial (HS'.out _ Kb43_4) (fun _ hTb43_4=>?_)
      clear hK9 K
      (try simp only[Act.put,zA,zB,zC,zD,zE,zF])
      refine wpAnyT_two (i:=7) (j:=12) (by kernel_rfl) rfl rfl ?_ ?_
      ·skip
       intro K hK9
       go_simp
       refine(DM [] _ _ _ (lt0 _) Mb43_4_2 Mb43_4_1).mono ?_
       rintro e ub43_4_7 ⟨v33,rfl,Mb43_4_7,kb43_4_7⟩
       have Kb43_4_7:=Kb43_4.trans kb43_4_7
       have Mb43_4_7_1:=Mb43_4_1.kept kb43_4_7
       have Mb43_4_7_2:=Mb43_4_2.kept kb43_4_7
       have Mb43_4_7_31:=Mb43_4_31.kept kb43_4_7
       have Mb43_4_7_32:=Mb43_4.kept kb43_4_7
       refine hK9.out _ _ trivial (HS'.out _ Kb43_4_7) (fun _ hTb43_4_7=>?_)
       clear hK9 K
       (try simp only[Act.put,zA,zB,zC,zD,zE,zF])
       refine wpAnyT_two (i:=9) (j:=12) (by kernel_rfl) rfl rfl ?_ ?_
       ·skip
        intro K hK9
        go_simp
        refine(DW2 [] _ (lt0 _)).mono ?_
        rintro e ub43_4_7_9 ⟨v34,rfl,Mb43_4_7_9,kb43_4_7_9⟩
        have Kb43_4_7_9:=Kb43_4_7.trans kb43_4_7_9
        have Mb43_4_7_9_1:=Mb43_4_7_1.kept kb43_4_7_9
        have Mb43_4_7_9_2:=Mb43_4_7_2.kept kb43_4_7_9
        have Mb43_4_7_9_31:=Mb43_4_7_31.kept kb43_4_7_9
        have Mb43_4_7_9_32:=Mb43_4_7_32.kept kb43_4_7_9
        have Mb43_4_7_9_33:=Mb43_4_7.kept kb43_4_7_9
        refine hK9.out _ _ trivial (HS'.out _ Kb43_4_7_9) (fun _ hTb43_4_7_9=>?_)
        clear hK9 K
        (try simp only[Act.put,zA,zB,zC,zD,zE,zF])
        refine wpAnyT_two (i:=10) (j:=12) (by kernel_rfl) rfl rfl ?_ ?_
        ·skip
         intro K hK9
         go_simp
         refine(DT2 [] _ _ _ (lt0 _) Mb43_4_7_9_33 Mb43_4_7_9).mono ?_
         rintro e ub43_4_7_9_10 ⟨v35,rfl,Mb43_4_7_9_10,kb43_4_7_9_10⟩
         have Kb43_4_7_9_10:=Kb43_4_7_9.trans kb43_4_7_9_10
         have Mb43_4_7_9_10_1:=Mb43_4_7_9_1.kept kb43_4_7_9_10
         have Mb43_4_7_9_10_2:=Mb43_4_7_9_2.kept kb43_4_7_9_10
         have Mb43_4_7_9_10_31:=Mb43_4_7_9_31.kept kb43_4_7_9_10
         have Mb43_4_7_9_10_32:=Mb43_4_7_9_32.kept kb43_4_7_9_10
         have Mb43_4_7_9_10_33:=Mb43_4_7_9_33.kept kb43_4_7_9_10
         have Mb43_4_7_9_10_34:=Mb43_4_7_9.kept kb43_4_7_9_10
         refine hK9.out _ _ trivial (HS'.out _ Kb43_4_7_9_10) (fun _ hTb43_4_7_9_10=>?_)
         clear hK9 K
         (try simp only[Act.put,zA,zB,zC,zD,zE,zF])
         refine wpAnyT_two (i:=11) (j:=12) (by kernel_rfl) rfl rfl ?_ ?_
         ·skip
          intro K hK9
          go_simp
          refine(DP [] _ _ _ (lt0 _) Mb43_4_7_9_10_32 Mb43_4_7_9_10).mono ?_
          rintro e ub43_4_7_9_10_11 ⟨v41,rfl,Mb43_4_7_9_10_11,kb43_4_7_9_10_11⟩
          obtain⟨n41,a41,l41,c41,e41,rfl⟩:=Mb43_4_7_9_10_11.shape5
          have Kb43_4_7_9_10_11:=Kb43_4_7_9_10.trans kb43_4_7_9_10_11
          have Mb43_4_7_9_10_11_1:=Mb43_4_7_9_10_1.kept kb43_4_7_9_10_11
          have Mb43_4_7_9_10_11_2:=Mb43_4_7_9_10_2.kept kb43_4_7_9_10_11
          have Mb43_4_7_9_10_11_31:=Mb43_4_7_9_10_31.kept kb43_4_7_9_10_11
          have Mb43_4_7_9_10_11_32:=Mb43_4_7_9_10_32.kept kb43_4_7_9_10_11
          have Mb43_4_7_9_10_11_33:=Mb43_4_7_9_10_33.kept kb43_4_7_9_10_11
          have Mb43_4_7_9_10_11_34:=Mb43_4_7_9_10_34.kept kb43_4_7_9_10_11
          have Mb43_4_7_9_10_11_35:=Mb43_4_7_9_10.kept kb43_4_7_9_10_11
          refine hK9.out _ _ trivial (HS'.out _ Kb43_4_7_9_10_11) (fun _ hTb43_4_7_9_10_11=>?_)
          clear hK9 K
          (try simp only[Act.put,zA,zB,zC,zD,zE,zF])
          refine wpAnyT_one (i:=12) (by kernel_rfl) rfl ?_
          intro K hK9
          go_simp
          have gb43_4_7_9_10_11_12:=N3.new ub43_4_7_9_10_11 (.bool false) (.slice none 0 0) (.int .i64 0) 43
          have kb43_4_7_9_10_11_12:Kept ub43_4_7_9_10_11 (ub43_4_7_9_10_11.alloc (.cells #[.bool false,.slice none 0 0,.int .i64 0] 43)):=(Kept.refl ub43_4_7_9_10_11).alloc _ _
          obtain⟨ub43_4_7_9_10_11_12,hub43_4_7_9_10_11_12⟩:∃u,u=ub43_4_7_9_10_11.alloc (.cells #[.bool false,.slice none 0 0,.int .i64 0] 43):=⟨_,rfl⟩
          obtain⟨B9,hbb43_4_7_9_10_11_12⟩:∃b,b=ub43_4_7_9_10_11.heap.size:=⟨_,rfl⟩
          rw[←hub43_4_7_9_10_11_12,←hbb43_4_7_9_10_11_12]at gb43_4_7_9_10_11_12
          rw[←hub43_4_7_9_10_11_12]at kb43_4_7_9_10_11_12 ⊢
          rw[←hbb43_4_7_9_10_11_12]
          have Kb43_4_7_9_10_11_12:=Kb43_4_7_9_10_11.trans kb43_4_7_9_10_11_12
          have lB9:w4.heap.size≤B9:=by rw[hbb43_4_7_9_10_11_12];exact Kb43_4_7_9_10_11.below.size
          have Mb43_4_7_9_10_11_12_1:=ni_alloc B9 Mb43_4_7_9_10_11_1 kb43_4_7_9_10_11_12 hbb43_4_7_9_10_11_12
          have Mb43_4_7_9_10_11_12_2:=ni_alloc B9 Mb43_4_7_9_10_11_2 kb43_4_7_9_10_11_12 hbb43_4_7_9_10_11_12
          have Mb43_4_7_9_10_11_12_31:=ni_alloc B9 Mb43_4_7_9_10_11_31 kb43_4_7_9_10_11_12 hbb43_4_7_9_10_11_12
          have Mb43_4_7_9_10_11_12_32:=ni_alloc B9 Mb43_4_7_9_10_11_32 kb43_4_7_9_10_11_12 hbb43_4_7_9_10_11_12
          have Mb43_4_7_9_10_11_12_33:=ni_alloc B9 Mb43_4_7_9_10_11_33 kb43_4_7_9_10_11_12 hbb43_4_7_9_10_11_12
          have Mb43_4_7_9_10_11_12_34:=ni_alloc B9 Mb43_4_7_9_10_11_34 kb43_4_7_9_10_11_12 hbb43_4_7_9_10_11_12
          have Mb43_4_7_9_10_11_12_35:=ni_alloc B9 Mb43_4_7_9_10_11_35 kb43_4_7_9_10_11_12 hbb43_4_7_9_10_11_12
          have Mb43_4_7_9_10_11_12_41:=ni_alloc B9 Mb43_4_7_9_10_11 kb43_4_7_9_10_11_12 hbb43_4_7_9_10_11_12
          clear hub43_4_7_9_10_11_12 hbb43_4_7_9_10_11_12
          refine hK9.out _ _ trivial (HS'.out _ Kb43_4_7_9_10_11_12) (fun _ hTb43_4_7_9_10_11_12=>?_)
          clear hK9 K
          (try simp only[Act.put,zA,zB,zC,zD,zE,zF])
          have d0:=gb43_4_7_9_10_11_12.c0
          have d1:=gb43_4_7_9_10_11_12.c1
          have d2:=gb43_4_7_9_10_11_12.c2
          have fz:=gb43_4_7_9_10_11_12.fz
          have KL0:=kept_st3 Kb43_4_7_9_10_11_12 lB9 (.bool n41) (.slice a41 l41 c41) (.int .i64 e41)
          refine wpAnyT_late (i:=13) (by kernel_rfl) rfl (by kernel_rfl) (fun K hK9=>?_)
          go_simp
          refine hK9.out _ _ (HS'.out _ KL0) (fun hL0=>?_)
          clear hK9 K
          (try simp only[Act.put,zA,zB,zC,zD,zE,zF])
          have Q0:=gb43_4_7_9_10_11_12.set (.bool n41) (.slice a41 l41 c41) (.int .i64 e41)
          have S0_41:=ni_st3 Mb43_4_7_9_10_11_12_41 (b:=B9) (by simp) (.bool n41) (.slice a41 l41 c41) (.int .i64 e41)
          obtain⟨Y0,hY0⟩:∃Y,Y=st3w ub43_4_7_9_10_11_12 B9 (.bool n41) (.slice a41 l41 c41) (.int .i64 e41):=⟨_,rfl⟩
          rw[←hY0]at Q0 KL0 S0_41
          rw[show((ub43_4_7_9_10_11_12.setCell ⟨B9,0,none⟩ (.bool n41)).setCell ⟨B9,1,none⟩ (.slice a41 l41 c41)).setCell ⟨B9,2,none⟩ (.int .i64 e41)=Y0 from hY0.symm]
          clear hY0 d0 d1 d2 fz hL0
          refine wpAnyT_done (by kernel_rfl) ?_ _
          (try simp only[Act.put,zA,zB,zC,zD,zE,zF])
          exact HNg.out B9 n41 a41 l41 c41 e41 v31 v32 v33 v34 v35 Y0 ⟨lB9,Q0,(ni_nil S0_41),KL0⟩
         ·skip
          intro K hK9
          go_simp
          have gb43_4_7_9_10_12:=N3.new ub43_4_7_9_10 (.bool false) (.slice none 0 0) (.int .i64 0) 43
          have kb43_4_7_9_10_12:Kept ub43_4_7_9_10 (ub43_4_7_9_10.alloc (.cells #[.bool false,.slice none 0 0,.int .i64 0] 43)):=(Kept.refl ub43_4_7_9_10).alloc _ _
          obtain⟨ub43_4_7_9_10_12,hub43_4_7_9_10_12⟩:∃u,u=ub43_4_7_9_10.alloc (.cells #[.bool false,.slice none 0 0,.int .i64 0] 43):=⟨_,rfl⟩
          obtain⟨B9,hbb43_4_7_9_10_12⟩:∃b,b=ub43_4_7_9_10.heap.size:=⟨_,rfl⟩
          rw[←hub43_4_7_9_10_12,←hbb43_4_7_9_10_12]at gb43_4_7_9_10_12
          rw[←hub43_4_7_9_10_12]at kb43_4_7_9_10_12 ⊢
          rw[←hbb43_4_7_9_10_12]
          have Kb43_4_7_9_10_12:=Kb43_4_7_9_10.trans kb43_4_7_9_10_12
          have lB9:w4.heap.size≤B9:=by rw[hbb43_4_7_9_10_12];exact Kb43_4_7_9_10.below.size
          have Mb43_4_7_9_10_12_1:=ni_alloc B9 Mb43_4_7_9_10_1 kb43_4_7_9_10_12 hbb43_4_7_9_10_12
          have Mb43_4_7_9_10_12_2:=ni_alloc B9 Mb43_4_7_9_10_2 kb43_4_7_9_10_12 hbb43_4_7_9_10_12
          have Mb43_4_7_9_10_12_31:=ni_alloc B9 Mb43_4_7_9_10_31 kb43_4_7_9_10_12 hbb43_4_7_9_10_12
          have Mb43_4_7_9_10_12_32:=ni_alloc B9 Mb43_4_7_9_10_32 kb43_4_7_9_10_12 hbb43_4_7_9_10_12
          have Mb43_4_7_9_10_12_33:=ni_alloc B9 Mb43_4_7_9_10_33 kb43_4_7_9_10_12 hbb43_4_7_9_10_12
          have Mb43_4_7_9_10_12_34:=ni_alloc B9 Mb43_4_7_9_10_34 kb43_4_7_9_10_12 hbb43_4_7_9_10_12
          have Mb43_4_7_9_10_12_35:=ni_alloc B9 Mb43_4_7_9_10 kb43_4_7_9_10_12 hbb43_4_7_9_10_12
          clear hub43_4_7_9_10_12 hbb43_4_7_9_10_12
          refine hK9.out _ _ trivial (HS'.out _ Kb43_4_7_9_10_12) (fun _ hTb43_4_7_9_10_12=>?_)
          clear hK9 K
          (try simp only[Act.put,zA,zB,zC,zD,zE,zF])
          refine wpAnyT_one (i:=11) (by kernel_rfl) rfl ?_
          intro K hK9
          go_simp
          refine(DP [B9] _ _ _ (lt1 gb43_4_7_9_10_12.lt) Mb43_4_7_9_10_12_32 Mb43_4_7_9_10_12_35).mono ?_
          rintro e ub43_4_7_9_10_12_11 ⟨v41,rfl,Mb43_4_7_9_10_12_11,kb43_4_7_9_10_12_11⟩
          obtain⟨n41,a41,l41,c41,e41,rfl⟩:=Mb43_4_7_9_10_12_11.shape5
          have Kb43_4_7_9_10_12_11:=Kb43_4_7_9_10_12.trans kb43_4_7_9_10_12_11
          have Mb43_4_7_9_10_12_11_1:=Mb43_4_7_9_10_12_1.kept kb43_4_7_9_10_12_11
          have Mb43_4_7_9_10_12_11_2:=Mb43_4_7_9_10_12_2.kept kb43_4_7_9_10_12_11
          have Mb43_4_7_9_10_12_11_31:=Mb43_4_7_9_10_12_31.kept kb43_4_7_9_10_12_11
          have Mb43_4_7_9_10_12_11_32:=Mb43_4_7_9_10_12_32.kept kb43_4_7_9_10_12_11
          have Mb43_4_7_9_10_12_11_33:=Mb43_4_7_9_10_12_33.kept kb43_4_7_9_10_12_11
          have Mb43_4_7_9_10_12_11_34:=Mb43_4_7_9_10_12_34.kept kb43_4_7_9_10_12_11
          have Mb43_4_7_9_10_12_11_35:=Mb43_4_7_9_10_12_35.kept kb43_4_7_9_10_12_11
          have Pb43_4_7_9_10_12_11_B9:=gb43_4_7_9_10_12.kept kb43_4_7_9_10_12_11
          refine hK9.out _ _ trivial (HS'.out _ Kb43_4_7_9_10_12_11) (fun _ hTb43_4_7_9_10_12_11=>?_)
          clear hK9 K
          (try simp only[Act.put,zA,zB,zC,zD,zE,zF])
          have d0:=Pb43_4_7_9_10_12_11_B9.c0
          have d1:=Pb43_4_7_9_10_12_11_B9.c1
          have d2:=Pb43_4_7_9_10_12_11_B9.c2
          have fz:=Pb43_4_7_9_10_12_11_B9.fz
          have KL0:=kept_st3 Kb43_4_7_9_10_12_11 lB9 (.bool n41) (.slice a41 l41 c41) (.int .i64 e41)
          refine wpAnyT_late (i:=13) (by kernel_rfl) rfl (by kernel_rfl) (fun K hK9=>?_)
          go_simp
          refine hK9.out _ _ (HS'.out _ KL0) (fun hL0=>?_)
          clear hK9 K
          (try simp only[Act.put,zA,zB,zC,zD,zE,zF])
          have Q0:=Pb43_4_7_9_10_12_11_B9.set (.bool n41) (.slice a41 l41 c41) (.int .i64 e41)
          have S0_41:=ni_st3 Mb43_4_7_9_10_12_11 (b:=B9) (by simp) (.bool n41) (.slice a41 l41 c41) (.int .i64 e41)
          obtain⟨Y0,hY0⟩:∃Y,Y=st3w ub43_4_7_9_10_12_11 B9 (.bool n41) (.slice a41 l41 c41) (.int .i64 e41):=⟨_,rfl⟩
          rw[←hY0]at Q0 KL0 S0_41
          rw[show((ub43_4_7_9_10_12_11.setCell ⟨B9,0,none⟩ (.bool n41)).setCell ⟨B9,1,none⟩ (.slice a41 l41 c41)).setCell ⟨B9,2,none⟩ (.int .i64 e41)=Y0 from hY0.symm]
          clear hY0 d0 d1 d2 fz hL0
          refine wpAnyT_done (by kernel_rfl) ?_ _
          (try simp only[Act.put,zA,zB,zC,zD,zE,zF])
          exact HNg.out B9 n41 a41 l41 c41 e41 v31 v32 v33 v34 v35 Y0 ⟨lB9,Q0,(ni_nil S0_41),KL0⟩
        ·skip
         intro K hK9
         go_simp
         have gb43_4_7_9_12:=N3.new ub43_4_7_9 (.bool false) (.slice none 0 0) (.int .i64 0) 43
         have kb43_4_7_9_12:Kept ub43_4_7_9 (ub43_4_7_9.alloc (.cells #[.bool false,.slice none 0 0,.int .i64 0] 43)):=(Kept.refl ub43_4_7_9).alloc _ _
         obtain⟨ub43_4_7_9_12,hub43_4_7_9_12⟩:∃u,u=ub43_4_7_9.alloc (.cells #[.bool false,.slice none 0 0,.int .i64 0] 43):=⟨_,rfl⟩
         obtain⟨B9,hbb43_4_7_9_12⟩:∃b,b=ub43_4_7_9.heap.size:=⟨_,rfl⟩
         rw[←hub43_4_7_9_12,←hbb43_4_7_9_12]at gb43_4_7_9_12
         rw[←hub43_4_7_9_12]at kb43_4_7_9_12 ⊢
         rw[←hbb43_4_7_9_12]
         have Kb43_4_7_9_12:=Kb43_4_7_9.trans kb43_4_7_9_12
         have lB9:w4.heap.size≤B9:=by rw[hbb43_4_7_9_12];exact Kb43_4_7_9.below.size
         have Mb43_4_7_9_12_1:=ni_alloc B9 Mb43_4_7_9_1 kb43_4_7_9_12 hbb43_4_7_9_12
         have Mb43_4_7_9_12_2:=ni_alloc B9 Mb43_4_7_9_2 kb43_4_7_9_12 hbb43_4_7_9_12
         have Mb43_4_7_9_12_31:=ni_alloc B9 Mb43_4_7_9_31 kb43_4_7_9_12 hbb43_4_7_9_12
         have Mb43_4_7_9_12_32:=ni_alloc B9 Mb43_4_7_9_32 kb43_4_7_9_12 hbb43_4_7_9_12
         have Mb43_4_7_9_12_33:=ni_alloc B9 Mb43_4_7_9_33 kb43_4_7_9_12 hbb43_4_7_9_12
         have Mb43_4_7_9_12_34:=ni_alloc B9 Mb43_4_7_9 kb43_4_7_9_12 hbb43_4_7_9_12
         clear hub43_4_7_9_12 hbb43_4_7_9_12
         refine hK9.out _ _ trivial (HS'.out _ Kb43_4_7_9_12) (fun _ hTb43_4_7_9_12=>?_)
         clear hK9 K
         (try simp only[Act.put,zA,zB,zC,zD,zE,zF])
         refine wpAnyT_one (i:=10) (by kernel_rfl) rfl ?_
         intro K hK9
         go_simp
         refine(DT2 [B9] _ _ _ (lt1 gb43_4_7_9_12.lt) Mb43_4_7_9_12_33 Mb43_4_7_9_12_34).mono ?_
         rintro e ub43_4_7_9_12_10 ⟨v35,rfl,Mb43_4_7_9_12_10,kb43_4_7_9_12_10⟩
         have Kb43_4_7_9_12_10:=Kb43_4_7_9_12.trans kb43_4_7_9_12_10
         have Mb43_4_7_9_12_10_1:=Mb43_4_7_9_12_1.kept kb43_4_7_9_12_10
         have Mb43_4_7_9_12_10_2:=Mb43_4_7_9_12_2.kept kb43_4_7_9_12_10
         have Mb43_4_7_9_12_10_31:=Mb43_4_7_9_12_31.kept kb43_4_7_9_12_10
         have Mb43_4_7_9_12_10_32:=Mb43_4_7_9_12_32.kept kb43_4_7_9_12_10
         have Mb43_4_7_9_12_10_33:=Mb43_4_7_9_12_33.kept kb43_4_7_9_12_10
         have Mb43_4_7_9_12_10_34:=Mb43_4_7_9_12_34.kept kb43_4_7_9_12_10
         have Pb43_4_7_9_12_10_B9:=gb43_4_7_9_12.kept kb43_4_7_9_12_10
         refine hK9.out _ _ trivial (HS'.out _ Kb43_4_7_9_12_10) (fun _ hTb43_4_7_9_12_10=>?_)
         clear hK9 K
         (try simp only[Act.put,zA,zB,zC,zD,zE,zF])
         refine wpAnyT_one (i:=11) (by kernel_rfl) rfl ?_
         intro K hK9
         go_simp
         refine(DP [B9] _ _ _ (lt1 Pb43_4_7_9_12_10_B9.lt) Mb43_4_7_9_12_10_32 Mb43_4_7_9_12_10).mono ?_
         rintro e ub43_4_7_9_12_10_11 ⟨v41,rfl,Mb43_4_7_9_12_10_11,kb43_4_7_9_12_10_11⟩
         obtain⟨n41,a41,l41,c41,e41,rfl⟩:=Mb43_4_7_9_12_10_11.shape5
         have Kb43_4_7_9_12_10_11:=Kb43_4_7_9_12_10.trans kb43_4_7_9_12_10_11
         have Mb43_4_7_9_12_10_11_1:=Mb43_4_7_9_12_10_1.kept kb43_4_7_9_12_10_11
         have Mb43_4_7_9_12_10_11_2:=Mb43_4_7_9_12_10_2.kept kb43_4_7_9_12_10_11
         have Mb43_4_7_9_12_10_11_31:=Mb43_4_7_9_12_10_31.kept kb43_4_7_9_12_10_11
         have Mb43_4_7_9_12_10_11_32:=Mb43_4_7_9_12_10_32.kept kb43_4_7_9_12_10_11
         have Mb43_4_7_9_12_10_11_33:=Mb43_4_7_9_12_10_33.kept kb43_4_7_9_12_10_11
         have Mb43_4_7_9_12_10_11_34:=Mb43_4_7_9_12_10_34.kept kb43_4_7_9_12_10_11
         have Mb43_4_7_9_12_10_11_35:=Mb43_4_7_9_12_10.kept kb43_4_7_9_12_10_11
         have Pb43_4_7_9_12_10_11_B9:=Pb43_4_7_9_12_10_B9.kept kb43_4_7_9_12_10_11
         refine hK9.out _ _ trivial (HS'.out _ Kb43_4_7_9_12_10_11) (fun _ hTb43_4_7_9_12_10_11=>?_)
         clear hK9 K
         (try simp only[Act.put,zA,zB,zC,zD,zE,zF])
         have d0:=Pb43_4_7_9_12_10_11_B9.c0
         have d1:=Pb43_4_7_9_12_10_11_B9.c1
         have d2:=Pb43_4_7_9_12_10_11_B9.c2
         have fz:=Pb43_4_7_9_12_10_11_B9.fz
         have KL0:=kept_st3 Kb43_4_7_9_12_10_11 lB9 (.bool n41) (.slice a41 l41 c41) (.int .i64 e41)
         refine wpAnyT_late (i:=13) (by kernel_rfl) rfl (by kernel_rfl) (fun K hK9=>?_)
         go_simp
         refine hK9.out _ _ (HS'.out _ KL0) (fun hL0=>?_)
         clear hK9 K
         (try simp only[Act.put,zA,zB,zC,zD,zE,zF])
         have Q0:=Pb43_4_7_9_12_10_11_B9.set (.bool n41) (.slice a41 l41 c41) (.int .i64 e41)
         have S0_41:=ni_st3 Mb43_4_7_9_12_10_11 (b:=B9) (by simp) (.bool n41) (.slice a41 l41 c41) (.int .i64 e41)
         obtain⟨Y0,hY0⟩:∃Y,Y=st3w ub43_4_7_9_12_10_11 B9 (.bool n41) (.slice a41 l41 c41) (.int .i64 e41):=⟨_,rfl⟩
         rw[←hY0]at Q0 KL0 S0_41
         rw[show((ub43_4_7_9_12_10_11.setCell ⟨B9,0,none⟩ (.bool n41)).setCell ⟨B9,1,none⟩ (.slice a41 l41 c41)).setCell ⟨B9,2,none⟩ (.int .i64 e41)=Y0 from hY0.symm]
         clear hY0 d0 d1 d2 fz hL0
         refine wpAnyT_done (by kernel_rfl) ?_ _
         (try simp only[Act.put,zA,zB,zC,zD,zE,zF])
         exact HNg.out B9 n41 a41 l41 c41 e41 v31 v32 v33 v34 v35 Y0 ⟨lB9,Q0,(ni_nil S0_41),KL0⟩
       ·skip
        intro K hK9
        go_simp
        have gb43_4_7_12:=N3.new ub43_4_7 (.bool false) (.slice none 0 0) (.int .i64 0) 43
        have kb43_4_7_12:Kept ub43_4_7 (ub43_4_7.alloc (.cells #[.bool false,.slice none 0 0,.int .i64 0] 43)):=(Kept.refl ub43_4_7).alloc _ _
        obtain⟨ub43_4_7_12,hub43_4_7_12⟩:∃u,u=ub43_4_7.alloc (.cells #[.bool false,.slice none 0 0,.int .i64 0] 43):=⟨_,rfl⟩
        obtain⟨B9,hbb43_4_7_12⟩:∃b,b=ub43_4_7.heap.size:=⟨_,rfl⟩
        rw[←hub43_4_7_12,←hbb43_4_7_12]at gb43_4_7_12
        rw[←hub43_4_7_12]at kb43_4_7_12 ⊢
        rw[←hbb43_4_7_12]
        have Kb43_4_7_12:=Kb43_4_7.trans kb43_4_7_12
        have lB9:w4.heap.size≤B9:=by rw[hbb43_4_7_12];exact Kb43_4_7.below.size
        have Mb43_4_7_12_1:=ni_alloc B9 Mb43_4_7_1 kb43_4_7_12 hbb43_4_7_12
        have Mb43_4_7_12_2:=ni_alloc B9 Mb43_4_7_2 kb43_4_7_12 hbb43_4_7_12
        have Mb43_4_7_12_31:=ni_alloc B9 Mb43_4_7_31 kb43_4_7_12 hbb43_4_7_12
        have Mb43_4_7_12_32:=ni_alloc B9 Mb43_4_7_32 kb43_4_7_12 hbb43_4_7_12
        have Mb43_4_7_12_33:=ni_alloc B9 Mb43_4_7 kb43_4_7_12 hbb43_4_7_12
        clear hub43_4_7_12 hbb43_4_7_12
        refine hK9.out _ _ trivial (HS'.out _ Kb43_4_7_12) (fun _ hTb43_4_7_12=>?_)
        clear hK9 K
        (try simp only[Act.put,zA,zB,zC,zD,zE,zF])
        refine wpAnyT_one (i:=9) (by kernel_rfl) rfl ?_
        intro K hK9
        go_simp
        refine(DW2 [B9] _ (lt1 gb43_4_7_12.lt)).mono ?_
        rintro e ub43_4_7_12_9 ⟨v34,rfl,Mb43_4_7_12_9,kb43_4_7_12_9⟩
        have Kb43_4_7_12_9:=Kb43_4_7_12.trans kb43_4_7_12_9
        have Mb43_4_7_12_9_1:=Mb43_4_7_12_1.kept kb43_4_7_12_9
        have Mb43_4_7_12_9_2:=Mb43_4_7_12_2.kept kb43_4_7_12_9
        have Mb43_4_7_12_9_31:=Mb43_4_7_12_31.kept kb43_4_7_12_9
        have Mb43_4_7_12_9_32:=Mb43_4_7_12_32.kept kb43_4_7_12_9
        have Mb43_4_7_12_9_33:=Mb43_4_7_12_33.kept kb43_4_7_12_9
        have Pb43_4_7_12_9_B9:=gb43_4_7_12.kept kb43_4_7_12_9
        refine hK9.out _ _ trivial (HS'.out _ Kb43_4_7_12_9) (fun _ hTb43_4_7_12_9=>?_)
        clear hK9 K
        (try simp only[Act.put,zA,zB,zC,zD,zE,zF])
        refine wpAnyT_one (i:=10) (by kernel_rfl) rfl ?_
        intro K hK9
        go_simp
        refine(DT2 [B9] _ _ _ (lt1 Pb43_4_7_12_9_B9.lt) Mb43_4_7_12_9_33 Mb43_4_7_12_9).mono ?_
        rintro e ub43_4_7_12_9_10 ⟨v35,rfl,Mb43_4_7_12_9_10,kb43_4_7_12_9_10⟩
        have Kb43_4_7_12_9_10:=Kb43_4_7_12_9.trans kb43_4_7_12_9_10
        have Mb43_4_7_12_9_10_1:=Mb43_4_7_12_9_1.kept kb43_4_7_12_9_10
        have Mb43_4_7_12_9_10_2:=Mb43_4_7_12_9_2.kept kb43_4_7_12_9_10
        have Mb43_4_7_12_9_10_31:=Mb43_4_7_12_9_31.kept kb43_4_7_12_9_10
        have Mb43_4_7_12_9_10_32:=Mb43_4_7_12_9_32.kept kb43_4_7_12_9_10
        have Mb43_4_7_12_9_10_33:=Mb43_4_7_12_9_33.kept kb43_4_7_12_9_10
        have Mb43_4_7_12_9_10_34:=Mb43_4_7_12_9.kept kb43_4_7_12_9_10
        have Pb43_4_7_12_9_10_B9:=Pb43_4_7_12_9_B9.kept kb43_4_7_12_9_10
        refine hK9.out _ _ trivial (HS'.out _ Kb43_4_7_12_9_10) (fun _ hTb43_4_7_12_9_10=>?_)
        clear hK9 K
        (try simp only[Act.put,zA,zB,zC,zD,zE,zF])
        refine wpAnyT_one (i:=11) (by kernel_rfl) rfl ?_
        intro K hK9
        go_simp
        refine(DP [B9] _ _ _ (lt1 Pb43_4_7_12_9_10_B9.lt) Mb43_4_7_12_9_10_32 Mb43_4_7_12_9_10).mono ?_
        rintro e ub43_4_7_12_9_10_11 ⟨v41,rfl,Mb43_4_7_12_9_10_11,kb43_4_7_12_9_10_11⟩
        obtain⟨n41,a41,l41,c41,e41,rfl⟩:=Mb43_4_7_12_9_10_11.shape5
        have Kb43_4_7_12_9_10_11:=Kb43_4_7_12_9_10.trans kb43_4_7_12_9_10_11
        have Mb43_4_7_12_9_10_11_1:=Mb43_4_7_12_9_10_1.kept kb43_4_7_12_9_10_11
        have Mb43_4_7_12_9_10_11_2:=Mb43_4_7_12_9_10_2.kept kb43_4_7_12_9_10_11
        have Mb43_4_7_12_9_10_11_31:=Mb43_4_7_12_9_10_31.kept kb43_4_7_12_9_10_11
        have Mb43_4_7_12_9_10_11_32:=Mb43_4_7_12_9_10_32.kept kb43_4_7_12_9_10_11
        have Mb43_4_7_12_9_10_11_33:=Mb43_4_7_12_9_10_33.kept kb43_4_7_12_9_10_11
        have Mb43_4_7_12_9_10_11_34:=Mb43_4_7_12_9_10_34.kept kb43_4_7_12_9_10_11
        have Mb43_4_7_12_9_10_11_35:=Mb43_4_7_12_9_10.kept kb43_4_7_12_9_10_11
        have Pb43_4_7_12_9_10_11_B9:=Pb43_4_7_12_9_10_B9.kept kb43_4_7_12_9_10_11
        refine hK9.out _ _ trivial (HS'.out _ Kb43_4_7_12_9_10_11) (fun _ hTb43_4_7_12_9_10_11=>?_)
        clear hK9 K
        (try simp only[Act.put,zA,zB,zC,zD,zE,zF])
        have d0:=Pb43_4_7_12_9_10_11_B9.c0
        have d1:=Pb43_4_7_12_9_10_11_B9.c1
        have d2:=Pb43_4_7_12_9_10_11_B9.c2
        have fz:=Pb43_4_7_12_9_10_11_B9.fz
        have KL0:=kept_st3 Kb43_4_7_12_9_10_11 lB9 (.bool n41) (.slice a41 l41 c41) (.int .i64 e41)
        refine wpAnyT_late (i:=13) (by kernel_rfl) rfl (by kernel_rfl) (fun K hK9=>?_)
        go_simp
        refine hK9.out _ _ (HS'.out _ KL0) (fun hL0=>?_)
        clear hK9 K
        (try simp only[Act.put,zA,zB,zC,zD,zE,zF])
        have Q0:=Pb43_4_7_12_9_10_11_B9.set (.bool n41) (.slice a41 l41 c41) (.int .i64 e41)
        have S0_41:=ni_st3 Mb43_4_7_12_9_10_11 (b:=B9) (by simp) (.bool n41) (.slice a41 l41 c41) (.int .i64 e41)
        obtain⟨Y0,hY0⟩:∃Y,Y=st3w ub43_4_7_12_9_10_11 B9 (.bool n41) (.slice a41 l41 c41) (.int .i64 e41):=⟨_,rfl⟩
        rw[←hY0]at Q0 KL0 S0_41
        rw[show((ub43_4_7_12_9_10_11.setCell ⟨B9,0,none⟩ (.bool n41)).setCell ⟨B9,1,none⟩ (.slice a41 l41 c41)).setCell ⟨B9,2,none⟩ (.int .i64 e41)=Y0 from hY0.symm]
        clear hY0 d0 d1 d2 fz hL0
        refine wpAnyT_done (by kernel_rfl) ?_ _
        (try simp only[Act.put,zA,zB,zC,zD,zE,zF])
        exact HNg.out B9 n41 a41 l41 c41 e41 v31 v32 v33 v34 v35 Y0 ⟨lB9,Q0,(ni_nil S0_41),KL0⟩
      ·skip
       intro K hK9
       go_simp
       have gb43_4_12:=N3.new ub43_4 (.bool false) (.slice none 0 0) (.int .i64 0) 43
       have kb43_4_12:Kept ub43_4 (ub43_4.alloc (.cells #[.bool false,.slice none 0 0,.int .i64 0] 43)):=(Kept.refl ub43_4).alloc _ _
       obtain⟨ub43_4_12,hub43_4_12⟩:∃u,u=ub43_4.alloc (.cells #[.bool false,.slice none 0 0,.int .i64 0] 43):=⟨_,rfl⟩
       obtain⟨B9,hbb43_4_12⟩:∃b,b=ub43_4.heap.size:=⟨_,rfl⟩
       rw[←hub43_4_12,←hbb43_4_12]at gb43_4_12
       rw[←hub43_4_12]at kb43_4_12 ⊢
       rw[←hbb43_4_12]
       have Kb43_4_12:=Kb43_4.trans kb43_4_12
       have lB9:w4.heap.size≤B9:=by rw[hbb43_4_12];exact Kb43_4.below.size
       have Mb43_4_12_1:=ni_alloc B9 Mb43_4_1 kb43_4_12 hbb43_4_12
       have Mb43_4_12_2:=ni_alloc B9 Mb43_4_2 kb43_4_12 hbb43_4_12
       have Mb43_4_12_31:=ni_alloc B9 Mb43_4_31 kb43_4_12 hbb43_4_12
       have Mb43_4_12_32:=ni_alloc B9 Mb43_4 kb43_4_12 hbb43_4_12
       clear hub43_4_12 hbb43_4_12
       refine hK9.out _ _ trivial (HS'.out _ Kb43_4_12) (fun _ hTb43_4_12=>?_)
       clear hK9 K
       (try simp only[Act.put,zA,zB,zC,zD,zE,zF])
       refine wpAnyT_one (i:=7) (by kernel_rfl) rfl ?_
       intro K hK9
       go_simp
       refine(DM [B9] _ _ _ (lt1 gb43_4_12.lt) Mb43_4_12_2 Mb43_4_12_1).mono ?_
       rintro e ub43_4_12_7 ⟨v33,rfl,Mb43_4_12_7,kb43_4_12_7⟩
       have Kb43_4_12_7:=Kb43_4_12.trans kb43_4_12_7
       have Mb43_4_12_7_1:=Mb43_4_12_1.kept kb43_4_12_7
       have Mb43_4_12_7_2:=Mb43_4_12_2.kept kb43_4_12_7
       have Mb43_4_12_7_31:=Mb43_4_12_31.kept kb43_4_12_7
       have Mb43_4_12_7_32:=Mb43_4_12_32.kept kb43_4_12_7
       have Pb43_4_12_7_B9:=gb43_4_12.kept kb43_4_12_7
       refine hK9.out _ _ trivial (HS'.out _ Kb43_4_12_7) (fun _ hTb43_4_12_7=>?_)
       clear hK9 K
       (try simp only[Act.put,zA,zB,zC,zD,zE,zF])
       refine wpAnyT_one (i:=9) (by kernel_rfl) rfl ?_
       intro K hK9
       go_simp
       refine(DW2 [B9] _ (lt1 Pb43_4_12_7_B9.lt)).mono ?_
       rintro e ub43_4_12_7_9 ⟨v34,rfl,Mb43_4_12_7_9,kb43_4_12_7_9⟩
       have Kb43_4_12_7_9:=Kb43_4_12_7.trans kb43_4_12_7_9
       have Mb43_4_12_7_9_1:=Mb43_4_12_7_1.kept kb43_4_12_7_9
       have Mb43_4_12_7_9_2:=Mb43_4_12_7_2.kept kb43_4_12_7_9
       have Mb43_4_12_7_9_31:=Mb43_4_12_7_31.kept kb43_4_12_7_9
       have Mb43_4_12_7_9_32:=Mb43_4_12_7_32.kept kb43_4_12_7_9
       have Mb43_4_12_7_9_33:=Mb43_4_12_7.kept kb43_4_12_7_9
       have Pb43_4_12_7_9_B9:=Pb43_4_12_7_B9.kept kb43_4_12_7_9
       refine hK9.out _ _ trivial (HS'.out _ Kb43_4_12_7_9) (fun _ hTb43_4_12_7_9=>?_)
       clear hK9 K
       (try simp only[Act.put,zA,zB,zC,zD,zE,zF])
       refine wpAnyT_one (i:=10) (by kernel_rfl) rfl ?_
       intro K hK9
       go_simp
       refine(DT2 [B9] _ _ _ (lt1 Pb43_4_12_7_9_B9.lt) Mb43_4_12_7_9_33 Mb43_4_12_7_9).mono ?_
       rintro e ub43_4_12_7_9_10 ⟨v35,rfl,Mb43_4_12_7_9_10,kb43_4_12_7_9_10⟩
       have Kb43_4_12_7_9_10:=Kb43_4_12_7_9.trans kb43_4_12_7_9_10
       have Mb43_4_12_7_9_10_1:=Mb43_4_12_7_9_1.kept kb43_4_12_7_9_10
       have Mb43_4_12_7_9_10_2:=Mb43_4_12_7_9_2.kept kb43_4_12_7_9_10
       have Mb43_4_12_7_9_10_31:=Mb43_4_12_7_9_31.kept kb43_4_12_7_9_10
       have Mb43_4_12_7_9_10_32:=Mb43_4_12_7_9_32.kept kb43_4_12_7_9_10
       have Mb43_4_12_7_9_10_33:=Mb43_4_12_7_9_33.kept kb43_4_12_7_9_10
       have Mb43_4_12_7_9_10_34:=Mb43_4_12_7_9.kept kb43_4_12_7_9_10
       have Pb43_4_12_7_9_10_B9:=Pb43_4_12_7_9_B9.kept kb43_4_12_7_9_10
       refine hK9.out _ _ trivial (HS'.out _ Kb43_4_12_7_9_10) (fun _ hTb43_4_12_7_9_10=>?_)
       clear hK9 K
       (try simp only[Act.put,zA,zB,zC,zD,zE,zF])
       refine wpAnyT_one (i:=11) (by kernel_rfl) rfl ?_
       intro K hK9
       go_simp
       refine(DP [B9] _ _ _ (lt1 Pb43_4_12_7_9_10_B9.lt) Mb43_4_12_7_9_10_32 Mb43_4_12_7_9_10).mono ?_
       rintro e ub43_4_12_7_9_10_11 ⟨v41,rfl,Mb43_4_12_7_9_10_11,kb43_4_12_7_9_10_11⟩
       obtain⟨n41,a41,l41,c41,e41,rfl⟩:=Mb43_4_12_7_9_10_11.shape5
       have Kb43_4_12_7_9_10_11:=Kb43_4_12_7_9_10.trans kb43_4_12_7_9_10_11
       have Mb43_4_12_7_9_10_11_1:=Mb43_4_12_7_9_10_1.kept kb43_4_12_7_9_10_11
       have Mb43_4_12_7_9_10_11_2:=Mb43_4_12_7_9_10_2.kept kb43_4_12_7_9_10_11
       have Mb43_4_12_7_9_10_11_31:=Mb43_4_12_7_9_10_31.kept kb43_4_12_7_9_10_11
       have Mb43_4_12_7_9_10_11_32:=Mb43_4_12_7_9_10_32.kept kb43_4_12_7_9_10_11
       have Mb43_4_12_7_9_10_11_33:=Mb43_4_12_7_9_10_33.kept kb43_4_12_7_9_10_11
       have Mb43_4_12_7_9_10_11_34:=Mb43_4_12_7_9_10_34.kept kb43_4_12_7_9_10_11
       have Mb43_4_12_7_9_10_11_35:=Mb43_4_12_7_9_10.kept kb43_4_12_7_9_10_11
       have Pb43_4_12_7_9_10_11_B9:=Pb43_4_12_7_9_10_B9.kept kb43_4_12_7_9_10_11
       refine hK9.out _ _ trivial (HS'.out _ Kb43_4_12_7_9_10_11) (fun _ hTb43_4_12_7_9_10_11=>?_)
       clear hK9 K
       (try simp only[Act.put,zA,zB,zC,zD,zE,zF])
       have d0:=Pb43_4_12_7_9_10_11_B9.c0
       have d1:=Pb43_4_12_7_9_10_11_B9.c1
       have d2:=Pb43_4_12_7_9_10_11_B9.c2
       have fz:=Pb43_4_12_7_9_10_11_B9.fz
       have KL0:=kept_st3 Kb43_4_12_7_9_10_11 lB9 (.bool n41) (.slice a41 l41 c41) (.int .i64 e41)
       refine wpAnyT_late (i:=13) (by kernel_rfl) rfl (by kernel_rfl) (fun K hK9=>?_)
       go_simp
       refine hK9.out _ _ (HS'.out _ KL0) (fun hL0=>?_)
       clear hK9 K
       (try simp only[Act.put,zA,zB,zC,zD,zE,zF])
       have Q0:=Pb43_4_12_7_9_10_11_B9.set (.bool n41) (.slice a41 l41 c41) (.int .i64 e41)
       have S0_41:=ni_st3 Mb43_4_12_7_9_10_11 (b:=B9) (by simp) (.bool n41) (.slice a41 l41 c41) (.int .i64 e41)
       obtain⟨Y0,hY0⟩:∃Y,Y=st3w ub43_4_12_7_9_10_11 B9 (.bool n41) (.slice a41 l41 c41) (.int .i64 e41):=⟨_,rfl⟩
       rw[←hY0]at Q0 KL0 S0_41
       rw[show((ub43_4_12_7_9_10_11.setCell ⟨B9,0,none⟩ (.bool n41)).setCell ⟨B9,1,none⟩ (.slice a41 l41 c41)).setCell ⟨B9,2,none⟩ (.int .i64 e41)=Y0 from hY0.symm]
       clear hY0 d0 d1 d2 fz hL0
       refine wpAnyT_done (by kernel_rfl) ?_ _
       (try simp only[Act.put,zA,zB,zC,zD,zE,zF])
       exact HNg.out B9 n41 a41 l41 c41 e41 v31 v32 v33 v34 v35 Y0 ⟨lB9,Q0,(ni_nil S0_41),KL0⟩
     ·skip
      intro K hK9
      go_simp
      have gb43_12:=N3.new ub43 (.bool false) (.slice none 0 0) (.int .i64 0) 43
      have kb43_12:Kept ub43 (ub43.alloc (.cells #[.bool false,.slice none 0 0,.int .i64 0] 43)):=(Kept.refl ub43).alloc _ _
      obtain⟨ub43_12,hub43_12⟩:∃u,u=ub43.alloc (.cells #[.bool false,.slice none 0 0,.int .i64 0] 43):=⟨_,rfl⟩
      obtain⟨B9,hbb43_12⟩:∃b,b=ub43.heap.size:=⟨_,rfl⟩
      rw[←hub43_12,←hbb43_12]at gb43_12
      rw[←hub43_12]at kb43_12 ⊢
      rw[←hbb43_12]
      have Kb43_12:=Kb43.trans kb43_12
      have lB9:w4.heap.size≤B9:=by rw[hbb43_12];exact Kb43.below.size
      have Mb43_12_1:=ni_alloc B9 Mb43_1 kb43_12 hbb43_12
      have Mb43_12_2:=ni_alloc B9 Mb43_2 kb43_12 hbb43_12
      have Mb43_12_31:=ni_alloc B9 Mb43 kb43_12 hbb43_12
      clear hub43_12 hbb43_12
      refine hK9.out _ _ trivial (HS'.out _ Kb43_12) (fun _ hTb43_12=>?_)
      clear hK9 K
      (try simp only[Act.put,zA,zB,zC,zD,zE,zF])
      refine wpAnyT_one (i:=4) (by kernel_rfl) rfl ?_
      intro K hK9
      go_simp
      refine(DT1 [B9] _ _ _ (lt1 gb43_12.lt) Mb43_12_1 Mb43_12_31).mono ?_
      rintro e ub43_12_4 ⟨v32,rfl,Mb43_12_4,kb43_12_4⟩
      have Kb43_12_4:=Kb43_12.trans kb43_12_4
      have Mb43_12_4_1:=Mb43_12_1.kept kb43_12_4
      have Mb43_12_4_2:=Mb43_12_2.kept kb43_12_4
      have Mb43_12_4_31:=Mb43_12_31.kept kb43_12_4
      have Pb43_12_4_B9:=gb43_12.kept kb43_12_4
      refine hK9.out _ _ trivial (HS'.out _ Kb43_12_4) (fun _ hTb43_12_4=>?_)
      clear hK9 K
      (try simp only[Act.put,zA,zB,zC,zD,zE,zF])
      refine wpAnyT_one (i:=7) (by kernel_rfl) rfl ?_
      intro K hK9
      go_simp
      refine(DM [B9] _ _ _ (lt1 Pb43_12_4_B9.lt) Mb43_12_4_2 Mb43_12_4_1).mono ?_
      rintro e ub43_12_4_7 ⟨v33,rfl,Mb43_12_4_7,kb43_12_4_7⟩
      have Kb43_12_4_7:=Kb43_12_4.trans kb43_12_4_7
      have Mb43_12_4_7_1:=Mb43_12_4_1.kept kb43_12_4_7
      have Mb43_12_4_7_2:=Mb43_12_4_2.kept kb43_12_4_7
      have Mb43_12_4_7_31:=Mb43_12_4_31.kept kb43_12_4_7
      have Mb43_12_4_7_32:=Mb43_12_4.kept kb43_12_4_7
      have Pb43_12_4_7_B9:=Pb43_12_4_B9.kept kb43_12_4_7
      refine hK9.out _ _ trivial (HS'.out _ Kb43_12_4_7) (fun _ hTb43_12_4_7=>?_)
      clear hK9 K
      (try simp only[Act.put,zA,zB,zC,zD,zE,zF])
      refine wpAnyT_one (i:=9) (by kernel_rfl) rfl ?_
      intro K hK9
      go_simp
      refine(DW2 [B9] _ (lt1 Pb43_12_4_7_B9.lt)).mono ?_
      rintro e ub43_12_4_7_9 ⟨v34,rfl,Mb43_12_4_7_9,kb43_12_4_7_9⟩
      have Kb43_12_4_7_9:=Kb43_12_4_7.trans kb43_12_4_7_9
      have Mb43_12_4_7_9_1:=Mb43_12_4_7_1.kept kb43_12_4_7_9
      have Mb43_12_4_7_9_2:=Mb43_12_4_7_2.kept kb43_12_4_7_9
      have Mb43_12_4_7_9_31:=Mb43_12_4_7_31.kept kb43_12_4_7_9
      have Mb43_12_4_7_9_32:=Mb43_12_4_7_32.kept kb43_12_4_7_9
      have Mb43_12_4_7_9_33:=Mb43_12_4_7.kept kb43_12_4_7_9
      have Pb43_12_4_7_9_B9:=Pb43_12_4_7_B9.kept kb43_12_4_7_9
      refine hK9.out _ _ trivial (HS'.out _ Kb43_12_4_7_9) (fun _ hTb43_12_4_7_9=>?_)
      clear hK9 K
      (try simp only[Act.put,zA,zB,zC,zD,zE,zF])
      refine wpAnyT_one (i:=10) (by kernel_rfl) rfl ?_
      intro K hK9
      go_simp
      refine(DT2 [B9] _ _ _ (lt1 Pb43_12_4_7_9_B9.lt) Mb43_12_4_7_9_33 Mb43_12_4_7_9).mono ?_
      rintro e ub43_12_4_7_9_10 ⟨v35,rfl,Mb43_12_4_7_9_10,kb43_12_4_7_9_10⟩
      have Kb43_12_4_7_9_10:=Kb43_12_4_7_9.trans kb43_12_4_7_9_10
      have Mb43_12_4_7_9_10_1:=Mb43_12_4_7_9_1.kept kb43_12_4_7_9_10
      have Mb43_12_4_7_9_10_2:=Mb43_12_4_7_9_2.kept kb43_12_4_7_9_10
      have Mb43_12_4_7_9_10_31:=Mb43_12_4_7_9_31.kept kb43_12_4_7_9_10
      have Mb43_12_4_7_9_10_32:=Mb43_12_4_7_9_32.kept kb43_12_4_7_9_10
      have Mb43_12_4_7_9_10_33:=Mb43_12_4_7_9_33.kept kb43_12_4_7_9_10
      have Mb43_12_4_7_9_10_34:=Mb43_12_4_7_9.kept kb43_12_4_7_9_10
      have Pb43_12_4_7_9_10_B9:=Pb43_12_4_7_9_B9.kept kb43_12_4_7_9_10
      refine hK9.out _ _ trivial (HS'.out _ Kb43_12_4_7_9_10) (fun _ hTb43_12_4_7_9_10=>?_)
      clear hK9 K
      (try simp only[Act.put,zA,zB,zC,zD,zE,zF])
      refine wpAnyT_one (i:=11) (by kernel_rfl) rfl ?_
      intro K hK9
      go_simp
      refine(DP [B9] _ _ _ (lt1 Pb43_12_4_7_9_10_B9.lt) Mb43_12_4_7_9_10_32 Mb43_12_4_7_9_10).mono ?_
      rintro e ub43_12_4_7_9_10_11 ⟨v41,rfl,Mb43_12_4_7_9_10_11,kb43_12_4_7_9_10_11⟩
      obtain⟨n41,a41,l41,c41,e41,rfl⟩:=Mb43_12_4_7_9_10_11.shape5
      have Kb43_12_4_7_9_10_11:=Kb43_12_4_7_9_10.trans kb43_12_4_7_9_10_11
      have Mb43_12_4_7_9_10_11_1:=Mb43_12_4_7_9_10_1.kept kb43_12_4_7_9_10_11
      have Mb43_12_4_7_9_10_11_2:=Mb43_12_4_7_9_10_2.kept kb43_12_4_7_9_10_11
      have Mb43_12_4_7_9_10_11_31:=Mb43_12_4_7_9_10_31.kept kb43_12_4_7_9_10_11
      have Mb43_12_4_7_9_10_11_32:=Mb43_12_4_7_9_10_32.kept kb43_12_4_7_9_10_11
      have Mb43_12_4_7_9_10_11_33:=Mb43_12_4_7_9_10_33.kept kb43_12_4_7_9_10_11
      have Mb43_12_4_7_9_10_11_34:=Mb43_12_4_7_9_10_34.kept kb43_12_4_7_9_10_11
      have Mb43_12_4_7_9_10_11_35:=Mb43_12_4_7_9_10.kept kb43_12_4_7_9_10_11
      have Pb43_12_4_7_9_10_11_B9:=Pb43_12_4_7_9_10_B9.kept kb43_12_4_7_9_10_11
      refine hK9.out _ _ trivial (HS'.out _ Kb43_12_4_7_9_10_11) (fun _ hTb43_12_4_7_9_10_11=>?_)
      clear hK9 K
      (try simp only[Act.put,zA,zB,zC,zD,zE,zF])
      have d0:=Pb43_12_4_7_9_10_11_B9.c0
      have d1:=Pb43_12_4_7_9_10_11_B9.c1
      have d2:=Pb43_12_4_7_9_10_11_B9.c2
      have fz:=Pb43_12_4_7_9_10_11_B9.fz
      have KL0:=kept_st3 Kb43_12_4_7_9_10_11 lB9 (.bool n41) (.slice a41 l41 c41) (.int .i64 e41)
      refine wpAnyT_late (i:=13) (by kernel_rfl) rfl (by kernel_rfl) (fun K hK9=>?_)
      go_simp
      refine hK9.out _ _ (HS'.out _ KL0) (fun hL0=>?_)
      clear hK9 K
      (try simp only[Act.put,zA,zB,zC,zD,zE,zF])
      have Q0:=Pb43_12_4_7_9_10_11_B9.set (.bool n41) (.slice a41 l41 c41) (.int .i64 e41)
      have S0_41:=ni_st3 Mb43_12_4_7_9_10_11 (b:=B9) (by simp) (.bool n41) (.slice a41 l41 c41) (.int .i64 e41)
      obtain⟨Y0,hY0⟩:∃Y,Y=st3w ub43_12_4_7_9_10_11 B9 (.bool n41) (.slice a41 l41 c41) (.int .i64 e41):=⟨_,rfl⟩
      rw[←hY0]at Q0 KL0 S0_41
      rw[show((ub43_12_4_7_9_10_11.setCell ⟨B9,0,none⟩ (.bool n41)).setCell ⟨B9,1,none⟩ (.slice a41 l41 c41)).setCell ⟨B9,2,none⟩ (.int .i64 e41)=Y0 from hY0.symm]
      clear hY0 d0 d1 d2 fz hL0
      refine wpAnyT_done (by kernel_rfl) ?_ _
      (try simp only[Act.put,zA,zB,zC,zD,zE,zF])
      exact HNg.out B9 n41 a41 l41 c41 e41 v31 v32 v33 v34 v35 Y0 ⟨lB9,Q0,(ni_nil S0_41),KL0⟩
    ·skip
     intro K hK9
     go_simp
     have gb412:=N3.new Y0 (.bool false) (.slice none 0 0) (.int .i64 0) 43
     have kb412:Kept Y0 (Y0.alloc (.cells #[.bool false,.slice none 0 0,.int .i64 0] 43)):=(Kept.refl Y0).alloc _ _
     obtain⟨ub412,hub412⟩:∃u,u=Y0.alloc (.cells #[.bool false,.slice none 0 0,.int .i64 0] 43):=⟨_,rfl⟩
     obtain⟨B9,hbb412⟩:∃b,b=Y0.heap.size:=⟨_,rfl⟩
     rw[←hub412,←hbb412]at gb412
     rw[←hub412]at kb412 ⊢
     rw[←hbb412]
     have Kb412:=k0.trans kb412
     have lB9:w4.heap.size≤B9:=by rw[hbb412];exact k0.below.size
     have Mb412_1:=ni_alloc B9 I0_1 kb412 hbb412
     have Mb412_2:=ni_alloc B9 I0_2 kb412 hbb412
     clear hub412 hbb412
     refine hK9.out _ _ trivial (HS'.out _ Kb412) (fun _ hTb412=>?_)
     clear hK9 K
     (try simp only[Act.put,zA,zB,zC,zD,zE,zF])
     refine wpAnyT_one (i:=3) (by kernel_rfl) rfl ?_
     intro K hK9
     go_simp
     refine(DW1 [B9] _ (lt1 gb412.lt)).mono ?_
     rintro e ub412_3 ⟨v31,rfl,Mb412_3,kb412_3⟩
     have Kb412_3:=Kb412.trans kb412_3
     have Mb412_3_1:=Mb412_1.kept kb412_3
     have Mb412_3_2:=Mb412_2.kept kb412_3
     have Pb412_3_B9:=gb412.kept kb412_3
     refine hK9.out _ _ trivial (HS'.out _ Kb412_3) (fun _ hTb412_3=>?_)
     clear hK9 K
     (try simp only[Act.put,zA,zB,zC,zD,zE,zF])
     refine wpAnyT_one (i:=4) (by kernel_rfl) rfl ?_
     intro K hK9
     go_simp
     refine(DT1 [B9] _ _ _ (lt1 Pb412_3_B9.lt) Mb412_3_1 Mb412_3).mono ?_
     rintro e ub412_3_4 ⟨v32,rfl,Mb412_3_4,kb412_3_4⟩
     have Kb412_3_4:=Kb412_3.trans kb412_3_4
     have Mb412_3_4_1:=Mb412_3_1.kept kb412_3_4
     have Mb412_3_4_2:=Mb412_3_2.kept kb412_3_4
     have Mb412_3_4_31:=Mb412_3.kept kb412_3_4
     have Pb412_3_4_B9:=Pb412_3_B9.kept kb412_3_4
     refine hK9.out _ _ trivial (HS'.out _ Kb412_3_4) (fun _ hTb412_3_4=>?_)
     clear hK9 K
     (try simp only[Act.put,zA,zB,zC,zD,zE,zF])
     refine wpAnyT_one (i:=7) (by kernel_rfl) rfl ?_
     intro K hK9
     go_simp
     refine(DM [B9] _ _ _ (lt1 Pb412_3_4_B9.lt) Mb412_3_4_2 Mb412_3_4_1).mono ?_
     rintro e ub412_3_4_7 ⟨v33,rfl,Mb412_3_4_7,kb412_3_4_7⟩
     have Kb412_3_4_7:=Kb412_3_4.trans kb412_3_4_7
     have Mb412_3_4_7_1:=Mb412_3_4_1.kept kb412_3_4_7
     have Mb412_3_4_7_2:=Mb412_3_4_2.kept kb412_3_4_7
     have Mb412_3_4_7_31:=Mb412_3_4_31.kept kb412_3_4_7
     have Mb412_3_4_7_32:=Mb412_3_4.kept kb412_3_4_7
     have Pb412_3_4_7_B9:=Pb412_3_4_B9.kept kb412_3_4_7
     refine hK9.out _ _ trivial (HS'.out _ Kb412_3_4_7) (fun _ hTb412_3_4_7=>?_)
     clear hK9 K
     (try simp only[Act.put,zA,zB,zC,zD,zE,zF])
     refine wpAnyT_one (i:=9) (by kernel_rfl) rfl ?_
     intro K hK9
     go_simp
     refine(DW2 [B9] _ (lt1 Pb412_3_4_7_B9.lt)).mono ?_
     rintro e ub412_3_4_7_9 ⟨v34,rfl,Mb412_3_4_7_9,kb412_3_4_7_9⟩
     have Kb412_3_4_7_9:=Kb412_3_4_7.trans kb412_3_4_7_9
     have Mb412_3_4_7_9_1:=Mb412_3_4_7_1.kept kb412_3_4_7_9
     have Mb412_3_4_7_9_2:=Mb412_3_4_7_2.kept kb412_3_4_7_9
     have Mb412_3_4_7_9_31:=Mb412_3_4_7_31.kept kb412_3_4_7_9
     have Mb412_3_4_7_9_32:=Mb412_3_4_7_32.kept kb412_3_4_7_9
     have Mb412_3_4_7_9_33:=Mb412_3_4_7.kept kb412_3_4_7_9
     have Pb412_3_4_7_9_B9:=Pb412_3_4_7_B9.kept kb412_3_4_7_9
     refine hK9.out _ _ trivial (HS'.out _ Kb412_3_4_7_9) (fun _ hTb412_3_4_7_9=>?_)
     clear hK9 K
     (try simp only[Act.put,zA,zB,zC,zD,zE,zF])
     refine wpAnyT_one (i:=10) (by kernel_rfl) rfl ?_
     intro K hK9
     go_simp
     refine(DT2 [B9] _ _ _ (lt1 Pb412_3_4_7_9_B9.lt) Mb412_3_4_7_9_33 Mb412_3_4_7_9).mono ?_
     rintro e ub412_3_4_7_9_10 ⟨v35,rfl,Mb412_3_4_7_9_10,kb412_3_4_7_9_10⟩
     have Kb412_3_4_7_9_10:=Kb412_3_4_7_9.trans kb412_3_4_7_9_10
     have Mb412_3_4_7_9_10_1:=Mb412_3_4_7_9_1.kept kb412_3_4_7_9_10
     have Mb412_3_4_7_9_10_2:=Mb412_3_4_7_9_2.kept kb412_3_4_7_9_10
     have Mb412_3_4_7_9_10_31:=Mb412_3_4_7_9_31.kept kb412_3_4_7_9_10
     have Mb412_3_4_7_9_10_32:=Mb412_3_4_7_9_32.kept kb412_3_4_7_9_10
     have Mb412_3_4_7_9_10_33:=Mb412_3_4_7_9_33.kept kb412_3_4_7_9_10
     have Mb412_3_4_7_9_10_34:=Mb412_3_4_7_9.kept kb412_3_4_7_9_10
     have Pb412_3_4_7_9_10_B9:=Pb412_3_4_7_9_B9.kept kb412_3_4_7_9_10
     refine hK9.out _ _ trivial (HS'.out _ Kb412_3_4_7_9_10) (fun _ hTb412_3_4_7_9_10=>?_)
     clear hK9 K
     (try simp only[Act.put,zA,zB,zC,zD,zE,zF])
     refine wpAnyT_one (i:=11) (by kernel_rfl) rfl ?_
     intro K hK9
     go_simp
     refine(DP [B9] _ _ _ (lt1 Pb412_3_4_7_9_10_B9.lt) Mb412_3_4_7_9_10_32 Mb412_3_4_7_9_10).mono ?_
     rintro e ub412_3_4_7_9_10_11 ⟨v41,rfl,Mb412_3_4_7_9_10_11,kb412_3_4_7_9_10_11⟩
     obtain⟨n41,a41,l41,c41,e41,rfl⟩:=Mb412_3_4_7_9_10_11.shape5
     have Kb412_3_4_7_9_10_11:=Kb412_3_4_7_9_10.trans kb412_3_4_7_9_10_11
     have Mb412_3_4_7_9_10_11_1:=Mb412_3_4_7_9_10_1.kept kb412_3_4_7_9_10_11
     have Mb412_3_4_7_9_10_11_2:=Mb412_3_4_7_9_10_2.kept kb412_3_4_7_9_10_11
     have Mb412_3_4_7_9_10_11_31:=Mb412_3_4_7_9_10_31.kept kb412_3_4_7_9_10_11
     have Mb412_3_4_7_9_10_11_32:=Mb412_3_4_7_9_10_32.kept kb412_3_4_7_9_10_11
     have Mb412_3_4_7_9_10_11_33:=Mb412_3_4_7_9_10_33.kept kb412_3_4_7_9_10_11
     have Mb412_3_4_7_9_10_11_34:=Mb412_3_4_7_9_10_34.kept kb412_3_4_7_9_10_11
     have Mb412_3_4_7_9_10_11_35:=Mb412_3_4_7_9_10.kept kb412_3_4_7_9_10_11
     have Pb412_3_4_7_9_10_11_B9:=Pb412_3_4_7_9_10_B9.kept kb412_3_4_7_9_10_11
     refine hK9.out _ _ trivial (HS'.out _ Kb412_3_4_7_9_10_11) (fun _ hTb412_3_4_7_9_10_11=>?_)
     clear hK9 K
     (try simp only[Act.put,zA,zB,zC,zD,zE,zF])
     have d0:=Pb412_3_4_7_9_10_11_B9.c0
     have d1:=Pb412_3_4_7_9_10_11_B9.c1
     have d2:=Pb412_3_4_7_9_10_11_B9.c2
     have fz:=Pb412_3_4_7_9_10_11_B9.fz
     have KL0:=kept_st3 Kb412_3_4_7_9_10_11 lB9 (.bool n41) (.slice a41 l41 c41) (.int .i64 e41)
     refine wpAnyT_late (i:=13) (by kernel_rfl) rfl (by kernel_rfl) (fun K hK9=>?_)
     go_simp
     refine hK9.out _ _ (HS'.out _ KL0) (fun hL0=>?_)
     clear hK9 K
     (try simp only[Act.put,zA,zB,zC,zD,zE,zF])
     have Q0:=Pb412_3_4_7_9_10_11_B9.set (.bool n41) (.slice a41 l41 c41) (.int .i64 e41)
     have S0_41:=ni_st3 Mb412_3_4_7_9_10_11 (b:=B9) (by simp) (.bool n41) (.slice a41 l41 c41) (.int .i64 e41)
     obtain⟨Y0,hY0⟩:∃Y,Y=st3w ub412_3_4_7_9_10_11 B9 (.bool n41) (.slice a41 l41 c41) (.int .i64 e41):=⟨_,rfl⟩
     rw[←hY0]at Q0 KL0 S0_41
     rw[show((ub412_3_4_7_9_10_11.setCell ⟨B9,0,none⟩ (.bool n41)).setCell ⟨B9,1,none⟩ (.slice a41 l41 c41)).setCell ⟨B9,2,none⟩ (.int .i64 e41)=Y0 from hY0.symm]
     clear hY0 d0 d1 d2 fz hL0
     refine wpAnyT_done (by kernel_rfl) ?_ _
     (try simp only[Act.put,zA,zB,zC,zD,zE,zF])
     exact HNg.out B9 n41 a41 l41 c41 e41 v31 v32 v33 v34 v35 Y0 ⟨lB9,Q0,(ni_nil S0_41),KL0⟩
   case contb4=>
    intro B9 n41 a41 l41 c41 e41 j31 j32 j33 j34 j35 Y9 hF
    obtain⟨hl9,p9,N9,kY9⟩:=hF
    have HS9:Hid (∀u,Kept Y9 u→Kept Y9 u∧(u.cell? ⟨B0,0,none⟩=some (.int .i64 4)∧u.cell? ⟨B0,1,none⟩=some (.int .i64 ba)∧u.cell? ⟨B0,2,none⟩=some (.int .i64 fa)∧u.cell? ⟨B0,3,none⟩=some (.int .i64 wa)∧u.cell? ⟨B0,4,none⟩=some (.int .i64 ev)∧u.cell? ⟨B0,5,none⟩=some (.int .i64 tt))∧(u.cell? ⟨B9,0,none⟩=some (.bool n41)∧u.cell? ⟨B9,1,none⟩=some (.slice a41 l41 c41)∧u.cell? ⟨B9,2,none⟩=some (.int .i64 e41))):=fun u k=>⟨k,(HS'.out u (kY9.trans k)).2.1,⟨(p9.kept k).c0,(p9.kept k).c1,(p9.kept k).c2⟩⟩
    have A9:=hidr N9
    have HQ9:=hidr (HQ'.out.trans kY9)
    clear hl9 p9 N9 kY9
    go_upto_region 15 with fail
    refine wp_region_held_drew (S:=fun u=>Kept Y9 u∧(u.cell? ⟨B0,0,none⟩=some (.int .i64 4)∧u.cell? ⟨B0,1,none⟩=some (.int .i64 ba)∧u.cell? ⟨B0,2,none⟩=some (.int .i64 fa)∧u.cell? ⟨B0,3,none⟩=some (.int .i64 wa)∧u.cell? ⟨B0,4,none⟩=some (.int .i64 ev)∧u.cell? ⟨B0,5,none⟩=some (.int .i64 tt))∧(u.cell? ⟨B9,0,none⟩=some (.bool n41)∧u.cell? ⟨B9,1,none⟩=some (.slice a41 l41 c41)∧u.cell? ⟨B9,2,none⟩=some (.int .i64 e41))) (by kernel_rfl) (HS9.out _ (Kept.refl Y9).drew) (fun hHeld=>?_)
    refine tk (i:=0) (v:=?_) rfl ?_
    simp only[Act.put,zA,zB,zC,zD,zE,zF]
    refine tk (i:=1) (v:=?_) rfl ?_
    simp only[Act.put,zA,zB,zC,zD,zE,zF]
    refine tk (i:=2) (v:=?_) rfl ?_
    simp only[Act.put,zA,zB,zC,zD,zE,zF]
    have M9:=hidr (A9.out.kept (Kept.refl Y9).drew)
    replace M9:=M9.out
    refine wpAnyH_ready (rs:=[3]) (by kernel_rfl) (by simp) ?_
    refine AllReadyH.cons rfl (fun K hK9=>?_) AllReadyH.nil
    go_simp
    refine(DW1 [] _ (lt0 _)).mono ?_
    rintro e u3 ⟨v18,rfl,M18,k3⟩
    replace M9:=M9.kept k3
    have r3:=(Kept.refl Y9).drew.trans k3
    have e3':=HS9.out _ r3
    refine hK9.out _ _ e3' (fun hHeld3=>?_)
    clear hK9 K
    (try simp only[Act.put,zA,zB,zC,zD,zE,zF])
    refine wpAnyH_ready (rs:=[4]) (by kernel_rfl) (by simp) ?_
    refine AllReadyH.cons rfl (fun K hK9=>?_) AllReadyH.nil
    go_simp
    refine(DQ _ _ _ M9 M18).mono ?_
    rintro e u4 ⟨rfl,k4⟩
    have r4:=r3.trans k4
    have e4':=HS9.out _ r4
    refine hK9.out _ _ e4' (fun hHeld4=>?_)
    clear hK9 K
    (try simp only[Act.put,zA,zB,zC,zD,zE,zF])
    refine tk (i:=5) (v:=?_) rfl ?_
    simp only[Act.put,zA,zB,zC,zD,zE,zF]
    refine wpAnyH_done (by kernel_rfl) ?_ _
    go_wp2_with fail
    go_ret
    exact⟨rfl,HQ9.out.trans r4⟩
  ·clear KIND c0
   obtain⟨rfl,htk,rfl⟩:=hkind
   obtain⟨c0,c1,c2,c3,c4,c5⟩:=(HS.out _ (Kept.refl Y)).2.1
   go_wp2_with fail
   go_ret
   exact⟨rfl,HQ.out⟩
  ·clear KIND c0
   obtain⟨rfl,htk,d,n1',n2',n3',n4',n5',hd,DW1,DP1,DT,DW2,DP2,DQ⟩:=hkind
   obtain⟨c0,c1,c2,c3,c4,c5⟩:=(HS.out _ (Kept.refl Y)).2.1
   go_upto_region 19 with fail
   clear c0 c1 c2 c3 c4 c5
   refine wp_region_held_drew (S:=fun u=>Kept Y u∧(u.cell? ⟨B0,0,none⟩=some (.int .i64 5)∧u.cell? ⟨B0,1,none⟩=some (.int .i64 ba)∧u.cell? ⟨B0,2,none⟩=some (.int .i64 fa)∧u.cell? ⟨B0,3,none⟩=some (.int .i64 wa)∧u.cell? ⟨B0,4,none⟩=some (.int .i64 ev)∧u.cell? ⟨B0,5,none⟩=some (.int .i64 tt))∧(u.cell? ⟨B5,0,none⟩=some (.bool n1)∧u.cell? ⟨B5,1,none⟩=some (.slice a1 l1 c1)∧u.cell? ⟨B5,2,none⟩=some (.int .i64 e1))∧(u.cell? ⟨B6,0,none⟩=some (.bool n2)∧u.cell? ⟨B6,1,none⟩=some (.slice a2 l2 c2)∧u.cell? ⟨B6,2,none⟩=some (.int .i64 e2))) (by kernel_rfl) (HS.out _ (Kept.refl Y).drew) (fun hHeld=>?_)
   refine tk (i:=0) (v:=?_) rfl ?_
   simp only[Act.put,zA,zB,zC,zD,zE,zF]
   refine tk (i:=1) (v:=?_) rfl ?_
   simp only[Act.put,zA,zB,zC,zD,zE,zF]
   refine tk (i:=2) (v:=?_) rfl ?_
   simp only[Act.put,zA,zB,zC,zD,zE,zF]
   refine tk (i:=3) (v:=?_) rfl ?_
   simp only[Act.put,zA,zB,zC,zD,zE,zF]
   refine tk (i:=4) (v:=?_) rfl ?_
   simp only[Act.put,zA,zB,zC,zD,zE,zF]
   refine tk (i:=6) (v:=?_) rfl ?_
   simp only[Act.put,zA,zB,zC,zD,zE,zF]
   refine tk (i:=7) (v:=?_) rfl ?_
   simp only[Act.put,zA,zB,zC,zD,zE,zF]
   refine tk (i:=10) (v:=?_) rfl ?_
   simp only[Act.put,zA,zB,zC,zD,zE,zF]
   refine tk (i:=11) (v:=?_) rfl ?_
   simp only[Act.put,zA,zB,zC,zD,zE,zF]
   refine tk (i:=13) (v:=?_) rfl ?_
   simp only[Act.put,zA,zB,zC,zD,zE,zF]
   refine tk (i:=14) (v:=?_) rfl ?_
   simp only[Act.put,zA,zB,zC,zD,zE,zF]
   have M1:=hidr (A1.out.kept (Kept.refl Y).drew)
   have M2:=hidr (A2.out.kept (Kept.refl Y).drew)
   replace M1:=M1.out
   replace M2:=M2.out
   refine wpAnyH_ready (rs:=[5]) (by kernel_rfl) (by simp) ?_
   refine AllReadyH.cons rfl (fun K hK9=>?_) AllReadyH.nil
   go_simp
   refine(DW1 [] _ (lt0 _)).mono ?_
   rintro e u5 ⟨v3,rfl,M3,k5⟩
   replace M1:=M1.kept k5
   have r5:=(Kept.refl Y).drew.trans k5
   have e5':=HS.out _ r5
   refine hK9.out _ _ e5' (fun hHeld5=>?_)
   clear hK9 K
   (try simp only[Act.put,zA,zB,zC,zD,zE,zF])
   refine wpAnyH_ready (rs:=[8]) (by kernel_rfl) (by simp) ?_
   refine AllReadyH.cons rfl (fun K hK9=>?_) AllReadyH.nil
   go_simp
   refine(DP1 _ _ M3).mono ?_
   rintro e u8 ⟨v4,rfl,M4,k8⟩
   replace M1:=M1.kept k8
   have r8:=r5.trans k8
   have e8':=HS.out _ r8
   refine hK9.out _ _ e8' (fun hHeld8=>?_)
   clear hK9 K
   (try simp only[Act.put,zA,zB,zC,zD,zE,zF])
   refine wpAnyH_ready (rs:=[9]) (by kernel_rfl) (by simp) ?_
   refine AllReadyH.cons rfl (fun K hK9=>?_) AllReadyH.nil
   go_simp
   refine(DT [] _ _ _ (lt0 _) M1 M4).mono ?_
   rintro e u9 ⟨v5,rfl,M5,k9⟩
   have r9:=r8.trans k9
   have e9':=HS.out _ r9
   refine hK9.out _ _ e9' (fun hHeld9=>?_)
   clear hK9 K
   (try simp only[Act.put,zA,zB,zC,zD,zE,zF])
   refine wpAnyH_ready (rs:=[12]) (by kernel_rfl) (by simp) ?_
   refine AllReadyH.cons rfl (fun K hK9=>?_) AllReadyH.nil
   go_simp
   refine(DW2 [] _ (lt0 _)).mono ?_
   rintro e u12 ⟨v6,rfl,M6,k12⟩
   replace M5:=M5.kept k12
   have r12:=r9.trans k12
   have e12':=HS.out _ r12
   refine hK9.out _ _ e12' (fun hHeld12=>?_)
   clear hK9 K
   (try simp only[Act.put,zA,zB,zC,zD,zE,zF])
   refine wpAnyH_ready (rs:=[15]) (by kernel_rfl) (by simp) ?_
   refine AllReadyH.cons rfl (fun K hK9=>?_) AllReadyH.nil
   go_simp
   refine(DP2 _ _ M6).mono ?_
   rintro e u15 ⟨v7,rfl,M7,k15⟩
   replace M5:=M5.kept k15
   have r15:=r12.trans k15
   have e15':=HS.out _ r15
   refine hK9.out _ _ e15' (fun hHeld15=>?_)
   clear hK9 K
   (try simp only[Act.put,zA,zB,zC,zD,zE,zF])
   refine wpAnyH_ready (rs:=[16]) (by kernel_rfl) (by simp) ?_
   refine AllReadyH.cons rfl (fun K hK9=>?_) AllReadyH.nil
   go_simp
   refine(DQ _ _ _ M5 M7).mono ?_
   rintro e u16 ⟨rfl,k16⟩
   have r16:=r15.trans k16
   have e16':=HS.out _ r16
   refine hK9.out _ _ e16' (fun hHeld16=>?_)
   clear hK9 K
   (try simp only[Act.put,zA,zB,zC,zD,zE,zF])
   refine tk (i:=17) (v:=?_) rfl ?_
   simp only[Act.put,zA,zB,zC,zD,zE,zF]
   refine wpAnyH_done (by kernel_rfl) ?_ _
   go_wp2_with fail
   go_ret
   exact⟨rfl,HQ.out.trans r16⟩
  ·clear KIND c0
   obtain⟨rfl,DN⟩:=hkind
   obtain⟨-,⟨c0,c1,c2,c3,c4,c5⟩,⟨b0,b1,b2⟩,-⟩:=HS.out _ (Kept.refl Y)
   go_wp2_with fail
   refine(DN _ _ A1.out).mono ?_
   rintro e u9 ⟨rfl,k9⟩
   go_wp2_with fail
   go_ret
   exact⟨rfl,HQ.out.trans k9⟩
end Go.Proofs.YtnniljhdcplkgaaGreatDoor
