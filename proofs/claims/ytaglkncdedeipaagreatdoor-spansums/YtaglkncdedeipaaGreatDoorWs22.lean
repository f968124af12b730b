/-  -/
import Derived.Test.YtaglkncdedeipaaGreatDoorWs21
namespace Go.Proofs.YtaglkncdedeipaaGreatDoor
open Go.ChangeShapes Go.WideShapes Go.ChangeAt Go.RowKit Ieee
set_option linter.unusedVariables false
set_option linter.unusedSimpArgs false
set_option maxHeartbeats 16000000
set_option maxRecDepth 100000
structure E8 (w:World) (B:Nat) (v0 v1 v2 v3 v4 v5 v6 v7:Value):Prop where
 c0:w.cell? ⟨B,0,none⟩=some v0
 c1:w.cell? ⟨B,1,none⟩=some v1
 c2:w.cell? ⟨B,2,none⟩=some v2
 c3:w.cell? ⟨B,3,none⟩=some v3
 c4:w.cell? ⟨B,4,none⟩=some v4
 c5:w.cell? ⟨B,5,none⟩=some v5
 c6:w.cell? ⟨B,6,none⟩=some v6
 c7:w.cell? ⟨B,7,none⟩=some v7
 fz:∀o,w.frozen? ⟨B,o,none⟩=false
theorem E8.new (w:World)(v0 v1 v2 v3 v4 v5 v6 v7:Value)(t:TypeId):E8 (w.alloc (.cells #[v0,v1,v2,v3,v4,v5,v6,v7] t)) w.heap.size v0 v1 v2 v3 v4 v5 v6 v7:=⟨by simp[go_sem],by simp[go_sem],by simp[go_sem],by simp[go_sem],by simp[go_sem],by simp[go_sem],by simp[go_sem],by simp[go_sem],fun o=>by simp[go_sem]⟩
theorem E8.lt {w:World}{B:Nat}{v0 v1 v2 v3 v4 v5 v6 v7:Value}(h:E8 w B v0 v1 v2 v3 v4 v5 v6 v7):B<w.heap.size:=by
 have:=h.c0
 by_cases hb:B<w.heap.size
 ·exact hb
 ·have hg:w.heap[B]?=none:=by simp at hb ⊢;omega
  simp[World.cell?,hg]at this
theorem E8.kept {w w':World}{B:Nat}{v0 v1 v2 v3 v4 v5 v6 v7:Value}(h:E8 w B v0 v1 v2 v3 v4 v5 v6 v7)(k:Kept w w'):E8 w' B v0 v1 v2 v3 v4 v5 v6 v7:=by
 have l:=h.lt
 exact⟨(k.below.cell (p:=⟨B,0,none⟩) l).trans h.c0,(k.below.cell (p:=⟨B,1,none⟩) l).trans h.c1,(k.below.cell (p:=⟨B,2,none⟩) l).trans h.c2,(k.below.cell (p:=⟨B,3,none⟩) l).trans h.c3,(k.below.cell (p:=⟨B,4,none⟩) l).trans h.c4,(k.below.cell (p:=⟨B,5,none⟩) l).trans h.c5,(k.below.cell (p:=⟨B,6,none⟩) l).trans h.c6,(k.below.cell (p:=⟨B,7,none⟩) l).trans h.c7,fun o=>(k.frozen _).trans (h.fz o)⟩
abbrev put8 (w:World)(B:Nat)(v0 v1 v2 v3 v4 v5 v6 v7:Value):World:=(((((((w.setCell ⟨B,0,none⟩ v0).setCell ⟨B,1,none⟩ v1).setCell ⟨B,2,none⟩ v2).setCell ⟨B,3,none⟩ v3).setCell ⟨B,4,none⟩ v4).setCell ⟨B,5,none⟩ v5).setCell ⟨B,6,none⟩ v6).setCell ⟨B,7,none⟩ v7
theorem E8.put {w:World}{B:Nat}{v0 v1 v2 v3 v4 v5 v6 v7:Value}(h:E8 w B v0 v1 v2 v3 v4 v5 v6 v7)(u0 u1 u2 u3 u4 u5 u6 u7:Value):E8 (put8 w B u0 u1 u2 u3 u4 u5 u6 u7) B u0 u1 u2 u3 u4 u5 u6 u7:=by
 obtain⟨c0,c1,c2,c3,c4,c5,c6,c7,fz⟩:=h
 exact⟨by simp[go_sem, *],by simp[go_sem, *],by simp[go_sem, *],by simp[go_sem, *],by simp[go_sem, *],by simp[go_sem, *],by simp[go_sem, *],by simp[go_sem, *],fun o=>by simp[World.frozen?_setCell, *]⟩
theorem E8.newk {w u:World}{v0 v1 v2 v3 v4 v5 v6 v7:Value}{t:TypeId}(k:Kept (w.alloc (.cells #[v0,v1,v2,v3,v4,v5,v6,v7] t)) u):E8 u w.heap.size v0 v1 v2 v3 v4 v5 v6 v7:=(E8.new w _ _ _ _ _ _ _ _ t).kept k
theorem E8.newe {w u:World}{v0 v1 v2 v3 v4 v5 v6 v7:Value}{t:TypeId}(k:Kept (w.alloc (.cells #[v0,v1,v2,v3,v4,v5,v6,v7] t)).drew u):E8 u w.heap.size v0 v1 v2 v3 v4 v5 v6 v7:=E8.newk (((qia _).drew).trans k)
theorem Kept.put8 {a b:World}(h:Kept a b){B:Nat}(hB:a.heap.size≤B)(v0 v1 v2 v3 v4 v5 v6 v7:Value):Kept a (put8 b B v0 v1 v2 v3 v4 v5 v6 v7):=
 (((((((h.setCell hB _).setCell hB _).setCell hB _).setCell hB _).setCell hB _).setCell hB _).setCell hB _).setCell hB _
theorem Qg (a1 b1 a2 b2:Nat)(d0 u0 d1 u1 d2 u2 d3 u3:Nat)(R P Q:Nat)(w:World)(J:Nat→Nat→Prop)(lR:R<w.heap.size)(hR:w.cell? ⟨R,0,none⟩=some (.func (.func 79) #[] #[.pointer (some ⟨P,0,none⟩),.pointer (some ⟨Q,0,none⟩)]))
  (KC:Hid (∀u x y z1 z2,(x=a1∧y=a2∧z1=d0∧z2=u0∨x=a1∧y=b2∧z1=d1∧z2=u1∨x=b1∧y=a2∧z1=d2∧z2=u2∨x=b1∧y=b2∧z1=d3∧z2=u3)→Kept w u→Calls Tryz.prog 79 #[.float .f64 x,.float .f64 y,.pointer (some ⟨P,0,none⟩),.pointer (some ⟨Q,0,none⟩)] u fun e w'=>e=.returned (fv2 z1 z2)∧Kept u w'))
  (KJ:Hid (∀(u:World) (B:Nat),Kept w u→E8 u B (.float .f64 d0) (.float .f64 u0) (.float .f64 d1) (.float .f64 u1) (.float .f64 d2) (.float .f64 u2) (.float .f64 d3) (.float .f64 u3)→Calls Tryz.prog 58 #[fv2 d0 u0,.slice (some ⟨B,2,none⟩) 3 3] u fun e w'=>∃x y,e=.returned (fv2 x y)∧J x y∧Kept u w')):
  Calls Tryz.prog 80 #[fv2 a1 b1,fv2 a2 b2,.pointer (some ⟨R,0,none⟩)] w fun e w'=>∃x y,e=.returned (fv2 x y)∧J x y∧Kept w w':=by
 have hSF:=j6
 obtain⟨X,hX⟩:∃X,X=((w.alloc (.cells #[.float .f64 a1,.float .f64 b1] 68)).alloc (.cells #[.float .f64 a2,.float .f64 b2] 68)).alloc (.cells #[.float .f64 0,.float .f64 0] 68):=⟨_,rfl⟩
 have hP1:P2 X w.heap.size (.float .f64 a1) (.float .f64 b1):=by
  rw[hX]
  exact((P2.new w _ _ _).alloc _ _).alloc _ _
 have hP2:P2 X (w.heap.size+1) (.float .f64 a2) (.float .f64 b2):=by
  rw[hX]
  have:=(P2.new (w.alloc (.cells #[.float .f64 a1,.float .f64 b1] 68)) (.float .f64 a2) (.float .f64 b2) 68).alloc #[.float .f64 0,.float .f64 0] 68
  simpa using this
 have hP3:P2 X (w.heap.size+1+1) (.float .f64 0) (.float .f64 0):=by
  rw[hX]
  have:=P2.new ((w.alloc (.cells #[.float .f64 a1,.float .f64 b1] 68)).alloc (.cells #[.float .f64 a2,.float .f64 b2] 68)) (.float .f64 0) (.float .f64 0) 68
  simpa using this
 have hK:Kept w X:=by
  rw[hX]
  exact(((qia w).alloc _ _).alloc _ _).alloc _ _
 obtain⟨H0,hH0⟩:∃H,H=w.heap.size:=⟨_,rfl⟩
 obtain⟨H1,hH1⟩:∃H,H=H0+1:=⟨_,rfl⟩
 obtain⟨H2,hH2⟩:∃H,H=H1+1:=⟨_,rfl⟩
 rw[←hH0]at hP1 hP2 hP3
 rw[←hH1]at hP2 hP3
 rw[←hH2]at hP3
 have o2:w.heap.size≤H2:=by omega
 have hRX:=(hK.below.cell (p:=⟨R,0,none⟩) lR).trans hR
 have lRX:R<X.heap.size:=qhu lR hK.below.size
 have kd:Kept X X.drew:=(qia X).drew
 have HS:Hid (∀u,Kept X u→u.cell? ⟨R,0,none⟩=some (.func (.func 79) #[] #[.pointer (some ⟨P,0,none⟩),.pointer (some ⟨Q,0,none⟩)])∧(u.cell? ⟨H0,0,none⟩=some (.float .f64 a1)∧u.cell? ⟨H0,1,none⟩=some (.float .f64 b1))∧(u.cell? ⟨H1,0,none⟩=some (.float .f64 a2)∧u.cell? ⟨H1,1,none⟩=some (.float .f64 b2))):=fun u k=>⟨(k.below.cell (p:=⟨R,0,none⟩) lRX).trans hRX,⟨(hP1.kept k).c0,(hP1.kept k).c1⟩,⟨(hP2.kept k).c0,(hP2.kept k).c1⟩⟩
 have KC':Hid (∀u x y z1 z2,(x=a1∧y=a2∧z1=d0∧z2=u0∨x=a1∧y=b2∧z1=d1∧z2=u1∨x=b1∧y=a2∧z1=d2∧z2=u2∨x=b1∧y=b2∧z1=d3∧z2=u3)→Kept X u→Calls Tryz.prog 79 #[.float .f64 x,.float .f64 y,.pointer (some ⟨P,0,none⟩),.pointer (some ⟨Q,0,none⟩)] u fun e w'=>e=.returned (fv2 z1 z2)∧Kept X w'∧Kept u w'):=fun u x y z1 z2 h k=>by
  refine(KC.out u x y z1 z2 h (hK.trans k)).mono ?_
  rintro e w' ⟨rfl,k'⟩
  exact⟨rfl,k.trans k',k'⟩
 clear KC hR hRX
 go_enter Tryz.func80,Tryz.ntmps80
 go_upto_region 1 with fail
 rw[←hX,←hH0,←hH1,←hH2]
 clear hX hH0 hH1 hH2
 go_cut [6]from 7 to 31 (fun t6 wx=>∃B,t6=.pointer (some ⟨B,0,none⟩)∧X.heap.size≤B∧E8 wx B (.float .f64 d0) (.float .f64 u0) (.float .f64 d1) (.float .f64 u1) (.float .f64 d2) (.float .f64 u2) (.float .f64 d3) (.float .f64 u3)∧Kept X wx)
 case first=>
  refine qib (S:=fun u=>u.cell? ⟨R,0,none⟩=some (.func (.func 79) #[] #[.pointer (some ⟨P,0,none⟩),.pointer (some ⟨Q,0,none⟩)])∧(u.cell? ⟨H0,0,none⟩=some (.float .f64 a1)∧u.cell? ⟨H0,1,none⟩=some (.float .f64 b1))∧(u.cell? ⟨H1,0,none⟩=some (.float .f64 a2)∧u.cell? ⟨H1,1,none⟩=some (.float .f64 b2))) (by kernel_rfl) (HS.out _ kd) (fun hHeld=>?_)
  refine tk (i:=0) (v:=?_) rfl ?_
  simp only[zz]
  refine tk (i:=1) (v:=?_) rfl ?_
  simp only[zz]
  refine tk (i:=2) (v:=?_) rfl ?_
  simp only[zz]
  refine tk (i:=3) (v:=?_) rfl ?_
  simp only[zz]
  refine tk (i:=4) (v:=?_) rfl ?_
  simp only[zz]
  refine tk (i:=6) (v:=?_) rfl ?_
  simp only[zz]
  refine tk (i:=7) (v:=?_) rfl ?_
  simp only[zz]
  refine tk (i:=8) (v:=?_) rfl ?_
  simp only[zz]
  refine tk (i:=9) (v:=?_) rfl ?_
  simp only[zz]
  refine tk (i:=10) (v:=?_) rfl ?_
  simp only[zz]
  refine tk (i:=12) (v:=?_) rfl ?_
  simp only[zz]
  refine tk (i:=13) (v:=?_) rfl ?_
  simp only[zz]
  refine tk (i:=14) (v:=?_) rfl ?_
  simp only[zz]
  refine tk (i:=15) (v:=?_) rfl ?_
  simp only[zz]
  refine tk (i:=16) (v:=?_) rfl ?_
  simp only[zz]
  refine tk (i:=18) (v:=?_) rfl ?_
  simp only[zz]
  refine tk (i:=19) (v:=?_) rfl ?_
  simp only[zz]
  refine tk (i:=20) (v:=?_) rfl ?_
  simp only[zz]
  refine tk (i:=21) (v:=?_) rfl ?_
  simp only[zz]
  refine tk (i:=22) (v:=?_) rfl ?_
  simp only[zz]
  refine qh8 (rs:=[5,25]) (by kernel_rfl) (by simp) ?_
  refine qh6 rfl (fun K hK9=>?_) (qh6 rfl (fun K hK9=>?_) qh7)
  ·go_simp
   go_wp2_with fail
   refine(KC'.out _ _ _ _ _ (.inl ⟨rfl,rfl,rfl,rfl⟩) kd).mono ?_
   rintro e wm0 ⟨rfl,km0,jm0⟩
   refine hK9.out _ _ (HS.out _ km0) (fun hHeldm0=>?_)
   clear hK9 K
   refine qh8 (rs:=[11,25]) (by kernel_rfl) (by simp) ?_
   refine qh6 rfl (fun K hK9=>?_) (qh6 rfl (fun K hK9=>?_) qh7)
   ·go_simp
    go_wp2_with fail
    refine(KC'.out _ _ _ _ _ (.inr (.inl ⟨rfl,rfl,rfl,rfl⟩)) km0).mono ?_
    rintro e wm1 ⟨rfl,km1,jm1⟩
    refine hK9.out _ _ (HS.out _ km1) (fun hHeldm1=>?_)
    clear hK9 K
    refine qh8 (rs:=[17,25]) (by kernel_rfl) (by simp) ?_
    refine qh6 rfl (fun K hK9=>?_) (qh6 rfl (fun K hK9=>?_) qh7)
    ·go_simp
     go_wp2_with fail
     refine(KC'.out _ _ _ _ _ (.inr (.inr (.inl ⟨rfl,rfl,rfl,rfl⟩))) km1).mono ?_
     rintro e wm2 ⟨rfl,km2,jm2⟩
     refine hK9.out _ _ (HS.out _ km2) (fun hHeldm2=>?_)
     clear hK9 K
     refine qh8 (rs:=[23,25]) (by kernel_rfl) (by simp) ?_
     refine qh6 rfl (fun K hK9=>?_) (qh6 rfl (fun K hK9=>?_) qh7)
     ·go_simp
      go_wp2_with fail
      refine(KC'.out _ _ _ _ _ (.inr (.inr (.inr ⟨rfl,rfl,rfl,rfl⟩))) km2).mono ?_
      rintro e wm3 ⟨rfl,km3,jm3⟩
      refine hK9.out _ _ (HS.out _ km3) (fun hHeldm3=>?_)
      clear hK9 K
      refine tk (i:=24) (v:=?_) rfl ?_
      simp only[zz]
      refine qh8 (rs:=[25]) (by kernel_rfl) (by simp) ?_
      refine qh6 rfl (fun K hK9=>?_) qh7
      go_simp
      refine hK9.out _ _ (HS.out _ (km3.alloc _ _)) (fun hHeld8=>?_)
      clear hK9 K
      refine qh8 (rs:=[26]) (by kernel_rfl) (by simp) ?_
      refine qh6 rfl (fun K hK9=>?_) qh7
      go_simp
      refine hK9.out _ _ (HS.out _ (km3.alloc _ _)) (fun hHeld9=>?_)
      clear hK9 K
      refine qic (by kernel_rfl) ?_ _
      go_wp2_with fail
      go_meet
      have zz:=km3.below.size
      exact⟨_,rfl,by omega,E8.new _ _ _ _ _ _ _ _ _ _,km3.alloc _ _⟩
     ·go_simp
      have zz:=km2.below.size
      have ka:=km2.alloc #[.float .f64 0,.float .f64 0,.float .f64 0,.float .f64 0,.float .f64 0,.float .f64 0,.float .f64 0,.float .f64 0] 108
      have qa:=E8.new wm2 (.float .f64 0) (.float .f64 0) (.float .f64 0) (.float .f64 0) (.float .f64 0) (.float .f64 0) (.float .f64 0) (.float .f64 0) 108
      refine hK9.out _ _ (HS.out _ ka) (fun hHeld7=>?_)
      clear hK9 K
      refine qh8 (rs:=[23]) (by kernel_rfl) (by simp) ?_
      refine qh6 rfl (fun K hK9=>?_) qh7
      go_simp
      go_wp2_with fail
      refine(KC'.out _ _ _ _ _ (.inr (.inr (.inr ⟨rfl,rfl,rfl,rfl⟩))) ka).mono ?_
      rintro e wa3c3 ⟨rfl,ka3c3,ja3c3⟩
      refine hK9.out _ _ (HS.out _ ka3c3) (fun hHelda3c3=>?_)
      clear hK9 K
      have qa3c3:=E8.kept qa ja3c3
      refine tk (i:=24) (v:=?_) rfl ?_
      simp only[Act.put,zz]
      obtain⟨f0,f1,f2,f3,f4,f5,f6,f7,ff⟩:=qa3c3
      have qf:=E8.mk f0 f1 f2 f3 f4 f5 f6 f7 ff
      refine qh8 (rs:=[26]) (by kernel_rfl) (by simp) ?_
      refine qh6 rfl (fun K hK9=>?_) qh7
      go_simp
      have kf:Kept X (put8 _ wm2.heap.size (.float .f64 d0) (.float .f64 u0) (.float .f64 d1) (.float .f64 u1) (.float .f64 d2) (.float .f64 u2) (.float .f64 d3) (.float .f64 u3)):=ka3c3.put8 (by omega) _ _ _ _ _ _ _ _
      refine hK9.out _ _ (HS.out _ kf) (fun hHeld9=>?_)
      clear hK9 K
      refine qic (by kernel_rfl) ?_ _
      go_wp2_with fail
      go_meet
      exact⟨_,rfl,by omega,qf.put _ _ _ _ _ _ _ _,kf⟩
    ·go_simp
     have zz:=km1.below.size
     have ka:=km1.alloc #[.float .f64 0,.float .f64 0,.float .f64 0,.float .f64 0,.float .f64 0,.float .f64 0,.float .f64 0,.float .f64 0] 108
     have qa:=E8.new wm1 (.float .f64 0) (.float .f64 0) (.float .f64 0) (.float .f64 0) (.float .f64 0) (.float .f64 0) (.float .f64 0) (.float .f64 0) 108
     refine hK9.out _ _ (HS.out _ ka) (fun hHeld7=>?_)
     clear hK9 K
     refine qh8 (rs:=[17]) (by kernel_rfl) (by simp) ?_
     refine qh6 rfl (fun K hK9=>?_) qh7
     go_simp
     go_wp2_with fail
     refine(KC'.out _ _ _ _ _ (.inr (.inr (.inl ⟨rfl,rfl,rfl,rfl⟩))) ka).mono ?_
     rintro e wa2c2 ⟨rfl,ka2c2,ja2c2⟩
     refine hK9.out _ _ (HS.out _ ka2c2) (fun hHelda2c2=>?_)
     clear hK9 K
     have qa2c2:=E8.kept qa ja2c2
     refine qh8 (rs:=[23]) (by kernel_rfl) (by simp) ?_
     refine qh6 rfl (fun K hK9=>?_) qh7
     go_simp
     go_wp2_with fail
     refine(KC'.out _ _ _ _ _ (.inr (.inr (.inr ⟨rfl,rfl,rfl,rfl⟩))) ka2c2).mono ?_
     rintro e wa2c3 ⟨rfl,ka2c3,ja2c3⟩
     refine hK9.out _ _ (HS.out _ ka2c3) (fun hHelda2c3=>?_)
     clear hK9 K
     have qa2c3:=E8.kept qa2c2 ja2c3
     refine tk (i:=24) (v:=?_) rfl ?_
     simp only[Act.put,zz]
     obtain⟨f0,f1,f2,f3,f4,f5,f6,f7,ff⟩:=qa2c3
     have qf:=E8.mk f0 f1 f2 f3 f4 f5 f6 f7 ff
     refine qh8 (rs:=[26]) (by kernel_rfl) (by simp) ?_
     refine qh6 rfl (fun K hK9=>?_) qh7
     go_simp
     have kf:Kept X (put8 _ wm1.heap.size (.float .f64 d0) (.float .f64 u0) (.float .f64 d1) (.float .f64 u1) (.float .f64 d2) (.float .f64 u2) (.float .f64 d3) (.float .f64 u3)):=ka2c3.put8 (by omega) _ _ _ _ _ _ _ _
     refine hK9.out _ _ (HS.out _ kf) (fun hHeld9=>?_)
     clear hK9 K
     refine qic (by kernel_rfl) ?_ _
     go_wp2_with fail
     go_meet
     exact⟨_,rfl,by omega,qf.put _ _ _ _ _ _ _ _,kf⟩
   ·go_simp
    have zz:=km0.below.size
    have ka:=km0.alloc #[.float .f64 0,.float .f64 0,.float .f64 0,.float .f64 0,.float .f64 0,.float .f64 0,.float .f64 0,.float .f64 0] 108
    have qa:=E8.new wm0 (.float .f64 0) (.float .f64 0) (.float .f64 0) (.float .f64 0) (.float .f64 0) (.float .f64 0) (.float .f64 0) (.float .f64 0) 108
    refine hK9.out _ _ (HS.out _ ka) (fun hHeld7=>?_)
    clear hK9 K
    refine qh8 (rs:=[11]) (by kernel_rfl) (by simp) ?_
    refine qh6 rfl (fun K hK9=>?_) qh7
    go_simp
    go_wp2_with fail
    refine(KC'.out _ _ _ _ _ (.inr (.inl ⟨rfl,rfl,rfl,rfl⟩)) ka).mono ?_
    rintro e wa1c1 ⟨rfl,ka1c1,ja1c1⟩
    refine hK9.out _ _ (HS.out _ ka1c1) (fun hHelda1c1=>?_)
    clear hK9 K
    have qa1c1:=E8.kept qa ja1c1
    refine qh8 (rs:=[17]) (by kernel_rfl) (by simp) ?_
    refine qh6 rfl (fun K hK9=>?_) qh7
    go_simp
    go_wp2_with fail
    refine(KC'.out _ _ _ _ _ (.inr (.inr (.inl ⟨rfl,rfl,rfl,rfl⟩))) ka1c1).mono ?_
    rintro e wa1c2 ⟨rfl,ka1c2,ja1c2⟩
    refine hK9.out _ _ (HS.out _ ka1c2) (fun hHelda1c2=>?_)
    clear hK9 K
    have qa1c2:=E8.kept qa1c1 ja1c2
    refine qh8 (rs:=[23]) (by kernel_rfl) (by simp) ?_
    refine qh6 rfl (fun K hK9=>?_) qh7
    go_simp
    go_wp2_with fail
    refine(KC'.out _ _ _ _ _ (.inr (.inr (.inr ⟨rfl,rfl,rfl,rfl⟩))) ka1c2).mono ?_
    rintro e wa1c3 ⟨rfl,ka1c3,ja1c3⟩
    refine hK9.out _ _ (HS.out _ ka1c3) (fun hHelda1c3=>?_)
    clear hK9 K
    have qa1c3:=E8.kept qa1c2 ja1c3
    refine tk (i:=24) (v:=?_) rfl ?_
    simp only[Act.put,zz]
    obtain⟨f0,f1,f2,f3,f4,f5,f6,f7,ff⟩:=qa1c3
    have qf:=E8.mk f0 f1 f2 f3 f4 f5 f6 f7 ff
    refine qh8 (rs:=[26]) (by kernel_rfl) (by simp) ?_
    refine qh6 rfl (fun K hK9=>?_) qh7
    go_simp
    have kf:Kept X (put8 _ wm0.heap.size (.float .f64 d0) (.float .f64 u0) (.float .f64 d1) (.float .f64 u1) (.float .f64 d2) (.float .f64 u2) (.float .f64 d3) (.float .f64 u3)):=ka1c3.put8 (by omega) _ _ _ _ _ _ _ _
    refine hK9.out _ _ (HS.out _ kf) (fun hHeld9=>?_)
    clear hK9 K
    refine qic (by kernel_rfl) ?_ _
    go_wp2_with fail
    go_meet
    exact⟨_,rfl,by omega,qf.put _ _ _ _ _ _ _ _,kf⟩
  ·go_simp
   have zz:=kd.below.size
   have ka:Kept X (X.alloc (.cells #[.float .f64 0,.float .f64 0,.float .f64 0,.float .f64 0,.float .f64 0,.float .f64 0,.float .f64 0,.float .f64 0] 108)).drew:=((qia X).alloc _ _).drew
   have qa:E8 (X.alloc (.cells #[.float .f64 0,.float .f64 0,.float .f64 0,.float .f64 0,.float .f64 0,.float .f64 0,.float .f64 0,.float .f64 0] 108)).drew X.heap.size _ _ _ _ _ _ _ _:=(E8.new X _ _ _ _ _ _ _ _ _).kept (qia _).drew
   refine hK9.out _ _ (HS.out _ ka) (fun hHeld7=>?_)
   clear hK9 K
   refine qh8 (rs:=[5]) (by kernel_rfl) (by simp) ?_
   refine qh6 rfl (fun K hK9=>?_) qh7
   go_simp
   go_wp2_with fail
   refine(KC'.out _ _ _ _ _ (.inl ⟨rfl,rfl,rfl,rfl⟩) ka).mono ?_
   rintro e wa0c0 ⟨rfl,ka0c0,ja0c0⟩
   refine hK9.out _ _ (HS.out _ ka0c0) (fun hHelda0c0=>?_)
   clear hK9 K
   have qa0c0:=E8.kept qa ja0c0
   refine qh8 (rs:=[11]) (by kernel_rfl) (by simp) ?_
   refine qh6 rfl (fun K hK9=>?_) qh7
   go_simp
   go_wp2_with fail
   refine(KC'.out _ _ _ _ _ (.inr (.inl ⟨rfl,rfl,rfl,rfl⟩)) ka0c0).mono ?_
   rintro e wa0c1 ⟨rfl,ka0c1,ja0c1⟩
   refine hK9.out _ _ (HS.out _ ka0c1) (fun hHelda0c1=>?_)
   clear hK9 K
   have qa0c1:=E8.kept qa0c0 ja0c1
   refine qh8 (rs:=[17]) (by kernel_rfl) (by simp) ?_
   refine qh6 rfl (fun K hK9=>?_) qh7
   go_simp
   go_wp2_with fail
   refine(KC'.out _ _ _ _ _ (.inr (.inr (.inl ⟨rfl,rfl,rfl,rfl⟩))) ka0c1).mono ?_
   rintro e wa0c2 ⟨rfl,ka0c2,ja0c2⟩
   refine hK9.out _ _ (HS.out _ ka0c2) (fun hHelda0c2=>?_)
   clear hK9 K
   have qa0c2:=E8.kept qa0c1 ja0c2
   refine qh8 (rs:=[23]) (by kernel_rfl) (by simp) ?_
   refine qh6 rfl (fun K hK9=>?_) qh7
   go_simp
   go_wp2_with fail
   refine(KC'.out _ _ _ _ _ (.inr (.inr (.inr ⟨rfl,rfl,rfl,rfl⟩))) ka0c2).mono ?_
   rintro e wa0c3 ⟨rfl,ka0c3,ja0c3⟩
   refine hK9.out _ _ (HS.out _ ka0c3) (fun hHelda0c3=>?_)
   clear hK9 K
   have qa0c3:=E8.kept qa0c2 ja0c3
   refine tk (i:=24) (v:=?_) rfl ?_
   simp only[Act.put,zz]
   obtain⟨f0,f1,f2,f3,f4,f5,f6,f7,ff⟩:=qa0c3
   have qf:=E8.mk f0 f1 f2 f3 f4 f5 f6 f7 ff
   refine qh8 (rs:=[26]) (by kernel_rfl) (by simp) ?_
   refine qh6 rfl (fun K hK9=>?_) qh7
   go_simp
   have kf:Kept X (put8 _ X.heap.size (.float .f64 d0) (.float .f64 u0) (.float .f64 d1) (.float .f64 u1) (.float .f64 d2) (.float .f64 u2) (.float .f64 d3) (.float .f64 u3)):=ka0c3.put8 (by omega) _ _ _ _ _ _ _ _
   refine hK9.out _ _ (HS.out _ kf) (fun hHeld9=>?_)
   clear hK9 K
   refine qic (by kernel_rfl) ?_ _
   go_wp2_with fail
   go_meet
   exact⟨_,rfl,by omega,qf.put _ _ _ _ _ _ _ _,kf⟩
 case rest=>
  obtain⟨B,rfl,hB,hE,kc⟩:=hcut
  have hP3c:=hP3.kept kc
  have kwc:=hK.trans kc
  have lB:=hE.lt
  have l3:=hP3.lt
  have nB:H2≠B:=by omega
  have HE:Hid (E8 wc B (.float .f64 d0) (.float .f64 u0) (.float .f64 d1) (.float .f64 u1) (.float .f64 d2) (.float .f64 u2) (.float .f64 d3) (.float .f64 u3)):=hE
  have HS2:Hid (∀u,Kept wc u→u.cell? ⟨B,0,none⟩=some (.float .f64 d0)∧u.cell? ⟨B,1,none⟩=some (.float .f64 u0)):=fun u k=>⟨(HE.out.kept k).c0,(HE.out.kept k).c1⟩
  have kd2:Kept wc wc.drew:=(qia _).drew
  have e0:=HS2.out _ kd2
  clear HS KC' hP1 hP2 hE kd
  go_wp2_with fail
  refine qib (S:=fun u=>u.cell? ⟨B,0,none⟩=some (.float .f64 d0)∧u.cell? ⟨B,1,none⟩=some (.float .f64 u0)) (by kernel_rfl) (e0) (fun hHeld=>?_)
  refine tk (i:=0) (v:=?_) rfl ?_
  simp only[zz]
  refine tk (i:=1) (v:=?_) rfl ?_
  simp only[zz]
  refine tk (i:=2) (v:=?_) rfl ?_
  simp only[zz]
  refine qh8 (rs:=[3]) (by kernel_rfl) (by simp) ?_
  refine qh6 rfl (fun K hK9=>?_) qh7
  go_simp
  go_wp2_with fail
  refine(KJ.out _ _ (kwc.trans kd2) (HE.out.kept kd2)).mono ?_
  rintro e v1 ⟨x,y,rfl,hJ,k1⟩
  have j1:=kd2.trans k1
  refine hK9.out _ _ (HS2.out _ j1) (fun hHeld1=>?_)
  clear hK9 K
  obtain⟨c0,c1,cf⟩:=hP3c.kept j1
  refine qh8 (rs:=[4]) (by kernel_rfl) (by simp) ?_
  refine qh6 rfl (fun K hK9=>?_) qh7
  go_simp
  have e3:((v1.setCell ⟨H2,0,none⟩ (.float .f64 x)).setCell ⟨H2,1,none⟩ (.float .f64 y)).cell? ⟨B,0,none⟩=some (.float .f64 d0)∧((v1.setCell ⟨H2,0,none⟩ (.float .f64 x)).setCell ⟨H2,1,none⟩ (.float .f64 y)).cell? ⟨B,1,none⟩=some (.float .f64 u0):=by
   have q:=HE.out.kept j1
   have nB':B≠H2:=fun e=>nB e.symm
   have q0:=q.c0
   have q1:=q.c1
   constructor<;>simp[go_sem,nB,nB',q0,q1]
  refine hK9.out _ _ e3 (fun hHeld3=>?_)
  clear hK9 K
  refine qic (by kernel_rfl) ?_ _
  go_wp2_with fail
  have hz:=(P2.mk c0 c1 cf).put (.float .f64 x) (.float .f64 y)
  obtain⟨m0,m1,mf⟩:=hz
  exact qh9 (v:=fv2 x y) (by simp[results,Tryz.results80,go_sem,m0,m1]) rfl ⟨x,y,rfl,hJ,((kwc.trans j1).setCell o2 _).setCell o2 _⟩
structure Crs (w:World) (op:Nat) (n:Int) (P Q R:Nat):Prop where
 p:w.cell? ⟨P,0,none⟩=some (.func (.func op) #[] #[])
 q:w.cell? ⟨Q,0,none⟩=some (.int .i64 n)
 r:w.cell? ⟨R,0,none⟩=some (.func (.func 79) #[] #[.pointer (some ⟨P,0,none⟩),.pointer (some ⟨Q,0,none⟩)])
 lp:P<w.heap.size
 lq:Q<w.heap.size
 lr:R<w.heap.size
theorem Crs.kept {w u:World}{op:Nat}{n:Int}{P Q R:Nat}(h:Crs w op n P Q R)(k:Kept w u):Crs u op n P Q R:=
 ⟨(k.below.cell (p:=⟨P,0,none⟩) h.lp).trans h.p,(k.below.cell (p:=⟨Q,0,none⟩) h.lq).trans h.q,(k.below.cell (p:=⟨R,0,none⟩) h.lr).trans h.r,qhu h.lp k.below.size,qhu h.lq k.below.size,qhu h.lr k.below.size⟩
theorem Xe (op:Nat)(n:Int)(w:World):Calls Tryz.prog 48 #[.func (.func op) #[] #[],.int .i64 n] w fun e w'=>∃P Q R,e=.returned (.func (.func 80) #[] #[.pointer (some ⟨R,0,none⟩)])∧Crs w' op n P Q R∧Kept w w':=by
 have hmf:∀(fn:Fn) (first cap:Array Value) (w:World),(Instr.makeFunc fn first cap).run Tryz.prog w=.ok (.func fn first cap) w:=fun _ _ _ _=>rfl
 go_enter Tryz.func48,Tryz.ntmps48
 go_wp2_with fail
 go_ret
 refine⟨w.heap.size,w.heap.size+1,w.heap.size+1+1,rfl,⟨by simp[go_sem],by simp[go_sem],by simp[go_sem],by simp;omega,by simp,by simp⟩,?_⟩
 (repeat' first|exact qia _|refine Kept.alloc ?_ _ _)
theorem qca (a1 b1 a2 b2 n:Int)(x1 y1 x2 y2:Nat)(q p1 p2:Int)(J:Nat→Nat→Prop)(w:World)
  (KB:Hid (∀u,Calls Tryz.prog 45 #[sp2 a1 b1,sp2 a2 b2,.int .i64 n] u fun e w'=>e=.returned (.tuple #[fv2 x1 y1,fv2 x2 y2,.int .i64 q])∧Kept u w'))
  (KC:Hid (∀u P Q R,Kept w u→Crs u 49 n P Q R→Calls Tryz.prog 80 #[fv2 x1 y1,fv2 x2 y2,.pointer (some ⟨R,0,none⟩)] u fun e w'=>∃x y,e=.returned (fv2 x y)∧J x y∧Kept u w'))
  (KT:Hid (∀u x y,J x y→Calls Tryz.prog 46 #[fv2 x y,.int .i64 n,.int .i64 q] u fun e w'=>e=.returned (.tuple #[sp2 p1 p2,.int .i64 q])∧Kept u w')):
  Calls Tryz.prog 11 #[sp2 a1 b1,sp2 a2 b2,.int .i64 n] w fun e w'=>e=.returned (.tuple #[sp2 p1 p2,.int .i64 q])∧Kept w w':=by
 obtain⟨X,hX⟩:∃X,X=((w.alloc (.cells #[.int .i64 a1,.int .i64 b1] 23)).alloc (.cells #[.int .i64 a2,.int .i64 b2] 23)).alloc (.cells #[.int .i64 0,.int .i64 0] 23):=⟨_,rfl⟩
 have hP1:P2 X w.heap.size (.int .i64 a1) (.int .i64 b1):=by
  rw[hX]
  exact((P2.new w _ _ _).alloc _ _).alloc _ _
 have hP2:P2 X (w.heap.size+1) (.int .i64 a2) (.int .i64 b2):=by
  rw[hX]
  have:=(P2.new (w.alloc (.cells #[.int .i64 a1,.int .i64 b1] 23)) (.int .i64 a2) (.int .i64 b2) 23).alloc #[.int .i64 0,.int .i64 0] 23
  simpa using this
 have hQ:P2 X (w.heap.size+1+1) (.int .i64 0) (.int .i64 0):=by
  rw[hX]
  have:=P2.new ((w.alloc (.cells #[.int .i64 a1,.int .i64 b1] 23)).alloc (.cells #[.int .i64 a2,.int .i64 b2] 23)) (.int .i64 0) (.int .i64 0) 23
  simpa using this
 have hK:Kept w X:=by
  rw[hX]
  exact(((qia w).alloc _ _).alloc _ _).alloc _ _
 obtain⟨H1,hH1⟩:∃H,H=w.heap.size+1:=⟨_,rfl⟩
 obtain⟨H2,hH2⟩:∃H,H=H1+1:=⟨_,rfl⟩
 rw[←hH1]at hP2 hQ
 rw[←hH2]at hQ
 have o2:w.heap.size≤H2:=by omega
 have hSF:=j6
 go_enter Tryz.func11,Tryz.ntmps11
 go_upto_region 1 with fail
 rw[←hX,←hH1,←hH2]
 clear hX hH1 hH2
 obtain⟨p10,p11,p1f⟩:=hP1
 obtain⟨p20,p21,p2f⟩:=hP2
 go_upto_region 2 with (first|(go_at_call 45;refine(KB.out _).mono ?_;rintro e w1 ⟨rfl,k1⟩))
 have hQ1:=hQ.kept k1
 have kw1:=hK.trans k1
 have lH2:=hQ1.lt
 clear p10 p11 p1f p20 p21 p2f KB hK hQ k1
 obtain⟨Y,hY⟩:∃Y,Y=(w1.alloc (.cells #[.float .f64 x1,.float .f64 y1] 68)).alloc (.cells #[.float .f64 x2,.float .f64 y2] 68):=⟨_,rfl⟩
 have hC1:P2 Y w1.heap.size (.float .f64 x1) (.float .f64 y1):=by
  rw[hY]
  exact(P2.new w1 _ _ _).alloc _ _
 have hC2:P2 Y (w1.heap.size+1) (.float .f64 x2) (.float .f64 y2):=by
  rw[hY]
  have:=P2.new (w1.alloc (.cells #[.float .f64 x1,.float .f64 y1] 68)) (.float .f64 x2) (.float .f64 y2) 68
  simpa using this
 have kY:Kept w1 Y:=by
  rw[hY]
  exact((qia w1).alloc _ _).alloc _ _
 have hQY:=hQ1.kept kY
 have kwY:=kw1.trans kY
 obtain⟨B1,hB1⟩:∃B,B=w1.heap.size:=⟨_,rfl⟩
 obtain⟨B2,hB2⟩:∃B,B=B1+1:=⟨_,rfl⟩
 rw[←hB1]at hC1 hC2
 rw[←hB2]at hC2
 rw[←hY,←hB1,←hB2]
 have n1:H2≠B1:=by omega
 have n2:H2≠B2:=by omega
 clear hY kw1 kY hQ1 hB1 hB2
 have kd:Kept Y Y.drew:=(qia Y).drew
 have HS:Hid (∀u,Kept Y u→(u.cell? ⟨B1,0,none⟩=some (.float .f64 x1)∧u.cell? ⟨B1,1,none⟩=some (.float .f64 y1))∧(u.cell? ⟨B2,0,none⟩=some (.float .f64 x2)∧u.cell? ⟨B2,1,none⟩=some (.float .f64 y2))):=fun u k=>⟨⟨(hC1.kept k).c0,(hC1.kept k).c1⟩,⟨(hC2.kept k).c0,(hC2.kept k).c1⟩⟩
 refine qib (S:=fun u=>(u.cell? ⟨B1,0,none⟩=some (.float .f64 x1)∧u.cell? ⟨B1,1,none⟩=some (.float .f64 y1))∧(u.cell? ⟨B2,0,none⟩=some (.float .f64 x2)∧u.cell? ⟨B2,1,none⟩=some (.float .f64 y2))) (by kernel_rfl) (HS.out _ kd) (fun hHeld=>?_)
 refine tk (i:=0) (v:=?_) rfl ?_
 simp only[zz]
 refine tk (i:=2) (v:=?_) rfl ?_
 simp only[zz]
 refine tk (i:=3) (v:=?_) rfl ?_
 simp only[zz]
 refine tk (i:=5) (v:=?_) rfl ?_
 simp only[zz]
 refine tk (i:=6) (v:=?_) rfl ?_
 simp only[zz]
 refine qh8 (rs:=[1]) (by kernel_rfl) (by simp) ?_
 refine qh6 rfl (fun K hK9=>?_) qh7
 go_simp
 go_wp2_with fail
 refine(Xe _ _ _).mono ?_
 rintro e v1 ⟨P,Q,R,rfl,hCr,k1⟩
 have j1:=kd.trans k1
 refine hK9.out _ _ (HS.out _ j1) (fun hHeld1=>?_)
 clear hK9 K
 refine qh8 (rs:=[4]) (by kernel_rfl) (by simp) ?_
 refine qh6 rfl (fun K hK9=>?_) qh7
 go_simp
 go_wp2_with fail
 refine(KC.out _ _ _ _ (kwY.trans j1) hCr).mono ?_
 rintro e v2 ⟨x,y,rfl,hJ,k2⟩
 have j2:=j1.trans k2
 refine hK9.out _ _ (HS.out _ j2) (fun hHeld2=>?_)
 clear hK9 K hCr
 refine qh8 (rs:=[7]) (by kernel_rfl) (by simp) ?_
 refine qh6 rfl (fun K hK9=>?_) qh7
 go_simp
 go_wp2_with fail
 refine(KT.out _ _ _ hJ).mono ?_
 rintro e v3 ⟨rfl,k3⟩
 have j3:=j2.trans k3
 refine hK9.out _ _ (HS.out _ j3) (fun hHeld3=>?_)
 clear hK9 K
 refine tk (i:=8) (v:=?_) rfl ?_
 simp only[zz]
 refine tk (i:=9) (v:=?_) rfl ?_
 simp only[zz]
 obtain⟨c0,c1,cf⟩:=hQY.kept j3
 refine qh8 (rs:=[10]) (by kernel_rfl) (by simp) ?_
 refine qh6 rfl (fun K hK9=>?_) qh7
 go_simp
 have g1:=((hC1.kept j3).set H2 0 n1 (.int .i64 p1)).set H2 1 n1 (.int .i64 p2)
 have g2:=((hC2.kept j3).set H2 0 n2 (.int .i64 p1)).set H2 1 n2 (.int .i64 p2)
 refine hK9.out _ _ ⟨⟨g1.c0,g1.c1⟩,⟨g2.c0,g2.c1⟩⟩ (fun hHeld4=>?_)
 clear hK9 K
 refine tk (i:=11) (v:=?_) rfl ?_
 simp only[zz]
 refine qic (by kernel_rfl) ?_ _
 go_wp2_with fail
 have hz:=(P2.mk c0 c1 cf).put (.int .i64 p1) (.int .i64 p2)
 obtain⟨m0,m1,mf⟩:=hz
 exact qh9 (v:=.tuple #[sp2 p1 p2,.int .i64 q]) (by simp[results,Tryz.results11,go_sem,m0,m1]) rfl ⟨rfl,((kwY.trans j3).setCell o2 _).setCell o2 _⟩
theorem Y7 {u:World}{B:Nat}{v0 v1:Value}{a b c d e f:Nat}(h:E8 u B v0 v1 (.float .f64 a) (.float .f64 b) (.float .f64 c) (.float .f64 d) (.float .f64 e) (.float .f64 f)):Ivs u (some ⟨B,2,none⟩) 3 (fun i=>if i=0 then a else if i=1 then c else e) (fun i=>if i=0 then b else if i=1 then d else f):=fun v kv i hi=>by
 have g:=h.kept kv
 refine⟨_,_,rfl,?_,?_⟩
 ·rcases(show i=0∨i=1∨i=2 by omega)with rfl|rfl|rfl
  ·exact g.c2
  ·exact g.c4
  ·exact g.c6
 ·rcases(show i=0∨i=1∨i=2 by omega)with rfl|rfl|rfl
  ·exact g.c3
  ·exact g.c5
  ·exact g.c7
theorem qev (a1 b1 a2 b2 n:Int)(s1:RB a1)(s2:RB b1)(s3:RB a2)(s4:RB b2)(hv1:vsp a1 b1 n=true)(hv2:vsp a2 b2 n=true):∃d0 d1 d2 d3 u0 u1 u2 u3,(Prk n 1 (qd a1 n) (qd a2 n) d0∧Prk n 1 (qd a1 n) (qd b2 n) d1∧Prk n 1 (qd b1 n) (qd a2 n) d2∧Prk n 1 (qd b1 n) (qd b2 n) d3)∧(Prk n 2 (qd a1 n) (qd a2 n) u0∧Prk n 2 (qd a1 n) (qd b2 n) u1∧Prk n 2 (qd b1 n) (qd a2 n) u2∧Prk n 2 (qd b1 n) (qd b2 n) u3)∧
  (∀k,k=d0∨k=d1∨k=d2∨k=d3∨k=u0∨k=u1∨k=u2∨k=u3→-(ifn n:Int)≤k∧k≤(ifn n:Int))∧
  ∀(w:World),Tab w→Calls Tryz.prog 11 #[sp2 a1 b1,sp2 a2 b2,.int .i64 n] w fun e w'=>e=.returned (.tuple #[sp2 (pz n (min (min (min d0 d1) d2) d3)) (pz n (max (max (max u0 u1) u2) u3)),.int .i64 0])∧Kept w w':=by
 obtain⟨i1,i2,v3,v4,v5⟩:=jw _ _ _ hv1
 obtain⟨i3,i4,w3,w4,w5⟩:=jw _ _ _ hv2
 have hn:=qO _ _ i1
 obtain⟨x1,y1,x2,y2,q,hB,KB⟩:=J6 a1 b1 a2 b2 n s1 s2 s3 s4
 have hq:q=0:=hB.err.trans ((vL _ _ _ _ _).2 ⟨hv1,hv2⟩)
 obtain⟨f1,f2,f3,f4⟩:=hB.ok hq
 subst hq
 have t1:(1:Int)=0∨(1:Int)=1∨(1:Int)=2:=by simp
 have t2:(2:Int)=0∨(2:Int)=1∨(2:Int)=2:=by simp
 obtain⟨z0,d0,P0,F0,C0⟩:=zm n 1 hn t1 x1 x2 _ _ f1 f3
 obtain⟨z1,d1,P1,F1,C1⟩:=zm n 1 hn t1 x1 y2 _ _ f1 f4
 obtain⟨z2,d2,P2,F2,C2⟩:=zm n 1 hn t1 y1 x2 _ _ f2 f3
 obtain⟨z3,d3,P3,F3,C3⟩:=zm n 1 hn t1 y1 y2 _ _ f2 f4
 obtain⟨v0,u0,Q0,G0,D0⟩:=zm n 2 hn t2 x1 x2 _ _ f1 f3
 obtain⟨v1,u1,Q1,G1,D1⟩:=zm n 2 hn t2 x1 y2 _ _ f1 f4
 obtain⟨v2,u2,Q2,G2,D2⟩:=zm n 2 hn t2 y1 x2 _ _ f2 f3
 obtain⟨v3',u3,Q3,G3,D3⟩:=zm n 2 hn t2 y1 y2 _ _ f2 f4
 refine⟨d0,d1,d2,d3,u0,u1,u2,u3,⟨P0,P1,P2,P3⟩,⟨Q0,Q1,Q2,Q3⟩,?_,fun w hT=>?_⟩
 ·rintro k (rfl|rfl|rfl|rfl|rfl|rfl|rfl|rfl)
  ·exact F0.rng
  ·exact F1.rng
  ·exact F2.rng
  ·exact F3.rng
  ·exact G0.rng
  ·exact G1.rng
  ·exact G2.rng
  ·exact G3.rng
 refine qca a1 b1 a2 b2 n x1 y1 x2 y2 0 _ _ (fun x y=>Fl n x (min (min (min d0 d1) d2) d3)∧Fl n y (max (max (max u0 u1) u2) u3)) w KB (fun u P Q R kwu hCr=>?_) (fun u x y h=>kl h.1 h.2 u)
 refine Qg x1 y1 x2 y2 z0 v0 z1 v1 z2 v2 z3 v3' R P Q u _ hCr.lr hCr.r (fun s a b g1 g2 hc ks=>?_) (fun s B ks hE=>?_)
 ·have hs:=hCr.kept ks
  have hTs:=(hT.kept kwu).kept ks
  refine Xd 49 (fun a b c d w=>Q9 Tryz.func49 (by kernel_rfl) (by kernel_rfl) _ w) n a b g1 g2 s P Q hs.p hs.q hs.lp hs.lq (fun t way z kt hz=>?_)
  have hTt:=hTs.kept kt
  rcases hc with ⟨rfl,rfl,rfl,rfl⟩|⟨rfl,rfl,rfl,rfl⟩|⟨rfl,rfl,rfl,rfl⟩|⟨rfl,rfl,rfl,rfl⟩<;>rcases hz with ⟨rfl,rfl⟩|⟨rfl,rfl⟩
  ·exact C0 t hTt
  ·exact D0 t hTt
  ·exact C1 t hTt
  ·exact D1 t hTt
  ·exact C2 t hTt
  ·exact D2 t hTt
  ·exact C3 t hTt
  ·exact D3 t hTt
 ·refine(Vs n z0 v0 d0 u0 F0 G0 3 (by decide) _ _ (fun i=>if i=0 then d1 else if i=1 then d2 else d3) (fun i=>if i=0 then u1 else if i=1 then u2 else u3) (fun i hi=>?_) _ _ s (Y7 hE)).mono ?_
  ·rcases(show i=0∨i=1∨i=2 by omega)with rfl|rfl|rfl
   ·exact⟨F1,G1⟩
   ·exact⟨F2,G2⟩
   ·exact⟨F3,G3⟩
  ·rintro e w' ⟨x,y,rfl,h1,h2,k'⟩
   exact⟨x,y,rfl,⟨h1,h2⟩,k'⟩
end Go.Proofs.YtaglkncdedeipaaGreatDoor
