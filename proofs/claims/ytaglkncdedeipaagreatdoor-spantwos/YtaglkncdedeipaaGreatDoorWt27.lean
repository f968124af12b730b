/-  -/
import Derived.Test.YtaglkncdedeipaaGreatDoorWt13
import Derived.Test.YtaglkncdedeipaaGreatDoorWt19
import Derived.Test.YtaglkncdedeipaaGreatDoorWt26
import Derived.Laws.MakeOwn
import Derived.Test.YtaglkncdedeipaaGreatDoorWt25
namespace Go.Proofs.YtaglkncdedeipaaGreatDoor
open Go.ChangeShapes Go.WideShapes Go.ChangeAt Go.RowKit
set_option linter.unusedVariables false
set_option linter.unusedSimpArgs false
set_option maxHeartbeats 16000000
set_option maxRecDepth 100000
theorem qbl (lo hi n z1 z2:Int)(E:Int→World→Value→Prop)(sE:Hid (∀b u u' v,E b u v→Kept u u'→E b u' v))(T:Int→World→Value→Prop)(sT:Hid (∀b u u' v,T b u v→Kept u u'→T b u' v))(w:World)
  (KO:Hid (∀u b,(b=lo∨b=hi)→Kept w u→Calls Tryz.prog 52 #[.int .i64 b,.int .i64 n] u fun e w'=>∃v,e=.returned v∧E b w' v∧Kept u w'))
  (KT:Hid (∀u b v,(b=lo∨b=hi)→Kept w u→E b u v→Calls Tryz.prog 74 #[v] u fun e w'=>∃r,e=.returned r∧T b w' r∧Kept u w'))
  (KM:Hid (∀u v1 v2,Kept w u→T hi u v1→T lo u v2→Calls Tryz.prog 60 #[v1,v2,.int .i64 n] u fun e w'=>e=.returned (.agg #[.int .i64 z1,.int .i64 z2])∧Kept u w')):
  Calls Tryz.prog 39 #[.agg #[.int .i64 lo,.int .i64 hi],.int .i64 n] w fun e w'=>e=.returned (.agg #[.int .i64 z1,.int .i64 z2])∧Kept w w':=by
 obtain⟨X,hX⟩:∃X,X=(w.alloc (.cells #[.int .i64 lo,.int .i64 hi] 23)).alloc (.cells #[.int .i64 0,.int .i64 0] 23):=⟨_,rfl⟩
 have hK:Kept w X:=by rw[hX];exact((qo0 w).alloc _ _).alloc _ _
 have hXs:X.heap.size=w.heap.size+2:=by rw[hX];simp
 have hP0:P2 X (w.heap.size) (.int .i64 lo) (.int .i64 hi):=by
  rw[hX]
  have:=((P2.new (w) (.int .i64 lo) (.int .i64 hi) 23).alloc #[.int .i64 0,.int .i64 0] 23)
  simpa using this
 have hP1:P2 X (w.heap.size+1) (.int .i64 0) (.int .i64 0):=by
  rw[hX]
  have:=(P2.new (w.alloc (.cells #[.int .i64 lo,.int .i64 hi] 23)) (.int .i64 0) (.int .i64 0) 23)
  simpa using this
 obtain⟨B0,hB0⟩:∃B,B=w.heap.size:=⟨_,rfl⟩
 obtain⟨B1,hB1⟩:∃B,B=B0+1:=⟨_,rfl⟩
 rw[←hB0]at hP0
 rw[←hB0,←hB1]at hP1
 have oB:Hid (w.heap.size≤B0∧B0<X.heap.size∧w.heap.size≤B1∧B1<X.heap.size):=(show _∧_∧_∧_ from by omega)
 have oX:Hid (w.heap.size≤X.heap.size):=hK.below.size
 have HS:Hid (∀u,Kept X u→Kept X u∧u.cell? ⟨B0,0,none⟩=some (.int .i64 lo)∧u.cell? ⟨B0,1,none⟩=some (.int .i64 hi)):=fun u k=>⟨k,(hP0.kept k).c0,(hP0.kept k).c1⟩
 go_enter Tryz.func39,Tryz.ntmps39
 go_upto_region 1 with fail
 rw[←hX,←hB0,←hB1]
 clear hX hXs hB0 hB1
 refine qm [12] (fun u=>Kept X u∧u.cell? ⟨B0,0,none⟩=some (.int .i64 lo)∧u.cell? ⟨B0,1,none⟩=some (.int .i64 hi)) (by kernel_rfl) (HS.out _ (qo0 X).drew) (fun hHeld=>?_)
 refine tkD (i:=0) (v:=?_) rfl hHeld ?_
 try simp only[zz]
 refine tkD (i:=1) (v:=?_) rfl hHeld ?_
 try simp only[zz]
 refine tkD (i:=2) (v:=?_) rfl hHeld ?_
 try simp only[zz]
 refine tkD (i:=5) (v:=?_) rfl hHeld ?_
 try simp only[zz]
 refine tkD (i:=6) (v:=?_) rfl hHeld ?_
 try simp only[zz]
 refine tkD (i:=7) (v:=?_) rfl hHeld ?_
 try simp only[zz]
 refine tkD (i:=10) (v:=?_) rfl hHeld ?_
 try simp only[zz]
 refine qi (i:=3) (by kernel_rfl) rfl (fun K hK9=>?_)
 go_simp
 go_wp2_with fail
 refine(KO.out _ _ (.inr rfl) (hK.trans hHeld.1)).mono ?_
 rintro e u1 ⟨v1,rfl,g1,k1⟩
 refine hK9.out _ _ (HS.out _ (hHeld.1.trans k1)) (fun hH1=>?_)
 clear hK9 K
 try simp only[zz]
 refine qi (i:=4) (by kernel_rfl) rfl (fun K hK9=>?_)
 go_simp
 go_wp2_with fail
 refine(KT.out _ _ _ (.inr rfl) (hK.trans hH1.1) g1).mono ?_
 rintro e u2 ⟨v2,rfl,g2,k2⟩
 refine hK9.out _ _ (HS.out _ (hH1.1.trans k2)) (fun hH2=>?_)
 clear hK9 K
 try simp only[zz]
 refine qi (i:=8) (by kernel_rfl) rfl (fun K hK9=>?_)
 go_simp
 go_wp2_with fail
 refine(KO.out _ _ (.inl rfl) (hK.trans hH2.1)).mono ?_
 rintro e u3 ⟨v3,rfl,g3,k3⟩
 refine hK9.out _ _ (HS.out _ (hH2.1.trans k3)) (fun hH3=>?_)
 clear hK9 K
 try simp only[zz]
 refine qi (i:=9) (by kernel_rfl) rfl (fun K hK9=>?_)
 go_simp
 go_wp2_with fail
 refine(KT.out _ _ _ (.inl rfl) (hK.trans hH3.1) g3).mono ?_
 rintro e u4 ⟨v4,rfl,g4,k4⟩
 refine hK9.out _ _ (HS.out _ (hH3.1.trans k4)) (fun hH4=>?_)
 clear hK9 K
 try simp only[zz]
 refine qi (i:=11) (by kernel_rfl) rfl (fun K hK9=>?_)
 go_simp
 go_wp2_with fail
 refine(KM.out _ _ _ (hK.trans hH4.1) (sT.out _ _ _ _ g2 (k3.trans k4)) g4).mono ?_
 rintro e u5 ⟨rfl,k5⟩
 refine hK9.out _ _ (HS.out _ (hH4.1.trans k5)) (fun hH5=>?_)
 clear hK9 K
 try simp only[zz]
 obtain⟨p0,p1,pf⟩:=hP1.kept hH5.1
 refine zT (i:=12) (by kernel_rfl) rfl rfl (fun K hK9=>?_)
 go_simp
 refine hK9.out _ _ ?_
 clear hK9 K
 try simp only[zz]
 refine qs (by kernel_rfl) ?_ _
 try simp only[zz]
 go_wp2_with fail
 exact qoz (v:=.agg #[.int .i64 z1,.int .i64 z2]) (by simp[results,Tryz.results39,go_sem,p0,p1]) rfl ⟨rfl,((hK.trans hH5.1).setCell (p:=⟨B1,0,none⟩) oB.out.2.2.1 _).setCell (p:=⟨B1,1,none⟩) oB.out.2.2.1 _⟩
theorem YW (s1 s2 t1 t2 n z1 z2:Int)(E:Int→World→Value→Prop)(sE:Hid (∀b u u' v,E b u v→Kept u u'→E b u' v))(F:Int→Int→World→Value→Prop)(sF:Hid (∀b c u u' v,F b c u v→Kept u u'→F b c u' v))(w:World)
  (KO:Hid (∀u b,(b=s1∨b=s2∨b=t1∨b=t2)→Kept w u→Calls Tryz.prog 52 #[.int .i64 b,.int .i64 n] u fun e w'=>∃v,e=.returned v∧E b w' v∧Kept u w'))
  (KP:Hid (∀u b c v1 v2,(b=s1∧c=t1∨b=s2∧c=t2)→Kept w u→E b u v1→E c u v2→Calls Tryz.prog 61 #[v1,v2] u fun e w'=>∃r,e=.returned r∧F b c w' r∧Kept u w'))
  (KM:Hid (∀u v1 v2,Kept w u→F s1 t1 u v1→F s2 t2 u v2→Calls Tryz.prog 60 #[v1,v2,.int .i64 n] u fun e w'=>e=.returned (.agg #[.int .i64 z1,.int .i64 z2])∧Kept u w')):
  Calls Tryz.prog 20 #[.agg #[.int .i64 s1,.int .i64 s2],.agg #[.int .i64 t1,.int .i64 t2],.int .i64 n] w fun e w'=>e=.returned (.agg #[.int .i64 z1,.int .i64 z2])∧Kept w w':=by
 obtain⟨X,hX⟩:∃X,X=((w.alloc (.cells #[.int .i64 s1,.int .i64 s2] 23)).alloc (.cells #[.int .i64 t1,.int .i64 t2] 23)).alloc (.cells #[.int .i64 0,.int .i64 0] 23):=⟨_,rfl⟩
 have hK:Kept w X:=by rw[hX];exact(((qo0 w).alloc _ _).alloc _ _).alloc _ _
 have hXs:X.heap.size=w.heap.size+3:=by rw[hX];simp
 have hP0:P2 X (w.heap.size) (.int .i64 s1) (.int .i64 s2):=by
  rw[hX]
  have:=(((P2.new (w) (.int .i64 s1) (.int .i64 s2) 23).alloc #[.int .i64 t1,.int .i64 t2] 23).alloc #[.int .i64 0,.int .i64 0] 23)
  simpa using this
 have hP1:P2 X (w.heap.size+1) (.int .i64 t1) (.int .i64 t2):=by
  rw[hX]
  have:=((P2.new (w.alloc (.cells #[.int .i64 s1,.int .i64 s2] 23)) (.int .i64 t1) (.int .i64 t2) 23).alloc #[.int .i64 0,.int .i64 0] 23)
  simpa using this
 have hP2:P2 X (w.heap.size+1+1) (.int .i64 0) (.int .i64 0):=by
  rw[hX]
  have:=(P2.new ((w.alloc (.cells #[.int .i64 s1,.int .i64 s2] 23)).alloc (.cells #[.int .i64 t1,.int .i64 t2] 23)) (.int .i64 0) (.int .i64 0) 23)
  simpa using this
 obtain⟨B0,hB0⟩:∃B,B=w.heap.size:=⟨_,rfl⟩
 obtain⟨B1,hB1⟩:∃B,B=B0+1:=⟨_,rfl⟩
 obtain⟨B2,hB2⟩:∃B,B=B1+1:=⟨_,rfl⟩
 rw[←hB0]at hP0
 rw[←hB0,←hB1]at hP1
 rw[←hB0,←hB1,←hB2]at hP2
 have oB:Hid (w.heap.size≤B0∧B0<X.heap.size∧w.heap.size≤B1∧B1<X.heap.size∧w.heap.size≤B2∧B2<X.heap.size):=(show _∧_∧_∧_∧_∧_ from by omega)
 have oX:Hid (w.heap.size≤X.heap.size):=hK.below.size
 have HS:Hid (∀u,Kept X u→Kept X u∧u.cell? ⟨B0,0,none⟩=some (.int .i64 s1)∧u.cell? ⟨B0,1,none⟩=some (.int .i64 s2)∧u.cell? ⟨B1,0,none⟩=some (.int .i64 t1)∧u.cell? ⟨B1,1,none⟩=some (.int .i64 t2)):=fun u k=>⟨k,(hP0.kept k).c0,(hP0.kept k).c1,(hP1.kept k).c0,(hP1.kept k).c1⟩
 go_enter Tryz.func20,Tryz.ntmps20
 go_upto_region 1 with fail
 rw[←hX,←hB0,←hB1,←hB2]
 clear hX hXs hB0 hB1 hB2
 refine qm [20] (fun u=>Kept X u∧u.cell? ⟨B0,0,none⟩=some (.int .i64 s1)∧u.cell? ⟨B0,1,none⟩=some (.int .i64 s2)∧u.cell? ⟨B1,0,none⟩=some (.int .i64 t1)∧u.cell? ⟨B1,1,none⟩=some (.int .i64 t2)) (by kernel_rfl) (HS.out _ (qo0 X).drew) (fun hHeld=>?_)
 refine tkD (i:=0) (v:=?_) rfl hHeld ?_
 try simp only[zz]
 refine tkD (i:=1) (v:=?_) rfl hHeld ?_
 try simp only[zz]
 refine tkD (i:=2) (v:=?_) rfl hHeld ?_
 try simp only[zz]
 refine tkD (i:=4) (v:=?_) rfl hHeld ?_
 try simp only[zz]
 refine tkD (i:=5) (v:=?_) rfl hHeld ?_
 try simp only[zz]
 refine tkD (i:=6) (v:=?_) rfl hHeld ?_
 try simp only[zz]
 refine tkD (i:=9) (v:=?_) rfl hHeld ?_
 try simp only[zz]
 refine tkD (i:=10) (v:=?_) rfl hHeld ?_
 try simp only[zz]
 refine tkD (i:=11) (v:=?_) rfl hHeld ?_
 try simp only[zz]
 refine tkD (i:=13) (v:=?_) rfl hHeld ?_
 try simp only[zz]
 refine tkD (i:=14) (v:=?_) rfl hHeld ?_
 try simp only[zz]
 refine tkD (i:=15) (v:=?_) rfl hHeld ?_
 try simp only[zz]
 refine tkD (i:=18) (v:=?_) rfl hHeld ?_
 try simp only[zz]
 refine qi (i:=3) (by kernel_rfl) rfl (fun K hK9=>?_)
 go_simp
 go_wp2_with fail
 refine(KO.out _ _ (.inl rfl) (hK.trans hHeld.1)).mono ?_
 rintro e u1 ⟨v1,rfl,g1,k1⟩
 refine hK9.out _ _ (HS.out _ (hHeld.1.trans k1)) (fun hH1=>?_)
 clear hK9 K
 try simp only[zz]
 refine qi (i:=7) (by kernel_rfl) rfl (fun K hK9=>?_)
 go_simp
 go_wp2_with fail
 refine(KO.out _ _ (.inr (.inr (.inl rfl))) (hK.trans hH1.1)).mono ?_
 rintro e u2 ⟨v2,rfl,g2,k2⟩
 refine hK9.out _ _ (HS.out _ (hH1.1.trans k2)) (fun hH2=>?_)
 clear hK9 K
 try simp only[zz]
 refine qi (i:=8) (by kernel_rfl) rfl (fun K hK9=>?_)
 go_simp
 go_wp2_with fail
 refine(KP.out _ _ _ _ _ (.inl ⟨rfl,rfl⟩) (hK.trans hH2.1) (sE.out _ _ _ _ g1 k2) g2).mono ?_
 rintro e u3 ⟨v3,rfl,g3,k3⟩
 refine hK9.out _ _ (HS.out _ (hH2.1.trans k3)) (fun hH3=>?_)
 clear hK9 K
 try simp only[zz]
 refine qi (i:=12) (by kernel_rfl) rfl (fun K hK9=>?_)
 go_simp
 go_wp2_with fail
 refine(KO.out _ _ (.inr (.inl rfl)) (hK.trans hH3.1)).mono ?_
 rintro e u4 ⟨v4,rfl,g4,k4⟩
 refine hK9.out _ _ (HS.out _ (hH3.1.trans k4)) (fun hH4=>?_)
 clear hK9 K
 try simp only[zz]
 refine qi (i:=16) (by kernel_rfl) rfl (fun K hK9=>?_)
 go_simp
 go_wp2_with fail
 refine(KO.out _ _ (.inr (.inr (.inr rfl))) (hK.trans hH4.1)).mono ?_
 rintro e u5 ⟨v5,rfl,g5,k5⟩
 refine hK9.out _ _ (HS.out _ (hH4.1.trans k5)) (fun hH5=>?_)
 clear hK9 K
 try simp only[zz]
 refine qi (i:=17) (by kernel_rfl) rfl (fun K hK9=>?_)
 go_simp
 go_wp2_with fail
 refine(KP.out _ _ _ _ _ (.inr ⟨rfl,rfl⟩) (hK.trans hH5.1) (sE.out _ _ _ _ g4 k5) g5).mono ?_
 rintro e u6 ⟨v6,rfl,g6,k6⟩
 refine hK9.out _ _ (HS.out _ (hH5.1.trans k6)) (fun hH6=>?_)
 clear hK9 K
 try simp only[zz]
 refine qi (i:=19) (by kernel_rfl) rfl (fun K hK9=>?_)
 go_simp
 go_wp2_with fail
 refine(KM.out _ _ _ (hK.trans hH6.1) (sF.out _ _ _ _ _ g3 (k4.trans (k5.trans k6))) g6).mono ?_
 rintro e u7 ⟨rfl,k7⟩
 refine hK9.out _ _ (HS.out _ (hH6.1.trans k7)) (fun hH7=>?_)
 clear hK9 K
 try simp only[zz]
 obtain⟨p0,p1,pf⟩:=hP2.kept hH7.1
 refine zT (i:=20) (by kernel_rfl) rfl rfl (fun K hK9=>?_)
 go_simp
 refine hK9.out _ _ ?_
 clear hK9 K
 try simp only[zz]
 refine qs (by kernel_rfl) ?_ _
 try simp only[zz]
 go_wp2_with fail
 exact qoz (v:=.agg #[.int .i64 z1,.int .i64 z2]) (by simp[results,Tryz.results20,go_sem,p0,p1]) rfl ⟨rfl,((hK.trans hH7.1).setCell (p:=⟨B2,0,none⟩) oB.out.2.2.2.2.1 _).setCell (p:=⟨B2,1,none⟩) oB.out.2.2.2.2.1 _⟩
theorem VE (s1 s2 t1 t2 n g1 g2 z1 z2:Int)(w:World)
  (KN:Hid (∀u,Kept w u→Calls Tryz.prog 39 #[.agg #[.int .i64 t1,.int .i64 t2],.int .i64 n] u fun e w'=>e=.returned (.agg #[.int .i64 g1,.int .i64 g2])∧Kept u w'))
  (KP:Hid (∀u,Kept w u→Calls Tryz.prog 20 #[.agg #[.int .i64 s1,.int .i64 s2],.agg #[.int .i64 g1,.int .i64 g2],.int .i64 n] u fun e w'=>e=.returned (.agg #[.int .i64 z1,.int .i64 z2])∧Kept u w')):
  Calls Tryz.prog 21 #[.agg #[.int .i64 s1,.int .i64 s2],.agg #[.int .i64 t1,.int .i64 t2],.int .i64 n] w fun e w'=>e=.returned (.agg #[.int .i64 z1,.int .i64 z2])∧Kept w w':=by
 obtain⟨X,hX⟩:∃X,X=((w.alloc (.cells #[.int .i64 s1,.int .i64 s2] 23)).alloc (.cells #[.int .i64 t1,.int .i64 t2] 23)).alloc (.cells #[.int .i64 0,.int .i64 0] 23):=⟨_,rfl⟩
 have hK:Kept w X:=by rw[hX];exact(((qo0 w).alloc _ _).alloc _ _).alloc _ _
 have hXs:X.heap.size=w.heap.size+3:=by rw[hX];simp
 have hP0:P2 X (w.heap.size) (.int .i64 s1) (.int .i64 s2):=by
  rw[hX]
  have:=(((P2.new (w) (.int .i64 s1) (.int .i64 s2) 23).alloc #[.int .i64 t1,.int .i64 t2] 23).alloc #[.int .i64 0,.int .i64 0] 23)
  simpa using this
 have hP1:P2 X (w.heap.size+1) (.int .i64 t1) (.int .i64 t2):=by
  rw[hX]
  have:=((P2.new (w.alloc (.cells #[.int .i64 s1,.int .i64 s2] 23)) (.int .i64 t1) (.int .i64 t2) 23).alloc #[.int .i64 0,.int .i64 0] 23)
  simpa using this
 have hP2:P2 X (w.heap.size+1+1) (.int .i64 0) (.int .i64 0):=by
  rw[hX]
  have:=(P2.new ((w.alloc (.cells #[.int .i64 s1,.int .i64 s2] 23)).alloc (.cells #[.int .i64 t1,.int .i64 t2] 23)) (.int .i64 0) (.int .i64 0) 23)
  simpa using this
 obtain⟨B0,hB0⟩:∃B,B=w.heap.size:=⟨_,rfl⟩
 obtain⟨B1,hB1⟩:∃B,B=B0+1:=⟨_,rfl⟩
 obtain⟨B2,hB2⟩:∃B,B=B1+1:=⟨_,rfl⟩
 rw[←hB0]at hP0
 rw[←hB0,←hB1]at hP1
 rw[←hB0,←hB1,←hB2]at hP2
 have oB:Hid (w.heap.size≤B0∧B0<X.heap.size∧w.heap.size≤B1∧B1<X.heap.size∧w.heap.size≤B2∧B2<X.heap.size):=(show _∧_∧_∧_∧_∧_ from by omega)
 have oX:Hid (w.heap.size≤X.heap.size):=hK.below.size
 have HS:Hid (∀u,Kept X u→Kept X u∧u.cell? ⟨B0,0,none⟩=some (.int .i64 s1)∧u.cell? ⟨B0,1,none⟩=some (.int .i64 s2)∧u.cell? ⟨B1,0,none⟩=some (.int .i64 t1)∧u.cell? ⟨B1,1,none⟩=some (.int .i64 t2)):=fun u k=>⟨k,(hP0.kept k).c0,(hP0.kept k).c1,(hP1.kept k).c0,(hP1.kept k).c1⟩
 go_enter Tryz.func21,Tryz.ntmps21
 go_upto_region 1 with fail
 rw[←hX,←hB0,←hB1,←hB2]
 clear hX hXs hB0 hB1 hB2
 refine qm [6] (fun u=>Kept X u∧u.cell? ⟨B0,0,none⟩=some (.int .i64 s1)∧u.cell? ⟨B0,1,none⟩=some (.int .i64 s2)∧u.cell? ⟨B1,0,none⟩=some (.int .i64 t1)∧u.cell? ⟨B1,1,none⟩=some (.int .i64 t2)) (by kernel_rfl) (HS.out _ (qo0 X).drew) (fun hHeld=>?_)
 refine tkD (i:=0) (v:=?_) rfl hHeld ?_
 try simp only[zz]
 refine tkD (i:=1) (v:=?_) rfl hHeld ?_
 try simp only[zz]
 refine tkD (i:=2) (v:=?_) rfl hHeld ?_
 try simp only[zz]
 refine tkD (i:=4) (v:=?_) rfl hHeld ?_
 try simp only[zz]
 refine qi (i:=3) (by kernel_rfl) rfl (fun K hK9=>?_)
 go_simp
 go_wp2_with fail
 refine(KN.out _ (hK.trans hHeld.1)).mono ?_
 rintro e u1 ⟨rfl,k1⟩
 refine hK9.out _ _ (HS.out _ (hHeld.1.trans k1)) (fun hH1=>?_)
 clear hK9 K
 try simp only[zz]
 refine qi (i:=5) (by kernel_rfl) rfl (fun K hK9=>?_)
 go_simp
 go_wp2_with fail
 refine(KP.out _ (hK.trans hH1.1)).mono ?_
 rintro e u2 ⟨rfl,k2⟩
 refine hK9.out _ _ (HS.out _ (hH1.1.trans k2)) (fun hH2=>?_)
 clear hK9 K
 try simp only[zz]
 obtain⟨p0,p1,pf⟩:=hP2.kept hH2.1
 refine zT (i:=6) (by kernel_rfl) rfl rfl (fun K hK9=>?_)
 go_simp
 refine hK9.out _ _ ?_
 clear hK9 K
 try simp only[zz]
 refine qs (by kernel_rfl) ?_ _
 try simp only[zz]
 go_wp2_with fail
 exact qoz (v:=.agg #[.int .i64 z1,.int .i64 z2]) (by simp[results,Tryz.results21,go_sem,p0,p1]) rfl ⟨rfl,((hK.trans hH2.1).setCell (p:=⟨B2,0,none⟩) oB.out.2.2.2.2.1 _).setCell (p:=⟨B2,1,none⟩) oB.out.2.2.2.2.1 _⟩
theorem YX (lo hi n g1 g2:Int)(E:Int→World→Value→Prop)(sE:Hid (∀b u u' v,E b u v→Kept u u'→E b u' v))(w:World)
  (KO:Hid (∀u b,(b=lo∨b=hi)→Kept w u→Calls Tryz.prog 52 #[.int .i64 b,.int .i64 n] u fun e w'=>∃v,e=.returned v∧E b w' v∧Kept u w'))
  (KS:Hid (∀u b v g,(b=lo∧g=g1∨b=hi∧g=g2)→Kept w u→E b u v→Calls Tryz.prog 63 #[v] u fun e w'=>e=.returned (.int .i64 g)∧Kept u w')):
  Calls Tryz.prog 24 #[.agg #[.int .i64 lo,.int .i64 hi],.int .i64 n] w fun e w'=>e=.returned (.bool (decide (g1≤0)&&decide (0≤g2)))∧Kept w w':=by
 obtain⟨t1,ht1⟩:∃t,t=decide (g1≤0):=⟨_,rfl⟩
 obtain⟨t2,ht2⟩:∃t,t=decide (0≤g2):=⟨_,rfl⟩
 rw[←ht1,←ht2]
 have ht1':decide (g1≤0)=t1:=ht1.symm
 have ht2':decide (g2≥0)=t2:=ht2.symm
 clear ht1 ht2
 obtain⟨X,hX⟩:∃X,X=w.alloc (.cells #[.int .i64 lo,.int .i64 hi] 23):=⟨_,rfl⟩
 have hK:Kept w X:=by rw[hX];exact(qo0 w).alloc _ _
 have hXs:X.heap.size=w.heap.size+1:=by rw[hX];simp
 have hP0:P2 X (w.heap.size) (.int .i64 lo) (.int .i64 hi):=by
  rw[hX]
  have:=(P2.new (w) (.int .i64 lo) (.int .i64 hi) 23)
  simpa using this
 obtain⟨B0,hB0⟩:∃B,B=w.heap.size:=⟨_,rfl⟩
 rw[←hB0]at hP0
 have oB:Hid (w.heap.size≤B0∧B0<X.heap.size):=(show _∧_ from by omega)
 have oX:Hid (w.heap.size≤X.heap.size):=hK.below.size
 go_enter Tryz.func24,Tryz.ntmps24
 go_upto_region 1 with fail
 rw[←hX,←hB0]
 clear hX hXs hB0
 obtain⟨p0,p1,pf⟩:=hP0.kept (qo0 X)
 go_wp2_with fail
 refine(KO.out _ _ (.inl rfl) hK).mono ?_
 rintro e w1 ⟨v1,rfl,q1,k1⟩
 go_wp2_with fail
 refine(KS.out _ _ _ _ (.inl ⟨rfl,rfl⟩) (hK.trans k1) q1).mono ?_
 rintro e w2 ⟨rfl,k2⟩
 clear p0 p1 pf
 obtain⟨p0,p1,pf⟩:=hP0.kept (k1.trans k2)
 cases t1
 ·go_wp2_with fail
  go_ret
  exact⟨rfl,hK.trans (k1.trans k2)⟩
 ·go_wp2_with fail
  refine(KO.out _ _ (.inr rfl) (hK.trans (k1.trans k2))).mono ?_
  rintro e w3 ⟨v3,rfl,q3,k3⟩
  go_wp2_with fail
  refine(KS.out _ _ _ _ (.inr ⟨rfl,rfl⟩) (hK.trans (k1.trans (k2.trans k3))) q3).mono ?_
  rintro e w4 ⟨rfl,k4⟩
  go_wp2_with fail
  go_ret
  exact⟨by simp[ht2'],hK.trans (k1.trans (k2.trans (k3.trans k4)))⟩
theorem qbm (lo hi n:Int)(q1 q2 m1 m2:Bool)(hq:(!q1||(!q2||(m1||m2)))=true)(w:World)
  (KV:Hid (∀u b q,(b=lo∧q=q1∨b=hi∧q=q2)→Calls Tryz.prog 50 #[.int .i64 b,.int .i64 n] u fun e w'=>e=.returned (.bool q)∧Kept u w'))
  (KN:Hid (∀u b q,(b=lo∧q=m1∨b=hi∧q=m2)→Calls Tryz.prog 51 #[.int .i64 b,.int .i64 n] u fun e w'=>e=.returned (.bool q)∧Kept u w')):
  Calls Tryz.prog 12 #[.agg #[.int .i64 lo,.int .i64 hi],.int .i64 n] w fun e w'=>e=.returned (.bool false)∧Kept w w':=by
 obtain⟨X,hX⟩:∃X,X=w.alloc (.cells #[.int .i64 lo,.int .i64 hi] 23):=⟨_,rfl⟩
 have hK:Kept w X:=by rw[hX];exact(qo0 w).alloc _ _
 have hXs:X.heap.size=w.heap.size+1:=by rw[hX];simp
 have hP0:P2 X (w.heap.size) (.int .i64 lo) (.int .i64 hi):=by
  rw[hX]
  have:=(P2.new (w) (.int .i64 lo) (.int .i64 hi) 23)
  simpa using this
 obtain⟨B0,hB0⟩:∃B,B=w.heap.size:=⟨_,rfl⟩
 rw[←hB0]at hP0
 have oB:Hid (w.heap.size≤B0∧B0<X.heap.size):=(show _∧_ from by omega)
 have oX:Hid (w.heap.size≤X.heap.size):=hK.below.size
 go_enter Tryz.func12,Tryz.ntmps12
 go_upto_region 1 with fail
 rw[←hX,←hB0]
 clear hX hXs hB0
 obtain⟨p0,p1,pf⟩:=hP0.kept (qo0 X)
 go_wp2_with fail
 refine(KV.out _ _ _ (.inl ⟨rfl,rfl⟩)).mono ?_
 rintro e w1 ⟨rfl,k1⟩
 have kk:=k1
 clear p0 p1 pf
 obtain⟨p0,p1,pf⟩:=hP0.kept kk
 cases q1
 ·go_wp2_with fail
  go_ret
  exact⟨rfl,hK.trans kk⟩
 ·skip
  go_wp2_with fail
  refine(KV.out _ _ _ (.inr ⟨rfl,rfl⟩)).mono ?_
  rintro e w2 ⟨rfl,k2⟩
  have kk:=kk.trans k2
  clear p0 p1 pf
  obtain⟨p0,p1,pf⟩:=hP0.kept kk
  cases q2
  ·go_wp2_with fail
   go_ret
   exact⟨rfl,hK.trans kk⟩
  ·skip
   go_wp2_with fail
   refine(KN.out _ _ _ (.inl ⟨rfl,rfl⟩)).mono ?_
   rintro e w3 ⟨rfl,k3⟩
   have kk:=kk.trans k3
   clear p0 p1 pf
   obtain⟨p0,p1,pf⟩:=hP0.kept kk
   cases m1
   ·have hm:m2=true:=by simpa using hq
    subst hm
    go_wp2_with fail
    refine(KN.out _ _ _ (.inr ⟨rfl,rfl⟩)).mono ?_
    rintro e w4 ⟨rfl,k4⟩
    go_wp2_with fail
    go_ret
    exact⟨rfl,hK.trans (kk.trans k4)⟩
   ·go_wp2_with fail
    go_ret
    exact⟨rfl,hK.trans kk⟩
theorem YY (lo hi n i1 i2 g:Int)(t1 t2 t3:Bool)(ht1:(i1 != 1)=t1)(ht2:(i2 != -1)=t2)(ht3:decide (g≤0)=t3)(q1 q2 m1 m2:Bool)(hq1:q1=true)(hq2:q2=true)(hm1:m1=false)(hm2:m2=false)(E:Int→World→Value→Prop)(sE:Hid (∀b u u' v,E b u v→Kept u u'→E b u' v))(w:World)
  (KV:Hid (∀u b q,(b=lo∧q=q1∨b=hi∧q=q2)→Calls Tryz.prog 50 #[.int .i64 b,.int .i64 n] u fun e w'=>e=.returned (.bool q)∧Kept u w'))
  (KN:Hid (∀u b q,(b=lo∧q=m1∨b=hi∧q=m2)→Calls Tryz.prog 51 #[.int .i64 b,.int .i64 n] u fun e w'=>e=.returned (.bool q)∧Kept u w'))
  (KO:Hid (∀u b i,(b=lo∧i=i1∨b=hi∧i=i2)→Kept w u→Calls Tryz.prog 52 #[.int .i64 b,.int .i64 n] u fun e w'=>∃(n1:Bool) (a1:Option Addr) (l1 c1:Nat) (x1:Int) (m1:Bool) (b1:Option Addr) (k1 d1:Nat) (y1:Int),e=.returned (env i n1 a1 l1 c1 x1 m1 b1 k1 d1 y1)∧E b w' (env i n1 a1 l1 c1 x1 m1 b1 k1 d1 y1)∧Kept u w'))
  (KR:Hid (∀u v1 v2,Kept w u→E lo u v1→E hi u v2→Calls Tryz.prog 53 #[v1,v2] u fun e w'=>e=.returned (.int .i64 g)∧Kept u w')):
  Calls Tryz.prog 12 #[.agg #[.int .i64 lo,.int .i64 hi],.int .i64 n] w fun e w'=>e=.returned (.bool (t1&&t2&&t3))∧Kept w w':=by
 subst hq1 hq2 hm1 hm2
 obtain⟨X,hX⟩:∃X,X=w.alloc (.cells #[.int .i64 lo,.int .i64 hi] 23):=⟨_,rfl⟩
 have hK:Kept w X:=by rw[hX];exact(qo0 w).alloc _ _
 have hXs:X.heap.size=w.heap.size+1:=by rw[hX];simp
 have hP0:P2 X (w.heap.size) (.int .i64 lo) (.int .i64 hi):=by
  rw[hX]
  have:=(P2.new (w) (.int .i64 lo) (.int .i64 hi) 23)
  simpa using this
 obtain⟨B0,hB0⟩:∃B,B=w.heap.size:=⟨_,rfl⟩
 rw[←hB0]at hP0
 have oB:Hid (w.heap.size≤B0∧B0<X.heap.size):=(show _∧_ from by omega)
 have oX:Hid (w.heap.size≤X.heap.size):=hK.below.size
 go_enter Tryz.func12,Tryz.ntmps12
 go_upto_region 1 with fail
 rw[←hX,←hB0]
 clear hX hXs hB0
 obtain⟨p0,p1,pf⟩:=hP0.kept (qo0 X)
 go_wp2_with fail
 refine(KV.out _ _ _ (.inl ⟨rfl,rfl⟩)).mono ?_
 rintro e w1 ⟨rfl,k1⟩
 have kk:=k1
 clear p0 p1 pf
 obtain⟨p0,p1,pf⟩:=hP0.kept kk
 go_wp2_with fail
 refine(KV.out _ _ _ (.inr ⟨rfl,rfl⟩)).mono ?_
 rintro e w2 ⟨rfl,k2⟩
 have kk:=kk.trans k2
 clear p0 p1 pf
 obtain⟨p0,p1,pf⟩:=hP0.kept kk
 go_wp2_with fail
 refine(KN.out _ _ _ (.inl ⟨rfl,rfl⟩)).mono ?_
 rintro e w3 ⟨rfl,k3⟩
 have kk:=kk.trans k3
 clear p0 p1 pf
 obtain⟨p0,p1,pf⟩:=hP0.kept kk
 go_wp2_with fail
 refine(KN.out _ _ _ (.inr ⟨rfl,rfl⟩)).mono ?_
 rintro e w4 ⟨rfl,k4⟩
 have kk:=kk.trans k4
 clear p0 p1 pf
 obtain⟨p0,p1,pf⟩:=hP0.kept kk
 go_upto_region 3 with fail
 go_wp2_with fail
 refine(KO.out _ _ _ (.inl ⟨rfl,rfl⟩) (hK.trans kk)).mono ?_
 rintro e w5 ⟨n1,a1,l1,c1,x1,m1,b1,k1n,d1,y1,rfl,g1,k5⟩
 go_upto_region 4 with fail
 have k5':=k5.alloc #[.int .i64 i1,.bool n1,.slice a1 l1 c1,.int .i64 x1,.bool m1,.slice b1 k1n d1,.int .i64 y1] 77
 have hL:=P7.new w5 (.int .i64 i1) (.bool n1) (.slice a1 l1 c1) (.int .i64 x1) (.bool m1) (.slice b1 k1n d1) (.int .i64 y1) 77
 obtain⟨Y5,hY5⟩:∃Y,Y=w5.alloc (.cells #[.int .i64 i1,.bool n1,.slice a1 l1 c1,.int .i64 x1,.bool m1,.slice b1 k1n d1,.int .i64 y1] 77):=⟨_,rfl⟩
 obtain⟨B5,hB5⟩:∃B,B=w5.heap.size:=⟨_,rfl⟩
 rw[←hY5]at k5' hL
 rw[←hB5]at hL
 rw[←hY5,←hB5]
 have g1:=sE.out _ _ _ _ g1 (show Kept w5 Y5 by rw[hY5];exact(qo0 w5).alloc _ _)
 have kk:=kk.trans k5'
 clear hY5 hB5 k5 k5' p0 p1 pf
 obtain⟨p0,p1,pf⟩:=hP0.kept kk
 go_wp2_with fail
 refine(KO.out _ _ _ (.inr ⟨rfl,rfl⟩) (hK.trans kk)).mono ?_
 rintro e w6 ⟨n2,a2,l2,c2,x2,m2,b2,k2n,d2,y2,rfl,g2,k6⟩
 go_upto_region 5 with fail
 have k6':=k6.alloc #[.int .i64 i2,.bool n2,.slice a2 l2 c2,.int .i64 x2,.bool m2,.slice b2 k2n d2,.int .i64 y2] 77
 have hH:=P7.new w6 (.int .i64 i2) (.bool n2) (.slice a2 l2 c2) (.int .i64 x2) (.bool m2) (.slice b2 k2n d2) (.int .i64 y2) 77
 obtain⟨Y6,hY6⟩:∃Y,Y=w6.alloc (.cells #[.int .i64 i2,.bool n2,.slice a2 l2 c2,.int .i64 x2,.bool m2,.slice b2 k2n d2,.int .i64 y2] 77):=⟨_,rfl⟩
 obtain⟨B6,hB6⟩:∃B,B=w6.heap.size:=⟨_,rfl⟩
 rw[←hY6]at k6' hH
 rw[←hB6]at hH
 rw[←hY6,←hB6]
 have g2:=sE.out _ _ _ _ g2 (show Kept w6 Y6 by rw[hY6];exact(qo0 w6).alloc _ _)
 have g1:=sE.out _ _ _ _ g1 k6'
 have hL:=hL.kept k6'
 have kk:=kk.trans k6'
 clear hY6 hB6 k6 k6' p0 p1 pf
 obtain⟨e0,e1,e2,e3,e4,e5,e6,ef⟩:=hL
 obtain⟨f0,f1,f2,f3,f4,f5,f6,ff⟩:=hH
 cases t1
 ·go_wp2_with fail
  go_ret
  exact⟨rfl,hK.trans kk⟩
 ·cases t2
  ·go_wp2_with fail
   go_ret
   exact⟨rfl,hK.trans kk⟩
  ·go_wp2_with fail
   refine(KR.out _ _ _ (hK.trans kk) g1 g2).mono ?_
   rintro e w7 ⟨rfl,k7⟩
   go_wp2_with fail
   go_ret
   exact⟨by simp[ht3],hK.trans (kk.trans k7)⟩
end Go.Proofs.YtaglkncdedeipaaGreatDoor
namespace Go.Proofs.YtaglkncdedeipaaGreatDoor
open Go.ChangeShapes Go.WideShapes Go.ChangeAt Go.RowKit Ieee
set_option linter.unusedVariables false
set_option linter.unusedSimpArgs false
set_option maxHeartbeats 16000000
set_option maxRecDepth 100000
theorem Q4 (x y:Nat)(w:World):Calls Tryz.prog 54 #[fv2 x y] w fun e w'=>e=.returned (fv2 (Op.negFloat .f64 y) (Op.negFloat .f64 x))∧Kept w w':=by
 have hSF:=jx
 have hun:∀(b:Nat) (wx:World),(Op.unary .neg (.float .f64 b)).run Tryz.prog wx=.ok (.float .f64 (Op.negFloat .f64 b)) wx:=fun _ _=>rfl
 go_enter Tryz.func54,Tryz.ntmps54
 go_wp2_with fail
 refine qoz (v:=fv2 (Op.negFloat .f64 y) (Op.negFloat .f64 x)) (by simp[results,Tryz.results54,go_sem]) rfl ⟨rfl,?_⟩
 (repeat' first|exact qo0 _|refine Kept.setCell ?_ ?_ _|refine Kept.alloc ?_ _ _|(simp;done)|(simp<;>omega))
theorem Ku (a1 b1 a2 b2 n:Int)(x1 y1 x2 y2 x3 y3:Nat)(q p1 p2:Int)(J:Nat→Nat→Prop)(w:World)
  (KB:Hid (∀u,Calls Tryz.prog 45 #[sp2 a1 b1,sp2 a2 b2,.int .i64 n] u fun e w'=>e=.returned (.tuple #[fv2 x1 y1,fv2 x2 y2,.int .i64 q])∧Kept u w'))
  (KN:Hid (∀u,Calls Tryz.prog 54 #[fv2 x2 y2] u fun e w'=>e=.returned (fv2 x3 y3)∧Kept u w'))
  (KJ:Hid (∀(u v:World) (B:Nat),Kept w u→B=v.heap.size→Kept (v.alloc (.cells #[.float .f64 x1,.float .f64 y1,.float .f64 x3,.float .f64 y3] 68)) u→Calls Tryz.prog 47 #[.int .i64 n,.slice (some ⟨B,0,none⟩) 2 2] u fun e w'=>∃x y,e=.returned (fv2 x y)∧J x y∧Kept u w'))
  (KT:Hid (∀u x y,J x y→Calls Tryz.prog 46 #[fv2 x y,.int .i64 n,.int .i64 q] u fun e w'=>e=.returned (.tuple #[sp2 p1 p2,.int .i64 q])∧Kept u w')):
  Calls Tryz.prog 14 #[sp2 a1 b1,sp2 a2 b2,.int .i64 n] w fun e w'=>e=.returned (.tuple #[sp2 p1 p2,.int .i64 q])∧Kept w w':=by
 obtain⟨X,hX⟩:∃X,X=((w.alloc (.cells #[.int .i64 a1,.int .i64 b1] 23)).alloc (.cells #[.int .i64 a2,.int .i64 b2] 23)).alloc (.cells #[.int .i64 0,.int .i64 0] 23):=⟨_,rfl⟩
 have hP1:P2 X w.heap.size (.int .i64 a1) (.int .i64 b1):=by
  rw[hX]
  exact((P2.new w _ _ _).alloc _ _).alloc _ _
 have hP2:P2 X (w.heap.size+1) (.int .i64 a2) (.int .i64 b2):=by
  rw[hX]
  have:=(P2.new (w.alloc (.cells #[.int .i64 a1,.int .i64 b1] 23)) (.int .i64 a2) (.int .i64 b2) 23).alloc #[.int .i64 0,.int .i64 0] 23
  simpa using this
 have hQ:P2 X (w.heap.size+1+1) (.int .i64 0) (.int .i64 0):=by
  rw[hX]
  have:=P2.new ((w.alloc (.cells #[.int .i64 a1,.int .i64 b1] 23)).alloc (.cells #[.int .i64 a2,.int .i64 b2] 23)) (.int .i64 0) (.int .i64 0) 23
  simpa using this
 have hK:Kept w X:=by
  rw[hX]
  exact(((qo0 w).alloc _ _).alloc _ _).alloc _ _
 obtain⟨H1,hH1⟩:∃H,H=w.heap.size+1:=⟨_,rfl⟩
 obtain⟨H2,hH2⟩:∃H,H=H1+1:=⟨_,rfl⟩
 rw[←hH1]at hP2 hQ
 rw[←hH2]at hQ
 have o2:w.heap.size≤H2:=by omega
 have hSF:=jx
 go_enter Tryz.func14,Tryz.ntmps14
 go_upto_region 1 with fail
 rw[←hX,←hH1,←hH2]
 clear hX hH1 hH2
 obtain⟨p10,p11,p1f⟩:=hP1
 obtain⟨p20,p21,p2f⟩:=hP2
 go_upto_region 2 with (first|(go_at_call 45;refine(KB.out _).mono ?_;rintro e w1 ⟨rfl,k1⟩))
 have hQ1:=hQ.kept k1
 have kw1:=hK.trans k1
 have lH2:=hQ1.lt
 clear p10 p11 p1f p20 p21 p2f KB hK hQ k1
 obtain⟨Y,hY⟩:∃Y,Y=(w1.alloc (.cells #[.float .f64 x1,.float .f64 y1] 68)).alloc (.cells #[.float .f64 x2,.float .f64 y2] 68):=⟨_,rfl⟩
 have hC1:P2 Y w1.heap.size (.float .f64 x1) (.float .f64 y1):=by
  rw[hY]
  exact(P2.new w1 _ _ _).alloc _ _
 have hC2:P2 Y (w1.heap.size+1) (.float .f64 x2) (.float .f64 y2):=by
  rw[hY]
  have:=P2.new (w1.alloc (.cells #[.float .f64 x1,.float .f64 y1] 68)) (.float .f64 x2) (.float .f64 y2) 68
  simpa using this
 have kY:Kept w1 Y:=by
  rw[hY]
  exact((qo0 w1).alloc _ _).alloc _ _
 have hQY:=hQ1.kept kY
 have kwY:=kw1.trans kY
 obtain⟨B1,hB1⟩:∃B,B=w1.heap.size:=⟨_,rfl⟩
 obtain⟨B2,hB2⟩:∃B,B=B1+1:=⟨_,rfl⟩
 rw[←hB1]at hC1 hC2
 rw[←hB2]at hC2
 rw[←hY,←hB1,←hB2]
 have n1:H2≠B1:=by omega
 have n2:H2≠B2:=by omega
 clear hY kw1 kY hQ1 hB1 hB2
 have kd:Kept Y Y.drew:=(qo0 Y).drew
 have HS:Hid (∀u,Kept Y u→(u.cell? ⟨B1,0,none⟩=some (.float .f64 x1)∧u.cell? ⟨B1,1,none⟩=some (.float .f64 y1))∧(u.cell? ⟨B2,0,none⟩=some (.float .f64 x2)∧u.cell? ⟨B2,1,none⟩=some (.float .f64 y2))):=fun u k=>⟨⟨(hC1.kept k).c0,(hC1.kept k).c1⟩,⟨(hC2.kept k).c0,(hC2.kept k).c1⟩⟩
 refine qo1 (S:=fun u=>(u.cell? ⟨B1,0,none⟩=some (.float .f64 x1)∧u.cell? ⟨B1,1,none⟩=some (.float .f64 y1))∧(u.cell? ⟨B2,0,none⟩=some (.float .f64 x2)∧u.cell? ⟨B2,1,none⟩=some (.float .f64 y2))) (by kernel_rfl) (HS.out _ kd) (fun hHeld=>?_)
 refine tk (i:=0) (v:=?_) rfl ?_
 simp only[Act.put,zz]
 refine tk (i:=1) (v:=?_) rfl ?_
 simp only[Act.put,zz]
 refine tk (i:=2) (v:=?_) rfl ?_
 simp only[Act.put,zz]
 refine tk (i:=6) (v:=?_) rfl ?_
 simp only[Act.put,zz]
 refine tk (i:=7) (v:=?_) rfl ?_
 simp only[Act.put,zz]
 refine qoy (rs:=[3]) (by kernel_rfl) (by simp) ?_
 refine qow rfl (fun K hK9=>?_) qox
 go_simp
 go_wp2_with fail
 refine(KN.out _).mono ?_
 rintro e v1 ⟨rfl,k1⟩
 have j1:=kd.trans k1
 refine hK9.out _ _ (HS.out _ j1) (fun hHeld1=>?_)
 clear hK9 K
 refine qoy (rs:=[4]) (by kernel_rfl) (by simp) ?_
 refine qow rfl (fun K hK9=>?_) qox
 go_simp
 have ja:=j1.alloc #[.float .f64 x1,.float .f64 y1,.float .f64 x3,.float .f64 y3] 68
 refine hK9.out _ _ (HS.out _ ja) (fun hHeldA=>?_)
 clear hK9 K
 refine qoy (rs:=[5]) (by kernel_rfl) (by simp) ?_
 refine qow rfl (fun K hK9=>?_) qox
 go_simp
 go_wp2_with fail
 refine(KJ.out _ _ _ (kwY.trans ja) rfl (qo0 _)).mono ?_
 rintro e v2 ⟨x,y,rfl,hJ,k2⟩
 have j2:=ja.trans k2
 refine hK9.out _ _ (HS.out _ j2) (fun hHeld2=>?_)
 clear hK9 K
 refine qoy (rs:=[8]) (by kernel_rfl) (by simp) ?_
 refine qow rfl (fun K hK9=>?_) qox
 go_simp
 go_wp2_with fail
 refine(KT.out _ _ _ hJ).mono ?_
 rintro e v3 ⟨rfl,k3⟩
 have j3:=j2.trans k3
 refine hK9.out _ _ (HS.out _ j3) (fun hHeld3=>?_)
 clear hK9 K
 refine tk (i:=9) (v:=?_) rfl ?_
 simp only[Act.put,zz]
 refine tk (i:=10) (v:=?_) rfl ?_
 simp only[Act.put,zz]
 obtain⟨c0,c1,cf⟩:=hQY.kept j3
 refine qoy (rs:=[11]) (by kernel_rfl) (by simp) ?_
 refine qow rfl (fun K hK9=>?_) qox
 go_simp
 have g1:=((hC1.kept j3).set H2 0 n1 (.int .i64 p1)).set H2 1 n1 (.int .i64 p2)
 have g2:=((hC2.kept j3).set H2 0 n2 (.int .i64 p1)).set H2 1 n2 (.int .i64 p2)
 refine hK9.out _ _ ⟨⟨g1.c0,g1.c1⟩,⟨g2.c0,g2.c1⟩⟩ (fun hHeld4=>?_)
 clear hK9 K
 refine tk (i:=12) (v:=?_) rfl ?_
 simp only[Act.put,zz]
 refine qo2 (by kernel_rfl) ?_ _
 go_wp2_with fail
 have hz:=(P2.mk c0 c1 cf).put (.int .i64 p1) (.int .i64 p2)
 obtain⟨m0,m1,mf⟩:=hz
 exact qoz (v:=.tuple #[sp2 p1 p2,.int .i64 q]) (by simp[results,Tryz.results14,go_sem,m0,m1]) rfl ⟨rfl,((kwY.trans j3).setCell o2 _).setCell o2 _⟩
theorem qk6 (a1 b1 a2 b2 n:Int)(s1:RB a1)(s2:RB b1)(s3:RB a2)(s4:RB b2)(hv1:vsp a1 b1 n=true)(hv2:vsp a2 b2 n=true):∃K1 K2,Smk n 1 (qc a1 n) (-qc b2 n) K1∧Smk n 2 (qc b1 n) (-qc a2 n) K2∧(-(ifn n:Int)≤K1∧K1≤(ifn n:Int))∧(-(ifn n:Int)≤K2∧K2≤(ifn n:Int))∧∀(w:World),Tab w→Calls Tryz.prog 14 #[sp2 a1 b1,sp2 a2 b2,.int .i64 n] w fun e w'=>e=.returned (.tuple #[sp2 (pz n K1) (pz n K2),.int .i64 0])∧Kept w w':=by
 obtain⟨i1,i2,v3,v4,v5⟩:=zW _ _ _ hv1
 obtain⟨i3,i4,u3,u4,u5⟩:=zW _ _ _ hv2
 have hn:=qv _ _ i1
 obtain⟨x1,y1,x2,y2,q,hB,KB⟩:=zS a1 b1 a2 b2 n s1 s2 s3 s4
 have hq:q=0:=hB.err.trans ((jP _ _ _ _ _).2 ⟨hv1,hv2⟩)
 obtain⟨f1,f2,f3,f4⟩:=hB.ok hq
 subst hq
 have hpos:=jw n
 have f3':=f4.neg
 have f4':=f3.neg
 obtain⟨p1,P1,-⟩:=f1.wide
 obtain⟨p2,P2,-⟩:=f2.wide
 obtain⟨p3,P3,-⟩:=f3'.wide
 obtain⟨p4,P4,-⟩:=f4'.wide
 obtain⟨K1,S1,R1,F1⟩:=VX n 1 hn x1 _ _ _ f1 f3' (by omega) p1 p3 P1 P3
 obtain⟨K2,S2,R2,F2⟩:=VX n 2 hn y1 _ _ _ f2 f4' (by omega) p2 p4 P2 P4
 refine⟨K1,K2,S1,S2,R1,R2,fun w hT=>?_⟩
 refine Ku a1 b1 a2 b2 n x1 y1 x2 y2 _ _ 0 _ _ (fun x y=>Fl n x K1∧Fl n y K2) w KB (fun u=>Q4 _ _ u) (fun u v B kwu hBv k=>?_) (fun u x y h=>vC h.1 h.2 u)
 subst hBv
 refine(kI n hn 2 (by decide) (two x1 (Op.negFloat .f64 y2)) (two y1 (Op.negFloat .f64 x2)) (two p1 p3) (two p2 p4) (fun i hi=>?_) _ _ u (hT.kept kwu) (Zw k)).mono ?_
 ·rcases(show i=0∨i=1 by omega)with rfl|rfl
  ·exact⟨P1,P2⟩
  ·exact⟨P3,P4⟩
 ·rintro e w' ⟨x,y,rfl,hx,hy,k'⟩
  exact⟨x,y,rfl,⟨F1 x hx,F2 y hy⟩,k'⟩
structure Ar2 (w:World) (D m k:Nat) (fx fy:Nat→Nat):Prop where
 lt:D<w.heap.size
 ex:∀o,o<m*2→∃v,w.cell? ⟨D,o,none⟩=some v
 fz:∀o,w.frozen? ⟨D,o,none⟩=false
 c0:∀i,i<k→w.cell? ⟨D,i*2,none⟩=some (.float .f64 (fx i))
 c1:∀i,i<k→w.cell? ⟨D,i*2+1,none⟩=some (.float .f64 (fy i))
theorem Ar2.kept {w u:World}{D m k:Nat}{fx fy:Nat→Nat}(h:Ar2 w D m k fx fy)(kk:Kept w u):Ar2 u D m k fx fy:=
 ⟨qok h.lt kk.below.size,fun o ho=>by obtain⟨v,hv⟩:=h.ex o ho;exact⟨v,(kk.below.cell (p:=⟨D,o,none⟩) h.lt).trans hv⟩,fun o=>(kk.frozen _).trans (h.fz o),fun i hi=>(kk.below.cell (p:=⟨D,i*2,none⟩) h.lt).trans (h.c0 i hi),fun i hi=>(kk.below.cell (p:=⟨D,i*2+1,none⟩) h.lt).trans (h.c1 i hi)⟩
theorem xD (w:World)(D o p:Nat)(v:Value)(h:∃x,w.cell? ⟨D,o,none⟩=some x):(w.setCell ⟨D,o,none⟩ v).cell? ⟨D,p,none⟩=if p=o then some v else w.cell? ⟨D,p,none⟩:=by
 obtain⟨x,hx⟩:=h
 by_cases hp:p=o
 ·subst hp
  simp[go_sem,hx]
 ·have hq:¬o=p:=fun e=>hp e.symm
  simp[go_sem,hp,hq]
theorem Ar2.put {w:World}{D m k:Nat}{fx fy:Nat→Nat}(h:Ar2 w D m k fx fy)(hk:k<m):Ar2 ((w.setCell ⟨D,k*2,none⟩ (.float .f64 (fx k))).setCell ⟨D,k*2+1,none⟩ (.float .f64 (fy k))) D m (k+1) fx fy:=by
 have e1:=h.ex (k*2) (by omega)
 have e2:∃v,(w.setCell ⟨D,k*2,none⟩ (.float .f64 (fx k))).cell? ⟨D,k*2+1,none⟩=some v:=by
  obtain⟨v,hv⟩:=h.ex (k*2+1) (by omega)
  exact⟨v,by rw[xD _ _ _ _ _ e1,if_neg (by omega),hv]⟩
 refine⟨by simp;exact h.lt,fun o ho=>?_,fun o=>by simp[World.frozen?_setCell,h.fz],fun i hi=>?_,fun i hi=>?_⟩
 ·rw[xD _ _ _ _ _ e2,xD _ _ _ _ _ e1]
  split
  ·exact⟨_,rfl⟩
  ·split
   ·exact⟨_,rfl⟩
   ·exact h.ex o ho
 ·rw[xD _ _ _ _ _ e2,xD _ _ _ _ _ e1,if_neg (by omega)]
  by_cases hik:i=k
  ·subst hik;rw[if_pos rfl]
  ·rw[if_neg (by omega)];exact h.c0 i (by omega)
 ·rw[xD _ _ _ _ _ e2,xD _ _ _ _ _ e1]
  by_cases hik:i=k
  ·subst hik;rw[if_pos rfl]
  ·rw[if_neg (by omega),if_neg (by omega)];exact h.c1 i (by omega)
theorem Ar2.made (m:Nat)(fx fy:Nat→Nat)(w:World):Ar2 (w.alloc (.cells (madeCells #[.float .f64 0,.float .f64 0] (m*2)) 68)) w.heap.size m 0 fx fy:=by
 refine⟨by simp,fun o ho=>?_,fun o=>by simp[go_sem],fun i hi=>absurd hi (Nat.not_lt_zero _),fun i hi=>absurd hi (Nat.not_lt_zero _)⟩
 rw[World.cell?_alloc_at _ _ _ _ rfl]
 have hs:=size_madeCells #[.float .f64 0,.float .f64 0] (m*2)
 exact⟨_,Array.getElem?_eq_getElem (by omega)⟩
structure HB (n H:Int):Prop where
 one:1≤H
 fin:∀k,-(ifn n:Int)<k→k<(ifn n:Int)→-H<kvz n (-1074) k∧kvz n (-1074) k<H
 wrt:∀s z,(s=-1074∨s=-2148)→-(H*H)<z→z<H*H→∃r,cfm z s=some r∧vld r=true∧(r.mag≠[]→s≤r.exp)∧vz s r=z
theorem qna (n s:Int)(hn:n=64∨n=32)(a b:Int)(h:a≤b):kvz n s a≤kvz n s b:=by
 rcases Int.lt_or_eq_of_le h with h|h
 ·exact Int.le_of_lt (yx n s hn _ _ h)
 ·rw[h];exact Int.le_refl _
theorem qdl {n Z1 U1 d1 Z2 U2 d2:Int}(hn:n=64∨n=32)(h:Qd n Z1 U1 d1)(g:Qd n Z2 U2 d2)(p1:0<U1)(p2:0<U2)(l:Z1*U2≤Z2*U1):d1≤d2:=by
 apply Classical.not_not.1
 intro hc
 have hh:=h.high
 have gl:=g.low
 have a:=g.nxt (by omega)
 have b:=h.fin (by omega)
 have c:=qna n (-1300) hn (d2+1) d1 (by omega)
 generalize kvz n (-1300) (d2+1)=A at *
 generalize kvz n (-1300) d1=B at *
 have e1:=Int.mul_lt_mul_of_pos_right a p1
 have e2:=Int.mul_le_mul_of_nonneg_right b (Int.le_of_lt p2)
 have e3:=Int.mul_le_mul_of_nonneg_right c (Int.le_of_lt (Int.mul_pos p1 p2))
 have q1:A*U2*U1=A*(U1*U2):=by rw[Int.mul_assoc,Int.mul_comm U2 U1]
 have q2:B*U1*U2=B*(U1*U2):=by rw[Int.mul_assoc]
 omega
theorem qac (a1 b1 a2 b2 n:Int)(x1 y1 x2 y2:Nat)(p1 p2:Int)(hz:Bool)(J:Nat→Nat→Prop)(w:World)
  (KB:Hid (∀u,Calls Tryz.prog 45 #[sp2 a1 b1,sp2 a2 b2,.int .i64 n] u fun e w'=>e=.returned (.tuple #[fv2 x1 y1,fv2 x2 y2,.int .i64 0])∧Kept u w'))
  (KH:Hid (∀u,Calls Tryz.prog 55 #[fv2 x2 y2,fv2 0 0] u fun e w'=>e=.returned (.bool hz)∧Kept u w'))
  (KC:Hid (hz=false→∀u P Q R,Kept w u→Crs u 57 n P Q R→Calls Tryz.prog 80 #[fv2 x1 y1,fv2 x2 y2,.pointer (some ⟨R,0,none⟩)] u fun e w'=>∃x y,e=.returned (fv2 x y)∧J x y∧Kept u w'))
  (KT:Hid (hz=false→∀u x y,J x y→Calls Tryz.prog 46 #[fv2 x y,.int .i64 n,.int .i64 0] u fun e w'=>e=.returned (.tuple #[sp2 p1 p2,.int .i64 0])∧Kept u w')):
  Calls Tryz.prog 15 #[sp2 a1 b1,sp2 a2 b2,.int .i64 n] w fun e w'=>e=.returned (.tuple (if hz=true then #[sp2 0 0,.int .i64 8]else #[sp2 p1 p2,.int .i64 0]))∧Kept w w':=by
 obtain⟨X,hX⟩:∃X,X=((w.alloc (.cells #[.int .i64 a1,.int .i64 b1] 23)).alloc (.cells #[.int .i64 a2,.int .i64 b2] 23)).alloc (.cells #[.int .i64 0,.int .i64 0] 23):=⟨_,rfl⟩
 have hP1:P2 X w.heap.size (.int .i64 a1) (.int .i64 b1):=by
  rw[hX]
  exact((P2.new w _ _ _).alloc _ _).alloc _ _
 have hP2:P2 X (w.heap.size+1) (.int .i64 a2) (.int .i64 b2):=by
  rw[hX]
  have:=(P2.new (w.alloc (.cells #[.int .i64 a1,.int .i64 b1] 23)) (.int .i64 a2) (.int .i64 b2) 23).alloc #[.int .i64 0,.int .i64 0] 23
  simpa using this
 have hQ:P2 X (w.heap.size+1+1) (.int .i64 0) (.int .i64 0):=by
  rw[hX]
  have:=P2.new ((w.alloc (.cells #[.int .i64 a1,.int .i64 b1] 23)).alloc (.cells #[.int .i64 a2,.int .i64 b2] 23)) (.int .i64 0) (.int .i64 0) 23
  simpa using this
 have hK:Kept w X:=by
  rw[hX]
  exact(((qo0 w).alloc _ _).alloc _ _).alloc _ _
 obtain⟨H1,hH1⟩:∃H,H=w.heap.size+1:=⟨_,rfl⟩
 obtain⟨H2,hH2⟩:∃H,H=H1+1:=⟨_,rfl⟩
 rw[←hH1]at hP2 hQ
 rw[←hH2]at hQ
 have o2:w.heap.size≤H2:=by omega
 have hSF:=jx
 go_enter Tryz.func15,Tryz.ntmps15
 go_upto_region 1 with fail
 rw[←hX,←hH1,←hH2]
 clear hX hH1 hH2
 obtain⟨p10,p11,p1f⟩:=hP1
 obtain⟨p20,p21,p2f⟩:=hP2
 go_upto_region 2 with (first|(go_at_call 45;refine(KB.out _).mono ?_;rintro e w1 ⟨rfl,k1⟩))
 have hQ1:=hQ.kept k1
 have kw1:=hK.trans k1
 have lH2:=hQ1.lt
 clear p10 p11 p1f p20 p21 p2f KB hK hQ k1
 obtain⟨Y,hY⟩:∃Y,Y=(w1.alloc (.cells #[.float .f64 x1,.float .f64 y1] 68)).alloc (.cells #[.float .f64 x2,.float .f64 y2] 68):=⟨_,rfl⟩
 have hC1:P2 Y w1.heap.size (.float .f64 x1) (.float .f64 y1):=by
  rw[hY]
  exact(P2.new w1 _ _ _).alloc _ _
 have hC2:P2 Y (w1.heap.size+1) (.float .f64 x2) (.float .f64 y2):=by
  rw[hY]
  have:=P2.new (w1.alloc (.cells #[.float .f64 x1,.float .f64 y1] 68)) (.float .f64 x2) (.float .f64 y2) 68
  simpa using this
 have kY:Kept w1 Y:=by
  rw[hY]
  exact((qo0 w1).alloc _ _).alloc _ _
 have hQY:=hQ1.kept kY
 have kwY:=kw1.trans kY
 obtain⟨B1,hB1⟩:∃B,B=w1.heap.size:=⟨_,rfl⟩
 obtain⟨B2,hB2⟩:∃B,B=B1+1:=⟨_,rfl⟩
 rw[←hB1]at hC1 hC2
 rw[←hB2]at hC2
 rw[←hY,←hB1,←hB2]
 have n1:H2≠B1:=by omega
 have n2:H2≠B2:=by omega
 clear hY kw1 kY hQ1 hB1 hB2
 have KP:Hid (∀u,Kept Y u→Calls Tryz.prog 56 #[.float .f64 0] u fun e w'=>e=.returned (fv2 0 0)∧Kept Y w'):=fun u k=>by
  refine(qfh 0 u).mono ?_
  rintro e w' ⟨rfl,k'⟩
  exact⟨rfl,k.trans k'⟩
 have KH2:Hid (∀u,Kept Y u→Calls Tryz.prog 55 #[fv2 x2 y2,fv2 0 0] u fun e w'=>e=.returned (.bool hz)∧Kept Y w'):=fun u k=>by
  refine(KH.out u).mono ?_
  rintro e w' ⟨rfl,k'⟩
  exact⟨rfl,k.trans k'⟩
 clear KH
 have kd0:Kept Y Y.drew:=(qo0 Y).drew
 have HS0:Hid (∀u,Kept Y u→Kept Y u∧(u.cell? ⟨B2,0,none⟩=some (.float .f64 x2)∧u.cell? ⟨B2,1,none⟩=some (.float .f64 y2))):=fun u k=>⟨k,(hC2.kept k).c0,(hC2.kept k).c1⟩
 go_region_held (fun u=>Kept Y u∧(u.cell? ⟨B2,0,none⟩=some (.float .f64 x2)∧u.cell? ⟨B2,1,none⟩=some (.float .f64 y2))) (first|assumption|exact HS0.out _ kd0|exact HS0.out _ (by assumption)) (first|(go_at_call 56;refine(KP.out _ (by assumption)).mono ?_;rintro e w4 ⟨rfl,k4⟩)|(go_at_call 55;refine(KH2.out _ (by assumption)).mono ?_;rintro e w5 ⟨rfl,k5⟩))
 clear KP KH2 HS0 kd0
 have hC1:=hC1.kept k5
 have hC2:=hC2.kept k5
 have hQY:=hQY.kept k5
 have kwY:=kwY.trans k5
 cases hz
 ·have KC2:Hid _:=KC.out rfl
  have KT2:Hid _:=KT.out rfl
  clear KC KT
  go_upto_region 6 with fail
  have kd:Kept w5 w5.drew:=(qo0 w5).drew
  have HS:Hid (∀u,Kept w5 u→(u.cell? ⟨B1,0,none⟩=some (.float .f64 x1)∧u.cell? ⟨B1,1,none⟩=some (.float .f64 y1))∧(u.cell? ⟨B2,0,none⟩=some (.float .f64 x2)∧u.cell? ⟨B2,1,none⟩=some (.float .f64 y2))):=fun u k=>⟨⟨(hC1.kept k).c0,(hC1.kept k).c1⟩,⟨(hC2.kept k).c0,(hC2.kept k).c1⟩⟩
  refine qo1 (S:=fun u=>(u.cell? ⟨B1,0,none⟩=some (.float .f64 x1)∧u.cell? ⟨B1,1,none⟩=some (.float .f64 y1))∧(u.cell? ⟨B2,0,none⟩=some (.float .f64 x2)∧u.cell? ⟨B2,1,none⟩=some (.float .f64 y2))) (by kernel_rfl) (HS.out _ kd) (fun hHeld=>?_)
  refine tk (i:=0) (v:=?_) rfl ?_
  simp only[Act.put,zz]
  refine tk (i:=2) (v:=?_) rfl ?_
  simp only[Act.put,zz]
  refine tk (i:=3) (v:=?_) rfl ?_
  simp only[Act.put,zz]
  refine tk (i:=5) (v:=?_) rfl ?_
  simp only[Act.put,zz]
  refine qoy (rs:=[1]) (by kernel_rfl) (by simp) ?_
  refine qow rfl (fun K hK9=>?_) qox
  go_simp
  go_wp2_with fail
  refine(Q8 _ _ _).mono ?_
  rintro e v1 ⟨P,Q,R,rfl,hCr,k1⟩
  have j1:=kd.trans k1
  refine hK9.out _ _ (HS.out _ j1) (fun hHeld1=>?_)
  clear hK9 K
  refine qoy (rs:=[4]) (by kernel_rfl) (by simp) ?_
  refine qow rfl (fun K hK9=>?_) qox
  go_simp
  go_wp2_with fail
  refine(KC2.out _ _ _ _ (kwY.trans j1) hCr).mono ?_
  rintro e v2 ⟨x,y,rfl,hJ,k2⟩
  have j2:=j1.trans k2
  refine hK9.out _ _ (HS.out _ j2) (fun hHeld2=>?_)
  clear hK9 K hCr
  refine qoy (rs:=[6]) (by kernel_rfl) (by simp) ?_
  refine qow rfl (fun K hK9=>?_) qox
  go_simp
  go_wp2_with fail
  refine(KT2.out _ _ _ hJ).mono ?_
  rintro e v3 ⟨rfl,k3⟩
  have j3:=j2.trans k3
  refine hK9.out _ _ (HS.out _ j3) (fun hHeld3=>?_)
  clear hK9 K
  refine tk (i:=7) (v:=?_) rfl ?_
  simp only[Act.put,zz]
  refine tk (i:=8) (v:=?_) rfl ?_
  simp only[Act.put,zz]
  obtain⟨c0,c1,cf⟩:=hQY.kept j3
  refine qoy (rs:=[9]) (by kernel_rfl) (by simp) ?_
  refine qow rfl (fun K hK9=>?_) qox
  go_simp
  have g1:=((hC1.kept j3).set H2 0 n1 (.int .i64 p1)).set H2 1 n1 (.int .i64 p2)
  have g2:=((hC2.kept j3).set H2 0 n2 (.int .i64 p1)).set H2 1 n2 (.int .i64 p2)
  refine hK9.out _ _ ⟨⟨g1.c0,g1.c1⟩,⟨g2.c0,g2.c1⟩⟩ (fun hHeld4=>?_)
  clear hK9 K
  refine tk (i:=10) (v:=?_) rfl ?_
  simp only[Act.put,zz]
  refine qo2 (by kernel_rfl) ?_ _
  go_wp2_with fail
  have hz:=(P2.mk c0 c1 cf).put (.int .i64 p1) (.int .i64 p2)
  obtain⟨m0,m1,mf⟩:=hz
  exact qoz (v:=.tuple #[sp2 p1 p2,.int .i64 0]) (by simp[results,Tryz.results15,go_sem,m0,m1]) rfl ⟨rfl,((kwY.trans j3).setCell o2 _).setCell o2 _⟩
 ·clear KC KT
  obtain⟨c0,c1,cf⟩:=hQY
  go_wp2_with fail
  have hz:=(P2.mk c0 c1 cf).put (.int .i64 0) (.int .i64 0)
  obtain⟨m0,m1,mf⟩:=hz
  exact qoz (v:=.tuple #[sp2 0 0,.int .i64 8]) (by simp[results,Tryz.results15,go_sem,m0,m1]) rfl ⟨rfl,(kwY.setCell o2 _).setCell o2 _⟩
theorem qlg (a1 b1 a2 b2 n:Int)(s1:RB a1)(s2:RB b1)(s3:RB a2)(s4:RB b2)(hv1:vsp a1 b1 n=true)(hv2:vsp a2 b2 n=true)(hnz:¬(qc a2 n≤0∧0≤qc b2 n)):∃d0 d1 d2 d3 u0 u1 u2 u3,(Qrk n 1 (qc a1 n) (qc a2 n) d0∧Qrk n 1 (qc a1 n) (qc b2 n) d1∧Qrk n 1 (qc b1 n) (qc a2 n) d2∧Qrk n 1 (qc b1 n) (qc b2 n) d3)∧(Qrk n 2 (qc a1 n) (qc a2 n) u0∧Qrk n 2 (qc a1 n) (qc b2 n) u1∧Qrk n 2 (qc b1 n) (qc a2 n) u2∧Qrk n 2 (qc b1 n) (qc b2 n) u3)∧
  (∀k,k=d0∨k=d1∨k=d2∨k=d3∨k=u0∨k=u1∨k=u2∨k=u3→-(ifn n:Int)≤k∧k≤(ifn n:Int))∧
  ∀(w:World),Tab w→Calls Tryz.prog 15 #[sp2 a1 b1,sp2 a2 b2,.int .i64 n] w fun e w'=>e=.returned (.tuple #[sp2 (pz n (min (min (min d0 d1) d2) d3)) (pz n (max (max (max u0 u1) u2) u3)),.int .i64 0])∧Kept w w':=by
 obtain⟨i1,i2,v3,v4,v5⟩:=zW _ _ _ hv1
 obtain⟨i3,i4,w3,w4,w5⟩:=zW _ _ _ hv2
 have hn:=qv _ _ i1
 obtain⟨x1,y1,x2,y2,q,hB,KB⟩:=zS a1 b1 a2 b2 n s1 s2 s3 s4
 have hq:q=0:=hB.err.trans ((jP _ _ _ _ _).2 ⟨hv1,hv2⟩)
 obtain⟨f1,f2,f3,f4⟩:=hB.ok hq
 subst hq
 have t1:(1:Int)=1∨(1:Int)=2:=by simp
 have t2:(2:Int)=1∨(2:Int)=2:=by simp
 have na:qc a2 n≠0:=by omega
 have nb:qc b2 n≠0:=by omega
 obtain⟨z0,d0,P0,F0,C0⟩:=jf n 1 hn t1 x1 x2 _ _ f1 f3 na
 obtain⟨z1,d1,P1,F1,C1⟩:=jf n 1 hn t1 x1 y2 _ _ f1 f4 nb
 obtain⟨z2,d2,P2,F2,C2⟩:=jf n 1 hn t1 y1 x2 _ _ f2 f3 na
 obtain⟨z3,d3,P3,F3,C3⟩:=jf n 1 hn t1 y1 y2 _ _ f2 f4 nb
 obtain⟨v0,u0,Q0,G0,D0⟩:=jf n 2 hn t2 x1 x2 _ _ f1 f3 na
 obtain⟨v1,u1,Q1,G1,D1⟩:=jf n 2 hn t2 x1 y2 _ _ f1 f4 nb
 obtain⟨v2,u2,Q2,G2,D2⟩:=jf n 2 hn t2 y1 x2 _ _ f2 f3 na
 obtain⟨v3',u3,Q3,G3,D3⟩:=jf n 2 hn t2 y1 y2 _ _ f2 f4 nb
 refine⟨d0,d1,d2,d3,u0,u1,u2,u3,⟨P0,P1,P2,P3⟩,⟨Q0,Q1,Q2,Q3⟩,?_,fun w hT=>?_⟩
 ·rintro k (rfl|rfl|rfl|rfl|rfl|rfl|rfl|rfl)
  ·exact F0.rng
  ·exact F1.rng
  ·exact F2.rng
  ·exact F3.rng
  ·exact G0.rng
  ·exact G1.rng
  ·exact G2.rng
  ·exact G3.rng
 have hzd:decide (qc a2 n≤0∧0≤qc b2 n)=false:=qot hnz
 have KHz:∀u,Calls Tryz.prog 55 #[fv2 x2 y2,fv2 0 0] u fun e w'=>e=.returned (.bool false)∧Kept u w':=fun u=>by
  have:=XO n x2 y2 0 0 _ _ 0 0 f3 f4 (Fl.zero n hn) (Fl.zero n hn) u
  rw[hzd]at this
  exact this
 refine qac a1 b1 a2 b2 n x1 y1 x2 y2 _ _ false (fun x y=>Fl n x (min (min (min d0 d1) d2) d3)∧Fl n y (max (max (max u0 u1) u2) u3)) w KB (fun u=>KHz u) (fun _ u P Q R kwu hCr=>?_) (fun _ u x y h=>vC h.1 h.2 u)
 refine x9 x1 y1 x2 y2 z0 v0 z1 v1 z2 v2 z3 v3' R P Q u _ hCr.lr hCr.r (fun s a b g1 g2 hc ks=>?_) (fun s B ks hE=>?_)
 ·have hs:=hCr.kept ks
  have hTs:=(hT.kept kwu).kept ks
  refine yy 57 (fun a b c d w=>kS Tryz.func57 (by kernel_rfl) (by kernel_rfl) _ w) n a b g1 g2 s P Q hs.p hs.q hs.lp hs.lq (fun t way z kt hz=>?_)
  have hTt:=hTs.kept kt
  rcases hc with ⟨rfl,rfl,rfl,rfl⟩|⟨rfl,rfl,rfl,rfl⟩|⟨rfl,rfl,rfl,rfl⟩|⟨rfl,rfl,rfl,rfl⟩<;>rcases hz with ⟨rfl,rfl⟩|⟨rfl,rfl⟩
  ·exact C0 t hTt
  ·exact D0 t hTt
  ·exact C1 t hTt
  ·exact D1 t hTt
  ·exact C2 t hTt
  ·exact D2 t hTt
  ·exact C3 t hTt
  ·exact D3 t hTt
 ·refine(xG n z0 v0 d0 u0 F0 G0 3 (by decide) _ _ (fun i=>if i=0 then d1 else if i=1 then d2 else d3) (fun i=>if i=0 then u1 else if i=1 then u2 else u3) (fun i hi=>?_) _ _ s (QO hE)).mono ?_
  ·rcases(show i=0∨i=1∨i=2 by omega)with rfl|rfl|rfl
   ·exact⟨F1,G1⟩
   ·exact⟨F2,G2⟩
   ·exact⟨F3,G3⟩
  ·rintro e w' ⟨x,y,rfl,h1,h2,k'⟩
   exact⟨x,y,rfl,⟨h1,h2⟩,k'⟩
theorem qlh (a1 b1 a2 b2 n:Int)(s1:RB a1)(s2:RB b1)(s3:RB a2)(s4:RB b2)(hv1:vsp a1 b1 n=true)(hv2:vsp a2 b2 n=true)(hnz:qc a2 n≤0∧0≤qc b2 n)(w:World):Calls Tryz.prog 15 #[sp2 a1 b1,sp2 a2 b2,.int .i64 n] w fun e w'=>e=.returned (.tuple #[sp2 0 0,.int .i64 8])∧Kept w w':=by
 obtain⟨i1,i2,v3,v4,v5⟩:=zW _ _ _ hv1
 have hn:=qv _ _ i1
 obtain⟨x1,y1,x2,y2,q,hB,KB⟩:=zS a1 b1 a2 b2 n s1 s2 s3 s4
 have hq:q=0:=hB.err.trans ((jP _ _ _ _ _).2 ⟨hv1,hv2⟩)
 obtain⟨f1,f2,f3,f4⟩:=hB.ok hq
 subst hq
 have hzd:decide (qc a2 n≤0∧0≤qc b2 n)=true:=qos hnz
 have KHz:∀u,Calls Tryz.prog 55 #[fv2 x2 y2,fv2 0 0] u fun e w'=>e=.returned (.bool true)∧Kept u w':=fun u=>by
  have:=XO n x2 y2 0 0 _ _ 0 0 f3 f4 (Fl.zero n hn) (Fl.zero n hn) u
  rw[hzd]at this
  exact this
 exact qac a1 b1 a2 b2 n x1 y1 x2 y2 0 0 true (fun _ _=>False) w KB (fun u=>KHz u) (fun h=>by cases h) (fun h=>by cases h)
end Go.Proofs.YtaglkncdedeipaaGreatDoor
