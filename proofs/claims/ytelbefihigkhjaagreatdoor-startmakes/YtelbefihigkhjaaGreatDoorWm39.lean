/-  -/
import Derived.Test.YtelbefihigkhjaaGreatDoorWm38
import Derived.Test.YtelbefihigkhjaaGreatDoorWm37
namespace Go.Proofs.YtelbefihigkhjaaGreatDoor
open Go.ChangeShapes Go.WideShapes Go.ChangeAt Go.RowKit
set_option maxHeartbeats 16000000
set_option maxRecDepth 100000
set_option linter.unusedVariables false
set_option linter.unusedSimpArgs false
theorem Q6.gs {S:List Nat}{w w':World}{b:Nat}{v0 v1 v2 v3 v4 v5:Value}(h:Q6 w b v0 v1 v2 v3 v4 v5)(k:Gs S w w')(hn:b∉S):Q6 w' b v0 v1 v2 v3 v4 v5:=
 ⟨(k.cell b 0 h.lt hn).trans h.c0,(k.cell b 1 h.lt hn).trans h.c1,(k.cell b 2 h.lt hn).trans h.c2,(k.cell b 3 h.lt hn).trans h.c3,(k.cell b 4 h.lt hn).trans h.c4,(k.cell b 5 h.lt hn).trans h.c5⟩
theorem Q6.alloc {w:World}{b:Nat}{v0 v1 v2 v3 v4 v5:Value}(h:Q6 w b v0 v1 v2 v3 v4 v5)(c:Array Value)(t:TypeId):Q6 (w.alloc (.cells c t)) b v0 v1 v2 v3 v4 v5:=h.kept ((qlv w).alloc c t)
abbrev zy:Value:=.agg #[.int .i64 0,.int .i64 0,.int .i64 0,.slice none 0 0]
theorem qa6 (kd rows cols wd va vb s t:Int)(hk:kd<0∨5<kd)(w:World):Calls Tryz.prog 11 #[.agg #[.int .i64 kd,.int .i64 rows,.int .i64 cols,.int .i64 wd,.int .i64 va,.int .i64 vb],.int .i64 s,.int .i64 t] w fun e w'=>e=.returned (.tuple #[zy,.int .i64 42])∧Kept w w':=by
 obtain⟨Y,hY⟩:∃Y,Y=(w.alloc (.cells #[.int .i64 kd,.int .i64 rows,.int .i64 cols,.int .i64 wd,.int .i64 va,.int .i64 vb] 23)).alloc (.cells #[.int .i64 0,.int .i64 0,.int .i64 0,.slice none 0 0] 28):=⟨_,rfl⟩
 obtain⟨B0,hB0⟩:∃B,B=w.heap.size:=⟨_,rfl⟩
 obtain⟨B1,hB1⟩:∃B,B=B0+1:=⟨_,rfl⟩
 have hK:Kept w Y:=by rw[hY];exact((qlv w).alloc _ _).alloc _ _
 have hP0:Q6 Y B0 (.int .i64 kd) (.int .i64 rows) (.int .i64 cols) (.int .i64 wd) (.int .i64 va) (.int .i64 vb):=by rw[hY,hB0];exact(Q6.new w _ _ _ _ _ _ _).alloc _ _
 have hP1:Q4 Y B1 (.int .i64 0) (.int .i64 0) (.int .i64 0) (.slice none 0 0):=by
  rw[hY,hB1,hB0]
  have:=Q4.new (w.alloc (.cells #[.int .i64 kd,.int .i64 rows,.int .i64 cols,.int .i64 wd,.int .i64 va,.int .i64 vb] 23)) (.int .i64 0) (.int .i64 0) (.int .i64 0) (.slice none 0 0) 28
  simpa using this
 have oB:Hid (w.heap.size≤B0∧B0<Y.heap.size∧w.heap.size≤B1∧B1<Y.heap.size∧B0≠B1):=(show _∧_∧_∧_∧_ from by have h1:=hP0.lt;have h2:=hP1.lt;omega)
 go_enter Tryz.func11,Tryz.ntmps11
 go_upto_region 1 with fail
 rw[←hY,←hB0,←hB1]
 clear hY hB0 hB1
 obtain⟨p0,p1,p2,p3,p4,p5⟩:=hP0
 have hr1:=hP1
 have hr2:=hr1.set4 (.int .i64 0) (.int .i64 0) (.int .i64 0) (.slice none 0 0);obtain⟨r0,r1,r2,r3,rf⟩:=hr1;obtain⟨d0,d1,d2,d3,df⟩:=hr2
 by_cases h0:kd<0
 ·have t0:decide (kd<0)=true:=qln h0
  go_wp2_with fail
  exact qlu (v:=.tuple #[zy,.int .i64 42]) (by simp[results,Tryz.results11,go_sem,d0,d1,d2,d3]) rfl ⟨rfl,(((hK.setCell oB.out.2.2.1 _).setCell oB.out.2.2.1 _).setCell oB.out.2.2.1 _).setCell oB.out.2.2.1 _⟩
 ·have t0:decide (kd<0)=false:=qlo h0
  have t1:decide (kd>5)=true:=qln (by omega)
  have t2:decide (5<kd)=true:=qln (by omega)
  go_wp2_with fail
  exact qlu (v:=.tuple #[zy,.int .i64 42]) (by simp[results,Tryz.results11,go_sem,d0,d1,d2,d3]) rfl ⟨rfl,(((hK.setCell oB.out.2.2.1 _).setCell oB.out.2.2.1 _).setCell oB.out.2.2.1 _).setCell oB.out.2.2.1 _⟩
theorem qa7 (kd rows cols wd va vb s t:Int)(q:Int)(hk:0≤kd∧kd≤5)(hq:(q != 0)=true)(hq2:(q==0)=false)(w:World)
  (KZ:Hid (∀u,Calls Tryz.prog 26 #[.int .i64 rows,.int .i64 cols,.int .i64 wd] u fun e w'=>e=.returned (.tuple #[zy,.int .i64 q])∧Kept u w')):Calls Tryz.prog 11 #[.agg #[.int .i64 kd,.int .i64 rows,.int .i64 cols,.int .i64 wd,.int .i64 va,.int .i64 vb],.int .i64 s,.int .i64 t] w fun e w'=>e=.returned (.tuple #[zy,.int .i64 q])∧Kept w w':=by
 have t0:decide (kd<0)=false:=qlo (by omega)
 have t1:decide (kd>5)=false:=qlo (by omega)
 have t2:decide (5<kd)=false:=qlo (by omega)
 clear hk
 obtain⟨Y,hY⟩:∃Y,Y=(w.alloc (.cells #[.int .i64 kd,.int .i64 rows,.int .i64 cols,.int .i64 wd,.int .i64 va,.int .i64 vb] 23)).alloc (.cells #[.int .i64 0,.int .i64 0,.int .i64 0,.slice none 0 0] 28):=⟨_,rfl⟩
 obtain⟨B0,hB0⟩:∃B,B=w.heap.size:=⟨_,rfl⟩
 obtain⟨B1,hB1⟩:∃B,B=B0+1:=⟨_,rfl⟩
 have hK:Kept w Y:=by rw[hY];exact((qlv w).alloc _ _).alloc _ _
 have hP0:Q6 Y B0 (.int .i64 kd) (.int .i64 rows) (.int .i64 cols) (.int .i64 wd) (.int .i64 va) (.int .i64 vb):=by rw[hY,hB0];exact(Q6.new w _ _ _ _ _ _ _).alloc _ _
 have hP1:Q4 Y B1 (.int .i64 0) (.int .i64 0) (.int .i64 0) (.slice none 0 0):=by
  rw[hY,hB1,hB0]
  have:=Q4.new (w.alloc (.cells #[.int .i64 kd,.int .i64 rows,.int .i64 cols,.int .i64 wd,.int .i64 va,.int .i64 vb] 23)) (.int .i64 0) (.int .i64 0) (.int .i64 0) (.slice none 0 0) 28
  simpa using this
 have oB:Hid (w.heap.size≤B0∧B0<Y.heap.size∧w.heap.size≤B1∧B1<Y.heap.size∧B0≠B1):=(show _∧_∧_∧_∧_ from by have h1:=hP0.lt;have h2:=hP1.lt;omega)
 go_enter Tryz.func11,Tryz.ntmps11
 go_upto_region 1 with fail
 rw[←hY,←hB0,←hB1]
 clear hY hB0 hB1
 obtain⟨p0,p1,p2,p3,p4,p5⟩:=hP0
 go_wp2_with (first|(go_at_call 26;refine(KZ.out _).mono ?_;rintro e w1 ⟨rfl,k1⟩;have k2:=k1.alloc #[.int .i64 0,.int .i64 0,.int .i64 0,.slice none 0 0] 28;have hr1:=hP1.kept k2;have hr2:=hr1.set4 (.int .i64 0) (.int .i64 0) (.int .i64 0) (.slice none 0 0);obtain⟨r0,r1,r2,r3,rf⟩:=hr1;obtain⟨d0,d1,d2,d3,df⟩:=hr2))
 exact qlu (v:=.tuple #[zy,.int .i64 q]) (by simp[results,Tryz.results11,go_sem,d0,d1,d2,d3]) rfl ⟨rfl,((((hK.trans k2).setCell oB.out.2.2.1 _).setCell oB.out.2.2.1 _).setCell oB.out.2.2.1 _).setCell oB.out.2.2.1 _⟩
theorem qeg (kd rows cols wd va vb s t:Int)(q:Int)(N:Nat)(hk:0≤kd∧kd≤5)(hq:(q != 0)=true)(hq2:(q==0)=false)(w:World)
  (KZ:Hid (∀u,Calls Tryz.prog 26 #[.int .i64 rows,.int .i64 cols,.int .i64 wd] u fun e w'=>∃g,e=.returned (.tuple #[.agg #[.int .i64 rows,.int .i64 cols,.int .i64 wd,.slice (some ⟨g,0,none⟩) N N],.int .i64 0])∧u.heap.size≤g∧Own w' g N (List.replicate N 0)∧Kept u w'))
  (KN:Hid (∀u,Calls Tryz.prog 27 #[.agg #[.int .i64 kd,.int .i64 rows,.int .i64 cols,.int .i64 wd,.int .i64 va,.int .i64 vb]] u fun e w'=>e=.returned (.int .i64 q)∧Kept u w')):Calls Tryz.prog 11 #[.agg #[.int .i64 kd,.int .i64 rows,.int .i64 cols,.int .i64 wd,.int .i64 va,.int .i64 vb],.int .i64 s,.int .i64 t] w fun e w'=>e=.returned (.tuple #[zy,.int .i64 q])∧Kept w w':=by
 have t0:decide (kd<0)=false:=qlo (by omega)
 have t1:decide (kd>5)=false:=qlo (by omega)
 have t2:decide (5<kd)=false:=qlo (by omega)
 clear hk
 obtain⟨Y,hY⟩:∃Y,Y=(w.alloc (.cells #[.int .i64 kd,.int .i64 rows,.int .i64 cols,.int .i64 wd,.int .i64 va,.int .i64 vb] 23)).alloc (.cells #[.int .i64 0,.int .i64 0,.int .i64 0,.slice none 0 0] 28):=⟨_,rfl⟩
 obtain⟨B0,hB0⟩:∃B,B=w.heap.size:=⟨_,rfl⟩
 obtain⟨B1,hB1⟩:∃B,B=B0+1:=⟨_,rfl⟩
 have hK:Kept w Y:=by rw[hY];exact((qlv w).alloc _ _).alloc _ _
 have hP0:Q6 Y B0 (.int .i64 kd) (.int .i64 rows) (.int .i64 cols) (.int .i64 wd) (.int .i64 va) (.int .i64 vb):=by rw[hY,hB0];exact(Q6.new w _ _ _ _ _ _ _).alloc _ _
 have hP1:Q4 Y B1 (.int .i64 0) (.int .i64 0) (.int .i64 0) (.slice none 0 0):=by
  rw[hY,hB1,hB0]
  have:=Q4.new (w.alloc (.cells #[.int .i64 kd,.int .i64 rows,.int .i64 cols,.int .i64 wd,.int .i64 va,.int .i64 vb] 23)) (.int .i64 0) (.int .i64 0) (.int .i64 0) (.slice none 0 0) 28
  simpa using this
 have oB:Hid (w.heap.size≤B0∧B0<Y.heap.size∧w.heap.size≤B1∧B1<Y.heap.size∧B0≠B1):=(show _∧_∧_∧_∧_ from by have h1:=hP0.lt;have h2:=hP1.lt;omega)
 go_enter Tryz.func11,Tryz.ntmps11
 go_upto_region 1 with fail
 rw[←hY,←hB0,←hB1]
 clear hY hB0 hB1
 have HP0:Hid (∀u,Kept Y u→Q6 u B0 (.int .i64 kd) (.int .i64 rows) (.int .i64 cols) (.int .i64 wd) (.int .i64 va) (.int .i64 vb)):=fun u k=>hP0.kept k
 obtain⟨p0,p1,p2,p3,p4,p5⟩:=hP0
 go_wp2_with (first|(go_at_call 26;refine(KZ.out _).mono ?_;rintro e w1 ⟨g,rfl,og,ho,k1⟩;have k2:=k1.alloc #[.int .i64 rows,.int .i64 cols,.int .i64 wd,.slice (some ⟨g,0,none⟩) N N] 28;clear p0 p1 p2 p3 p4 p5;obtain⟨p0,p1,p2,p3,p4,p5⟩:=HP0.out _ k2)|(go_at_call 27;refine(KN.out _).mono ?_;rintro e w3 ⟨rfl,k3⟩;have k4:=k2.trans k3;have hr1:=hP1.kept k4;have hr2:=hr1.set4 (.int .i64 0) (.int .i64 0) (.int .i64 0) (.slice none 0 0);obtain⟨r0,r1,r2,r3,rf⟩:=hr1;obtain⟨d0,d1,d2,d3,df⟩:=hr2))
 exact qlu (v:=.tuple #[zy,.int .i64 q]) (by simp[results,Tryz.results11,go_sem,d0,d1,d2,d3]) rfl ⟨rfl,((((hK.trans k4).setCell oB.out.2.2.1 _).setCell oB.out.2.2.1 _).setCell oB.out.2.2.1 _).setCell oB.out.2.2.1 _⟩
theorem Yc (kd rows cols wd va vb s t:Int)(N:Nat)(fe:Int)(L:List Int)(EO:World→World→Value→Prop)(hk:0≤kd∧kd≤5)(w:World)
  (KZ:Hid (∀u,Calls Tryz.prog 26 #[.int .i64 rows,.int .i64 cols,.int .i64 wd] u fun e w'=>∃g,e=.returned (.tuple #[.agg #[.int .i64 rows,.int .i64 cols,.int .i64 wd,.slice (some ⟨g,0,none⟩) N N],.int .i64 0])∧u.heap.size≤g∧Own w' g N (List.replicate N 0)∧Kept u w'))
  (KN:Hid (∀u,Calls Tryz.prog 27 #[.agg #[.int .i64 kd,.int .i64 rows,.int .i64 cols,.int .i64 wd,.int .i64 va,.int .i64 vb]] u fun e w'=>e=.returned (.int .i64 0)∧Kept u w'))
  (KE:Hid (∀u,Kept w u→Calls Tryz.prog 29 #[.agg #[.int .i64 kd,.int .i64 rows,.int .i64 cols,.int .i64 wd,.int .i64 va,.int .i64 vb],.agg #[.int .i64 s,.int .i64 t,.int .i64 0]] u fun e w'=>∃v,e=.returned v∧EO u w' v∧Kept u w'))
  (KF:Hid (∀u0 u v g,Kept w u0→Kept u0 u→EO u0 u v→Own u0 g N (List.replicate N 0)→Calls Tryz.prog 28 #[.agg #[.int .i64 rows,.int .i64 cols,.int .i64 wd,.slice (some ⟨g,0,none⟩) N N],v] u fun e w'=>e=.returned (.int .i64 fe)∧(fe=0→Own w' g N L)∧∃D,u0.heap.size≤D∧Gs [D,g] u w'))
  (hfe:fe=0∨fe=31):Calls Tryz.prog 11 #[.agg #[.int .i64 kd,.int .i64 rows,.int .i64 cols,.int .i64 wd,.int .i64 va,.int .i64 vb],.int .i64 s,.int .i64 t] w fun e w'=>(fe=0∧∃g,e=.returned (.tuple #[.agg #[.int .i64 rows,.int .i64 cols,.int .i64 wd,.slice (some ⟨g,0,none⟩) N N],.int .i64 0])∧w.heap.size≤g∧Own w' g N L∧Kept w w')∨(fe=31∧e=.returned (.tuple #[zy,.int .i64 31])∧Kept w w'):=by
 have t0:decide (kd<0)=false:=qlo (by omega)
 have t1:decide (kd>5)=false:=qlo (by omega)
 have t2:decide (5<kd)=false:=qlo (by omega)
 clear hk
 have hfe:Hid (fe=0∨fe=31):=hfe
 obtain⟨Y,hY⟩:∃Y,Y=(w.alloc (.cells #[.int .i64 kd,.int .i64 rows,.int .i64 cols,.int .i64 wd,.int .i64 va,.int .i64 vb] 23)).alloc (.cells #[.int .i64 0,.int .i64 0,.int .i64 0,.slice none 0 0] 28):=⟨_,rfl⟩
 obtain⟨B0,hB0⟩:∃B,B=w.heap.size:=⟨_,rfl⟩
 obtain⟨B1,hB1⟩:∃B,B=B0+1:=⟨_,rfl⟩
 have hK:Kept w Y:=by rw[hY];exact((qlv w).alloc _ _).alloc _ _
 have hP0:Q6 Y B0 (.int .i64 kd) (.int .i64 rows) (.int .i64 cols) (.int .i64 wd) (.int .i64 va) (.int .i64 vb):=by rw[hY,hB0];exact(Q6.new w _ _ _ _ _ _ _).alloc _ _
 have hP1:Q4 Y B1 (.int .i64 0) (.int .i64 0) (.int .i64 0) (.slice none 0 0):=by
  rw[hY,hB1,hB0]
  have:=Q4.new (w.alloc (.cells #[.int .i64 kd,.int .i64 rows,.int .i64 cols,.int .i64 wd,.int .i64 va,.int .i64 vb] 23)) (.int .i64 0) (.int .i64 0) (.int .i64 0) (.slice none 0 0) 28
  simpa using this
 have oB:Hid (w.heap.size≤B0∧B0<Y.heap.size∧w.heap.size≤B1∧B1<Y.heap.size∧B0≠B1):=(show _∧_∧_∧_∧_ from by have h1:=hP0.lt;have h2:=hP1.lt;omega)
 go_enter Tryz.func11,Tryz.ntmps11
 go_upto_region 1 with fail
 rw[←hY,←hB0,←hB1]
 clear hY hB0 hB1
 have HP0:Hid (∀u,Kept Y u→Q6 u B0 (.int .i64 kd) (.int .i64 rows) (.int .i64 cols) (.int .i64 wd) (.int .i64 va) (.int .i64 vb)):=fun u k=>hP0.kept k
 obtain⟨p0,p1,p2,p3,p4,p5⟩:=hP0
 go_wp2_with fail
 refine(KZ.out _).mono ?_
 rintro e w1 ⟨g,rfl,og,ho,k1⟩
 clear p0 p1 p2 p3 p4 p5
 go_upto_region 4 with fail
 obtain⟨V,hV⟩:∃V,V=w1.alloc (.cells #[.int .i64 rows,.int .i64 cols,.int .i64 wd,.slice (some ⟨g,0,none⟩) N N] 28):=⟨_,rfl⟩
 obtain⟨B8,hB8⟩:∃B,B=w1.heap.size:=⟨_,rfl⟩
 have kV:Kept Y V:=by rw[hV];exact k1.alloc _ _
 have hP8:Q4 V B8 (.int .i64 rows) (.int .i64 cols) (.int .i64 wd) (.slice (some ⟨g,0,none⟩) N N):=by rw[hV,hB8];exact Q4.new w1 _ _ _ _ _
 have oV:Own V g N (List.replicate N 0):=by rw[hV];exact ho.kept ((qlv w1).alloc _ _)
 have o8:Hid (Y.heap.size≤B8∧g<B8):=(show _∧_ from⟨by rw[hB8];exact k1.below.size,by rw[hB8];exact ho.lt⟩)
 have og:Hid (Y.heap.size≤g):=og
 rw[←hV,←hB8]
 clear hV hB8 ho k1
 obtain⟨p0,p1,p2,p3,p4,p5⟩:=HP0.out _ kV
 go_wp2_with fail
 refine(KN.out _).mono ?_
 rintro e w3 ⟨rfl,k3⟩
 clear p0 p1 p2 p3 p4 p5
 go_upto_region 7 with fail
 have kW:=kV.trans k3
 have H8:=hP8.kept k3
 have H0:=HP0.out _ kW
 have oW:=oV.kept k3
 clear hP8 oV kV
 have HS:Hid (∀u,Q6 u B0 (.int .i64 kd) (.int .i64 rows) (.int .i64 cols) (.int .i64 wd) (.int .i64 va) (.int .i64 vb)→Q4 u B8 (.int .i64 rows) (.int .i64 cols) (.int .i64 wd) (.slice (some ⟨g,0,none⟩) N N)→(u.cell? ⟨B0,0,none⟩=some (.int .i64 kd)∧u.cell? ⟨B0,1,none⟩=some (.int .i64 rows)∧u.cell? ⟨B0,2,none⟩=some (.int .i64 cols)∧u.cell? ⟨B0,3,none⟩=some (.int .i64 wd)∧u.cell? ⟨B0,4,none⟩=some (.int .i64 va)∧u.cell? ⟨B0,5,none⟩=some (.int .i64 vb))∧u.cell? ⟨B8,0,none⟩=some (.int .i64 rows)∧u.cell? ⟨B8,1,none⟩=some (.int .i64 cols)∧u.cell? ⟨B8,2,none⟩=some (.int .i64 wd)∧u.cell? ⟨B8,3,none⟩=some (.slice (some ⟨g,0,none⟩) N N)):=fun u a b=>⟨⟨a.c0,a.c1,a.c2,a.c3,a.c4,a.c5⟩,b.c0,b.c1,b.c2,b.c3⟩
 refine qi [] (fun u=>(u.cell? ⟨B0,0,none⟩=some (.int .i64 kd)∧u.cell? ⟨B0,1,none⟩=some (.int .i64 rows)∧u.cell? ⟨B0,2,none⟩=some (.int .i64 cols)∧u.cell? ⟨B0,3,none⟩=some (.int .i64 wd)∧u.cell? ⟨B0,4,none⟩=some (.int .i64 va)∧u.cell? ⟨B0,5,none⟩=some (.int .i64 vb))∧u.cell? ⟨B8,0,none⟩=some (.int .i64 rows)∧u.cell? ⟨B8,1,none⟩=some (.int .i64 cols)∧u.cell? ⟨B8,2,none⟩=some (.int .i64 wd)∧u.cell? ⟨B8,3,none⟩=some (.slice (some ⟨g,0,none⟩) N N)) (by kernel_rfl) (HS.out _ (H0.kept (qlv w3).drew) (H8.kept (qlv w3).drew)) (fun hHeld=>?_)
 refine tkD (i:=0) (v:=?_) rfl hHeld ?_
 try simp only[zz]
 refine tkD (i:=1) (v:=?_) rfl hHeld ?_
 try simp only[zz]
 refine tkD (i:=2) (v:=?_) rfl hHeld ?_
 try simp only[zz]
 refine tkD (i:=3) (v:=?_) rfl hHeld ?_
 try simp only[zz]
 refine tkD (i:=4) (v:=?_) rfl hHeld ?_
 try simp only[zz]
 refine qg (i:=5) (by kernel_rfl) rfl (fun K hK9=>?_)
 go_simp
 go_wp2_with fail
 refine(KE.out _ (hK.trans (kW.drew))).mono ?_
 rintro e u5 ⟨v5,rfl,e5,k5⟩
 refine hK9.out _ _ (HS.out _ (H0.kept ((qlv w3).drew.trans k5)) (H8.kept ((qlv w3).drew.trans k5))) (fun hH5=>?_)
 clear hK9 K
 try simp only[zz]
 refine qg (i:=6) (by kernel_rfl) rfl (fun K hK9=>?_)
 go_simp
 go_wp2_with fail
 refine(KF.out _ _ _ _ (hK.trans kW.drew) k5 e5 (oW.kept (qlv w3).drew)).mono ?_
 rintro e u6 ⟨rfl,o6,D,oD,g6⟩
 have nS:B0∉[D,g]∧B8∉[D,g]∧B1∉[D,g]:=by
  have h1:=oB.out
  have h2:=o8.out
  have h3:=og.out
  have h4:=H8.lt
  have h5:=kW.below.size
  simp only[World.size_drew]at oD
  refine⟨?_,?_,?_⟩<;>(simp;omega)
 have H06:=(H0.kept ((qlv w3).drew.trans k5)).gs g6 nS.1
 have H86:=(H8.kept ((qlv w3).drew.trans k5)).gs g6 nS.2.1
 have H16:=((hP1.kept kW).kept ((qlv w3).drew.trans k5)).gs g6 nS.2.2
 have kF:Kept w u6:=(hK.trans (kW.drew.trans k5)).gsn (by
  intro i hi
  have h1:=(hK.trans kW).below.size
  have h3:=og.out
  have h4:=hK.below.size
  simp only[World.size_drew]at oD
  simp at hi
  omega) g6
 refine hK9.out _ _ (HS.out _ H06 H86) (fun hH6=>?_)
 clear hK9 K
 try simp only[zz]
 refine tkD (i:=7) (v:=?_) rfl hH6 ?_
 try simp only[zz]
 refine qk (by kernel_rfl) ?_ _
 try simp only[zz]
 have n1:g≠B1:=by have h1:=oB.out;have h3:=og.out;omega
 have ogw:w.heap.size≤g:=by have h1:=hK.below.size;have h3:=og.out;omega
 have o1:=oB.out.2.2.1
 obtain⟨c0,c1,c2,c3,cf⟩:=H86
 rcases hfe.out with rfl|rfl
 ·have o7:=o6 rfl
  have hr2:=H16.set4 (.int .i64 rows) (.int .i64 cols) (.int .i64 wd) (.slice (some ⟨g,0,none⟩) N N)
  obtain⟨r0,r1,r2,r3,rf⟩:=H16
  obtain⟨d0,d1,d2,d3,df⟩:=hr2
  go_wp2_with fail
  exact qlu (v:=.tuple #[.agg #[.int .i64 rows,.int .i64 cols,.int .i64 wd,.slice (some ⟨g,0,none⟩) N N],.int .i64 0]) (by simp[results,Tryz.results11,go_sem,d0,d1,d2,d3]) rfl (by first|exact .inl ⟨rfl,g,rfl,ogw,(((o7.setOther n1 _).setOther n1 _).setOther n1 _).setOther n1 _,(((kF.setCell o1 _).setCell o1 _).setCell o1 _).setCell o1 _⟩|exact⟨g,rfl,ogw,(((o7.setOther n1 _).setOther n1 _).setOther n1 _).setOther n1 _,(((kF.setCell o1 _).setCell o1 _).setCell o1 _).setCell o1 _⟩)
 ·have hr2:=H16.set4 (.int .i64 0) (.int .i64 0) (.int .i64 0) (.slice none 0 0)
  obtain⟨r0,r1,r2,r3,rf⟩:=H16
  obtain⟨d0,d1,d2,d3,df⟩:=hr2
  go_wp2_with fail
  exact qlu (v:=.tuple #[zy,.int .i64 31]) (by simp[results,Tryz.results11,go_sem,d0,d1,d2,d3]) rfl (by first|exact .inr ⟨rfl,rfl,(((kF.setCell o1 _).setCell o1 _).setCell o1 _).setCell o1 _⟩|exact⟨rfl,(((kF.setCell o1 _).setCell o1 _).setCell o1 _).setCell o1 _⟩)
end Go.Proofs.YtelbefihigkhjaaGreatDoor

namespace Go.Proofs.YtelbefihigkhjaaGreatDoor
open Go.ChangeShapes Go.WideShapes Go.ChangeAt Go.RowKit
set_option maxHeartbeats 16000000
set_option maxRecDepth 100000
set_option linter.unusedVariables false
set_option linter.unusedSimpArgs false
theorem New.setLow {w0 w:World}{v:Value}{x:Nm}(h:New w0 w v x){p:Addr}(hp:p.block<w0.heap.size)(u:Value):New w0 (w.setCell p u) v x:=by
 rcases h with h|⟨g,cap,e,hg,ho,hne⟩
 ·exact .inl h
 ·exact .inr ⟨g,cap,e,hg,ho.setOther (by omega) u,hne⟩
abbrev ufn (D:Nat):Value:=.func (.func 182) #[] #[.pointer (some ⟨D,0,none⟩)]
theorem qX {u:World}{b o:Nat}{v:Value}(h:u.cell? ⟨b,o,none⟩=some v):b<u.heap.size:=World.block_lt_of_cell? _ _ h
theorem V8 (A R U D:Nat)(n1:Bool)(a1:Option Addr)(l1 c1:Nat)(x1:Int)(n2:Bool)(a2:Option Addr)(l2 c2:Nat)(x2:Int)(s t a b U0:Int)(tm r:Nm)(w:World)(hA:N3 w A (.bool n1) (.slice a1 l1 c1) (.int .i64 x1))(hR:N3 w R (.bool n2) (.slice a2 l2 c2) (.int .i64 x2))(hU:w.cell? ⟨U,0,none⟩=some (ufn D))(hD:Dw w D s t a)(nA:A≠D)(nR:R≠D)(nU:U≠D)
  (KU:Hid (∀u,Dw u D s t a→Calls Tryz.prog 182 #[.pointer (some ⟨D,0,none⟩)] u fun e w'=>e=.returned (.int .i64 U0)∧Dw w' D s t b∧Gs [D] u w'))
  (KT:Hid (∀u,Gs [D] w u→Calls Tryz.prog 106 #[.agg #[.bool n2,.slice a2 l2 c2,.int .i64 x2],.int .i64 U0] u fun e w'=>∃v,e=.returned v∧New u w' v tm∧Kept u w'))
  (KA:Hid (∀u v,Gs [D] w u→NumAt u v tm→Calls Tryz.prog 105 #[.agg #[.bool n1,.slice a1 l1 c1,.int .i64 x1],v] u fun e w'=>∃v,e=.returned v∧New u w' v r∧Kept u w')):
  Calls Tryz.prog 104 #[.pointer (some ⟨A,0,none⟩),.pointer (some ⟨R,0,none⟩),.pointer (some ⟨U,0,none⟩)] w fun e w'=>∃v,e=.returned v∧New w w' v r∧Dw w' D s t b∧Gs [D] w w':=by
 obtain⟨X,hX⟩:∃X,X=w.alloc (.cells #[.bool false,.slice none 0 0,.int .i64 0] 78):=⟨_,rfl⟩
 have hK:Kept w X:=by rw[hX];exact(qlv w).alloc _ _
 have hXs:X.heap.size=w.heap.size+1:=by rw[hX];simp
 have hP0:N3 X (w.heap.size) (.bool false) (.slice none 0 0) (.int .i64 0):=by
  rw[hX]
  have:=(N3.new (w) (.bool false) (.slice none 0 0) (.int .i64 0) 78)
  simpa using this
 obtain⟨B0,hB0⟩:∃B,B=w.heap.size:=⟨_,rfl⟩
 rw[←hB0]at hP0
 have oB:Hid (w.heap.size≤B0∧B0<X.heap.size):=(show _∧_ from by omega)
 have lU:=qX hU
 have xA:=hA.kept hK
 have xR:=hR.kept hK
 have HS:Hid (∀u,Gs [D] X u→Gs [D] X u∧(u.cell? ⟨A,0,none⟩=some (.bool n1)∧u.cell? ⟨A,1,none⟩=some (.slice a1 l1 c1)∧u.cell? ⟨A,2,none⟩=some (.int .i64 x1))∧(u.cell? ⟨R,0,none⟩=some (.bool n2)∧u.cell? ⟨R,1,none⟩=some (.slice a2 l2 c2)∧u.cell? ⟨R,2,none⟩=some (.int .i64 x2))∧u.cell? ⟨U,0,none⟩=some (ufn D)):=fun u k=>⟨k,⟨(xA.gs k (by simpa using nA)).c0,(xA.gs k (by simpa using nA)).c1,(xA.gs k (by simpa using nA)).c2⟩,⟨(xR.gs k (by simpa using nR)).c0,(xR.gs k (by simpa using nR)).c1,(xR.gs k (by simpa using nR)).c2⟩,(k.cell U 0 (by have:=hK.below.size;omega) (by simpa using nU)).trans ((hK.below.cell (p:=⟨U,0,none⟩) lU).trans hU)⟩
 have HD:Hid (Dw X.drew D s t a):=(hD.kept hK).kept (qlv X).drew
 have nB:B0≠D:=by have:=hD.1.lt;omega
 have HR:Hid (∀u,Gs [D] X u→N3 u B0 (.bool false) (.slice none 0 0) (.int .i64 0)):=fun u k=>hP0.gs k (by simpa using nB)
 have gX:=hK.gs [D]
 clear lU xA hA xR hR hU hD
 go_enter Tryz.func104,Tryz.ntmps104
 go_upto_region 1 with fail
 rw[←hX,←hB0]
 clear hX hXs hB0
 refine qi [6] (fun u=>Gs [D] X u∧(u.cell? ⟨A,0,none⟩=some (.bool n1)∧u.cell? ⟨A,1,none⟩=some (.slice a1 l1 c1)∧u.cell? ⟨A,2,none⟩=some (.int .i64 x1))∧(u.cell? ⟨R,0,none⟩=some (.bool n2)∧u.cell? ⟨R,1,none⟩=some (.slice a2 l2 c2)∧u.cell? ⟨R,2,none⟩=some (.int .i64 x2))∧u.cell? ⟨U,0,none⟩=some (ufn D)) (by kernel_rfl) (HS.out _ ((qlv X).drew.gs [D])) (fun hHeld=>?_)
 refine tkD (i:=0) (v:=?_) rfl hHeld ?_
 try simp only[zz]
 refine tkD (i:=1) (v:=?_) rfl hHeld ?_
 try simp only[zz]
 refine tkD (i:=2) (v:=?_) rfl hHeld ?_
 try simp only[zz]
 refine qg (i:=3) (by kernel_rfl) rfl (fun K hK9=>?_)
 go_simp
 go_wp2_with fail
 refine(KU.out _ HD.out).mono ?_
 rintro e u1 ⟨rfl,d1,g1⟩
 refine hK9.out _ _ (HS.out _ (hHeld.1.trans g1)) (fun hH1=>?_)
 clear hK9 K
 try simp only[zz]
 refine qg (i:=4) (by kernel_rfl) rfl (fun K hK9=>?_)
 go_simp
 go_wp2_with fail
 refine(KT.out _ (gX.trans hH1.1)).mono ?_
 rintro e u2 ⟨v2,rfl,q2,k2⟩
 refine hK9.out _ _ (HS.out _ (hH1.1.kept k2)) (fun hH2=>?_)
 clear hK9 K
 try simp only[zz]
 refine qg (i:=5) (by kernel_rfl) rfl (fun K hK9=>?_)
 go_simp
 go_wp2_with fail
 refine(KA.out _ _ (gX.trans hH2.1) q2.numAt).mono ?_
 rintro e u3 ⟨v3,rfl,q3,k3⟩
 refine hK9.out _ _ (HS.out _ (hH2.1.kept k3)) (fun hH3=>?_)
 clear hK9 K
 try simp only[zz]
 obtain⟨vn,va,vl,vc,vx,rfl⟩:=q3.shape
 obtain⟨f0,f1,f2,f3⟩:=HR.out _ hH3.1
 have oq:B0<u2.heap.size:=qlf oB.out.2 hH2.1.size
 have q9:=((q3.setLow (p:=⟨B0,0,none⟩) oq (.bool vn)).setLow (p:=⟨B0,1,none⟩) oq (.slice va vl vc)).setLow (p:=⟨B0,2,none⟩) oq (.int .i64 vx)
 have q9:=q9.low (qlp gX.size hH2.1.size)
 have d9:=(((d1.kept (k2.trans k3)).far ⟨B0,0,none⟩ nB (.bool vn)).far ⟨B0,1,none⟩ nB (.slice va vl vc)).far ⟨B0,2,none⟩ nB (.int .i64 vx)
 have g9:=(((gX.trans hH3.1).setCell (p:=⟨B0,0,none⟩) (.inr oB.out.1) (.bool vn)).setCell (p:=⟨B0,1,none⟩) (.inr oB.out.1) (.slice va vl vc)).setCell (p:=⟨B0,2,none⟩) (.inr oB.out.1) (.int .i64 vx)
 refine qo (i:=6) (by kernel_rfl) rfl rfl (fun K hK9=>?_)
 go_simp
 refine hK9.out _ _ ?_
 clear hK9 K
 try simp only[zz]
 refine qk (by kernel_rfl) ?_ _
 try simp only[zz]
 go_wp2_with fail
 exact qlu (v:=.agg #[.bool vn,.slice va vl vc,.int .i64 vx]) (by simp[results,Tryz.results104,go_sem,f0,f1,f2]) rfl ⟨_,rfl,q9,d9,g9⟩
theorem V9 (A U D:Nat)(n1:Bool)(a1:Option Addr)(l1 c1:Nat)(x1:Int)(s t a b U0 U1 U2:Int)(r:Nm)(h1:IntKind.i64.wrap (2*U0)=U1)(h2:IntKind.i64.wrap (U1-9007199254740992)=U2)(w:World)(hA:N3 w A (.bool n1) (.slice a1 l1 c1) (.int .i64 x1))(hU:w.cell? ⟨U,0,none⟩=some (ufn D))(hD:Dw w D s t a)(nA:A≠D)(nU:U≠D)
  (KU:Hid (∀u,Dw u D s t a→Calls Tryz.prog 182 #[.pointer (some ⟨D,0,none⟩)] u fun e w'=>e=.returned (.int .i64 U0)∧Dw w' D s t b∧Gs [D] u w'))
  (KT:Hid (∀u,Gs [D] w u→Calls Tryz.prog 106 #[.agg #[.bool n1,.slice a1 l1 c1,.int .i64 x1],.int .i64 U2] u fun e w'=>∃v,e=.returned v∧New u w' v r∧Kept u w')):
  Calls Tryz.prog 108 #[.pointer (some ⟨A,0,none⟩),.pointer (some ⟨U,0,none⟩)] w fun e w'=>∃v,e=.returned v∧New w w' v r∧Dw w' D s t b∧Gs [D] w w':=by
 obtain⟨X,hX⟩:∃X,X=w.alloc (.cells #[.bool false,.slice none 0 0,.int .i64 0] 78):=⟨_,rfl⟩
 have hK:Kept w X:=by rw[hX];exact(qlv w).alloc _ _
 have hXs:X.heap.size=w.heap.size+1:=by rw[hX];simp
 have hP0:N3 X (w.heap.size) (.bool false) (.slice none 0 0) (.int .i64 0):=by
  rw[hX]
  have:=(N3.new (w) (.bool false) (.slice none 0 0) (.int .i64 0) 78)
  simpa using this
 obtain⟨B0,hB0⟩:∃B,B=w.heap.size:=⟨_,rfl⟩
 rw[←hB0]at hP0
 have oB:Hid (w.heap.size≤B0∧B0<X.heap.size):=(show _∧_ from by omega)
 have lU:=qX hU
 have xA:=hA.kept hK
 have HS:Hid (∀u,Gs [D] X u→Gs [D] X u∧(u.cell? ⟨A,0,none⟩=some (.bool n1)∧u.cell? ⟨A,1,none⟩=some (.slice a1 l1 c1)∧u.cell? ⟨A,2,none⟩=some (.int .i64 x1))∧u.cell? ⟨U,0,none⟩=some (ufn D)):=fun u k=>⟨k,⟨(xA.gs k (by simpa using nA)).c0,(xA.gs k (by simpa using nA)).c1,(xA.gs k (by simpa using nA)).c2⟩,(k.cell U 0 (by have:=hK.below.size;omega) (by simpa using nU)).trans ((hK.below.cell (p:=⟨U,0,none⟩) lU).trans hU)⟩
 have HD:Hid (Dw X.drew D s t a):=(hD.kept hK).kept (qlv X).drew
 have nB:B0≠D:=by have:=hD.1.lt;omega
 have HR:Hid (∀u,Gs [D] X u→N3 u B0 (.bool false) (.slice none 0 0) (.int .i64 0)):=fun u k=>hP0.gs k (by simpa using nB)
 have gX:=hK.gs [D]
 clear lU xA hA hU hD
 go_enter Tryz.func108,Tryz.ntmps108
 go_upto_region 1 with fail
 rw[←hX,←hB0]
 clear hX hXs hB0
 refine qi [6] (fun u=>Gs [D] X u∧(u.cell? ⟨A,0,none⟩=some (.bool n1)∧u.cell? ⟨A,1,none⟩=some (.slice a1 l1 c1)∧u.cell? ⟨A,2,none⟩=some (.int .i64 x1))∧u.cell? ⟨U,0,none⟩=some (ufn D)) (by kernel_rfl) (HS.out _ ((qlv X).drew.gs [D])) (fun hHeld=>?_)
 refine tkD (i:=0) (v:=?_) rfl hHeld ?_
 try simp only[zz]
 refine tkD (i:=1) (v:=?_) rfl hHeld ?_
 try simp only[zz]
 refine qg (i:=2) (by kernel_rfl) rfl (fun K hK9=>?_)
 go_simp
 go_wp2_with fail
 refine(KU.out _ HD.out).mono ?_
 rintro e u1 ⟨rfl,d1,g1⟩
 refine hK9.out _ _ (HS.out _ (hHeld.1.trans g1)) (fun hH1=>?_)
 clear hK9 K
 try simp only[zz]
 refine tkD (i:=3) (v:=?_) rfl hH1 ?_
 try simp only[zz]
 refine tkD (i:=4) (v:=?_) rfl hH1 ?_
 try simp only[zz]
 refine qg (i:=5) (by kernel_rfl) rfl (fun K hK9=>?_)
 go_simp
 go_wp2_with fail
 refine(KT.out _ (gX.trans hH1.1)).mono ?_
 rintro e u2 ⟨v2,rfl,q2,k2⟩
 refine hK9.out _ _ (HS.out _ (hH1.1.kept k2)) (fun hH2=>?_)
 clear hK9 K
 try simp only[zz]
 obtain⟨vn,va,vl,vc,vx,rfl⟩:=q2.shape
 obtain⟨f0,f1,f2,f3⟩:=HR.out _ hH2.1
 have oq:B0<u1.heap.size:=qlf oB.out.2 hH1.1.size
 have q9:=((q2.setLow (p:=⟨B0,0,none⟩) oq (.bool vn)).setLow (p:=⟨B0,1,none⟩) oq (.slice va vl vc)).setLow (p:=⟨B0,2,none⟩) oq (.int .i64 vx)
 have q9:=q9.low (qlp gX.size hH1.1.size)
 have d9:=(((d1.kept k2).far ⟨B0,0,none⟩ nB (.bool vn)).far ⟨B0,1,none⟩ nB (.slice va vl vc)).far ⟨B0,2,none⟩ nB (.int .i64 vx)
 have g9:=(((gX.trans hH2.1).setCell (p:=⟨B0,0,none⟩) (.inr oB.out.1) (.bool vn)).setCell (p:=⟨B0,1,none⟩) (.inr oB.out.1) (.slice va vl vc)).setCell (p:=⟨B0,2,none⟩) (.inr oB.out.1) (.int .i64 vx)
 refine qo (i:=6) (by kernel_rfl) rfl rfl (fun K hK9=>?_)
 go_simp
 refine hK9.out _ _ ?_
 clear hK9 K
 try simp only[zz]
 refine qk (by kernel_rfl) ?_ _
 try simp only[zz]
 go_wp2_with fail
 exact qlu (v:=.agg #[.bool vn,.slice va vl vc,.int .i64 vx]) (by simp[results,Tryz.results108,go_sem,f0,f1,f2]) rfl ⟨_,rfl,q9,d9,g9⟩
theorem Ya (A U D:Nat)(n1:Bool)(a1:Option Addr)(l1 c1:Nat)(x1:Int)(s t a b U0:Int)(r:Nm)(w:World)(hA:N3 w A (.bool n1) (.slice a1 l1 c1) (.int .i64 x1))(hU:w.cell? ⟨U,0,none⟩=some (ufn D))(hD:Dw w D s t a)(nA:A≠D)(nU:U≠D)
  (KN:Hid (∀u,Dw u D s t a→Calls Tryz.prog 110 #[ufn D] u fun e w'=>e=.returned (.int .i64 U0)∧Dw w' D s t b∧Gs [D] u w'))
  (KT:Hid (∀u,Gs [D] w u→Calls Tryz.prog 106 #[.agg #[.bool n1,.slice a1 l1 c1,.int .i64 x1],.int .i64 U0] u fun e w'=>∃v,e=.returned v∧New u w' v r∧Kept u w')):
  Calls Tryz.prog 109 #[.pointer (some ⟨A,0,none⟩),.pointer (some ⟨U,0,none⟩)] w fun e w'=>∃v,e=.returned v∧New w w' v r∧Dw w' D s t b∧Gs [D] w w':=by
 obtain⟨X,hX⟩:∃X,X=w.alloc (.cells #[.bool false,.slice none 0 0,.int .i64 0] 78):=⟨_,rfl⟩
 have hK:Kept w X:=by rw[hX];exact(qlv w).alloc _ _
 have hXs:X.heap.size=w.heap.size+1:=by rw[hX];simp
 have hP0:N3 X (w.heap.size) (.bool false) (.slice none 0 0) (.int .i64 0):=by
  rw[hX]
  have:=(N3.new (w) (.bool false) (.slice none 0 0) (.int .i64 0) 78)
  simpa using this
 obtain⟨B0,hB0⟩:∃B,B=w.heap.size:=⟨_,rfl⟩
 rw[←hB0]at hP0
 have oB:Hid (w.heap.size≤B0∧B0<X.heap.size):=(show _∧_ from by omega)
 have lU:=qX hU
 have xA:=hA.kept hK
 have HS:Hid (∀u,Gs [D] X u→Gs [D] X u∧(u.cell? ⟨A,0,none⟩=some (.bool n1)∧u.cell? ⟨A,1,none⟩=some (.slice a1 l1 c1)∧u.cell? ⟨A,2,none⟩=some (.int .i64 x1))∧u.cell? ⟨U,0,none⟩=some (ufn D)):=fun u k=>⟨k,⟨(xA.gs k (by simpa using nA)).c0,(xA.gs k (by simpa using nA)).c1,(xA.gs k (by simpa using nA)).c2⟩,(k.cell U 0 (by have:=hK.below.size;omega) (by simpa using nU)).trans ((hK.below.cell (p:=⟨U,0,none⟩) lU).trans hU)⟩
 have HD:Hid (Dw X.drew D s t a):=(hD.kept hK).kept (qlv X).drew
 have nB:B0≠D:=by have:=hD.1.lt;omega
 have HR:Hid (∀u,Gs [D] X u→N3 u B0 (.bool false) (.slice none 0 0) (.int .i64 0)):=fun u k=>hP0.gs k (by simpa using nB)
 have gX:=hK.gs [D]
 clear lU xA hA hU hD
 go_enter Tryz.func109,Tryz.ntmps109
 go_upto_region 1 with fail
 rw[←hX,←hB0]
 clear hX hXs hB0
 refine qi [4] (fun u=>Gs [D] X u∧(u.cell? ⟨A,0,none⟩=some (.bool n1)∧u.cell? ⟨A,1,none⟩=some (.slice a1 l1 c1)∧u.cell? ⟨A,2,none⟩=some (.int .i64 x1))∧u.cell? ⟨U,0,none⟩=some (ufn D)) (by kernel_rfl) (HS.out _ ((qlv X).drew.gs [D])) (fun hHeld=>?_)
 refine tkD (i:=0) (v:=?_) rfl hHeld ?_
 try simp only[zz]
 refine tkD (i:=1) (v:=?_) rfl hHeld ?_
 try simp only[zz]
 refine qg (i:=2) (by kernel_rfl) rfl (fun K hK9=>?_)
 go_simp
 go_wp2_with fail
 refine(KN.out _ HD.out).mono ?_
 rintro e u1 ⟨rfl,d1,g1⟩
 refine hK9.out _ _ (HS.out _ (hHeld.1.trans g1)) (fun hH1=>?_)
 clear hK9 K
 try simp only[zz]
 refine qg (i:=3) (by kernel_rfl) rfl (fun K hK9=>?_)
 go_simp
 go_wp2_with fail
 refine(KT.out _ (gX.trans hH1.1)).mono ?_
 rintro e u2 ⟨v2,rfl,q2,k2⟩
 refine hK9.out _ _ (HS.out _ (hH1.1.kept k2)) (fun hH2=>?_)
 clear hK9 K
 try simp only[zz]
 obtain⟨vn,va,vl,vc,vx,rfl⟩:=q2.shape
 obtain⟨f0,f1,f2,f3⟩:=HR.out _ hH2.1
 have oq:B0<u1.heap.size:=qlf oB.out.2 hH1.1.size
 have q9:=((q2.setLow (p:=⟨B0,0,none⟩) oq (.bool vn)).setLow (p:=⟨B0,1,none⟩) oq (.slice va vl vc)).setLow (p:=⟨B0,2,none⟩) oq (.int .i64 vx)
 have q9:=q9.low (qlp gX.size hH1.1.size)
 have d9:=(((d1.kept k2).far ⟨B0,0,none⟩ nB (.bool vn)).far ⟨B0,1,none⟩ nB (.slice va vl vc)).far ⟨B0,2,none⟩ nB (.int .i64 vx)
 have g9:=(((gX.trans hH2.1).setCell (p:=⟨B0,0,none⟩) (.inr oB.out.1) (.bool vn)).setCell (p:=⟨B0,1,none⟩) (.inr oB.out.1) (.slice va vl vc)).setCell (p:=⟨B0,2,none⟩) (.inr oB.out.1) (.int .i64 vx)
 refine qo (i:=4) (by kernel_rfl) rfl rfl (fun K hK9=>?_)
 go_simp
 refine hK9.out _ _ ?_
 clear hK9 K
 try simp only[zz]
 refine qk (by kernel_rfl) ?_ _
 try simp only[zz]
 go_wp2_with fail
 exact qlu (v:=.agg #[.bool vn,.slice va vl vc,.int .i64 vx]) (by simp[results,Tryz.results109,go_sem,f0,f1,f2]) rfl ⟨_,rfl,q9,d9,g9⟩
theorem Yb (A:Nat)(n1:Bool)(a1:Option Addr)(l1 c1:Nat)(x1:Int)(w:World)(hA:N3 w A (.bool n1) (.slice a1 l1 c1) (.int .i64 x1)):
  Calls Tryz.prog 111 #[.pointer (some ⟨A,0,none⟩)] w fun e w'=>e=.returned (.agg #[.bool n1,.slice a1 l1 c1,.int .i64 x1])∧Kept w w':=by
 obtain⟨X,hX⟩:∃X,X=w.alloc (.cells #[.bool false,.slice none 0 0,.int .i64 0] 78):=⟨_,rfl⟩
 have hK:Kept w X:=by rw[hX];exact(qlv w).alloc _ _
 have hXs:X.heap.size=w.heap.size+1:=by rw[hX];simp
 have hP0:N3 X (w.heap.size) (.bool false) (.slice none 0 0) (.int .i64 0):=by
  rw[hX]
  have:=(N3.new (w) (.bool false) (.slice none 0 0) (.int .i64 0) 78)
  simpa using this
 obtain⟨B0,hB0⟩:∃B,B=w.heap.size:=⟨_,rfl⟩
 rw[←hB0]at hP0
 have oB:Hid (w.heap.size≤B0∧B0<X.heap.size):=(show _∧_ from by omega)
 have xA:=hA.kept hK
 have nA:B0≠A:=by have:=hA.lt;omega
 have oB1:=oB.out.1
 go_enter Tryz.func111,Tryz.ntmps111
 go_upto_region 1 with fail
 rw[←hX,←hB0]
 clear hX hXs hB0
 obtain⟨p0,p1,p2,pf⟩:=hP0
 obtain⟨e0,e1,e2,ef⟩:=xA
 go_wp2_with fail
 exact qlu (v:=.agg #[.bool n1,.slice a1 l1 c1,.int .i64 x1]) (by simp[results,Tryz.results111,go_sem,p0,p1,p2]) rfl ⟨rfl,((hK.setCell (p:=⟨B0,0,none⟩) oB1 _).setCell (p:=⟨B0,1,none⟩) oB1 _).setCell (p:=⟨B0,2,none⟩) oB1 _⟩
end Go.Proofs.YtelbefihigkhjaaGreatDoor
