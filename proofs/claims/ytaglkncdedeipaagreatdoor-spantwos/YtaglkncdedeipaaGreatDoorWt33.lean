/-  -/
import Derived.Test.YtaglkncdedeipaaGreatDoorWt32
namespace Go.Proofs.YtaglkncdedeipaaGreatDoor
open Go.ChangeShapes Go.WideShapes Go.ChangeAt Go.RowKit
set_option linter.unusedVariables false
set_option linter.unusedSimpArgs false
set_option maxHeartbeats 16000000
set_option maxRecDepth 100000
theorem qkv (s1 s2 t1 t2 n e0:Int)(ov1 ov2:Bool)(he:(e0 != 0)=true)(w:World)
  (KV:Hid (∀u b1 b2 r,(b1=s1∧b2=s2∧r=ov1∨b1=t1∧b2=t2∧r=ov2)→Calls Tryz.prog 12 #[.agg #[.int .i64 b1,.int .i64 b2],.int .i64 n] u fun e w'=>e=.returned (.bool r)∧Kept u w'))
  (KF:Hid (∀u,Calls Tryz.prog 13 #[.int .i64 n,.bool (ov1&&ov2)] u fun e w'=>e=.returned (.int .i64 e0)∧Kept u w'))
  (KA:Hid (∀u,Kept w u→Calls Tryz.prog 10 #[.agg #[.int .i64 s1,.int .i64 s2],.agg #[.int .i64 t1,.int .i64 t2],.int .i64 n] u fun e w'=>e=.returned (.tuple #[.agg #[.int .i64 0,.int .i64 0],.int .i64 e0])∧Kept u w'))
  (KB:Hid (∀u,Kept w u→Calls Tryz.prog 14 #[.agg #[.int .i64 s1,.int .i64 s2],.agg #[.int .i64 t1,.int .i64 t2],.int .i64 n] u fun e w'=>e=.returned (.tuple #[.agg #[.int .i64 0,.int .i64 0],.int .i64 e0])∧Kept u w'))
  (KC:Hid (∀u,Kept w u→Calls Tryz.prog 11 #[.agg #[.int .i64 s1,.int .i64 s2],.agg #[.int .i64 t1,.int .i64 t2],.int .i64 n] u fun e w'=>e=.returned (.tuple #[.agg #[.int .i64 0,.int .i64 0],.int .i64 e0])∧Kept u w'))
  (KQ:Hid (∀u,Kept w u→Calls Tryz.prog 15 #[.agg #[.int .i64 s1,.int .i64 s2],.agg #[.int .i64 t1,.int .i64 t2],.int .i64 n] u fun e w'=>e=.returned (.tuple #[.agg #[.int .i64 0,.int .i64 0],.int .i64 e0])∧Kept u w'))
  (KD:Hid (∀u,Kept w u→Calls Tryz.prog 16 #[.agg #[.int .i64 s1,.int .i64 s2],.agg #[.int .i64 t1,.int .i64 t2],.int .i64 n] u fun e w'=>e=.returned (.tuple #[.agg #[.int .i64 0,.int .i64 0],.bool false,.int .i64 e0])∧Kept u w'))
  (KN:Hid (∀u,Kept w u→Calls Tryz.prog 17 #[.agg #[.int .i64 s1,.int .i64 s2],.agg #[.int .i64 t1,.int .i64 t2],.int .i64 n] u fun e w'=>e=.returned (.tuple #[.agg #[.int .i64 0,.int .i64 0],.int .i64 e0])∧Kept u w'))
  (KI:Hid (∀u,Calls Tryz.prog 18 #[.agg #[.int .i64 0,.int .i64 0],.int .i64 e0,.int .i64 e0,.agg #[.int .i64 s1,.int .i64 s2]] u fun e w'=>e=.returned (.bool true)∧Kept u w')):
  Calls Tryz.prog 7 #[.agg #[.int .i64 s1,.int .i64 s2],.agg #[.int .i64 t1,.int .i64 t2],.int .i64 n] w fun e w'=>e=.returned (.bool true)∧Kept w w':=by
 obtain⟨X,hX⟩:∃X,X=(w.alloc (.cells #[.int .i64 s1,.int .i64 s2] 23)).alloc (.cells #[.int .i64 t1,.int .i64 t2] 23):=⟨_,rfl⟩
 have hK:Kept w X:=by rw[hX];exact((qo0 w).alloc _ _).alloc _ _
 have hXs:X.heap.size=w.heap.size+2:=by rw[hX];simp
 have hP0:P2 X (w.heap.size) (.int .i64 s1) (.int .i64 s2):=by
  rw[hX]
  have:=((P2.new (w) (.int .i64 s1) (.int .i64 s2) 23).alloc #[.int .i64 t1,.int .i64 t2] 23)
  simpa using this
 have hP1:P2 X (w.heap.size+1) (.int .i64 t1) (.int .i64 t2):=by
  rw[hX]
  have:=(P2.new (w.alloc (.cells #[.int .i64 s1,.int .i64 s2] 23)) (.int .i64 t1) (.int .i64 t2) 23)
  simpa using this
 obtain⟨B0,hB0⟩:∃B,B=w.heap.size:=⟨_,rfl⟩
 obtain⟨B1,hB1⟩:∃B,B=B0+1:=⟨_,rfl⟩
 rw[←hB0]at hP0
 rw[←hB0,←hB1]at hP1
 have oB:Hid (w.heap.size≤B0∧B0<X.heap.size∧w.heap.size≤B1∧B1<X.heap.size):=(show _∧_∧_∧_ from by omega)
 have oX:Hid (w.heap.size≤X.heap.size):=hK.below.size
 have HC:Hid (∀u,Kept X u→u.cell? ⟨B0,0,none⟩=some (.int .i64 s1)∧u.cell? ⟨B0,1,none⟩=some (.int .i64 s2)∧u.cell? ⟨B1,0,none⟩=some (.int .i64 t1)∧u.cell? ⟨B1,1,none⟩=some (.int .i64 t2)):=fun u k=>⟨(hP0.kept k).c0,(hP0.kept k).c1,(hP1.kept k).c0,(hP1.kept k).c1⟩
 go_enter Tryz.func7,Tryz.ntmps7
 go_upto_region 1 with fail
 rw[←hX,←hB0,←hB1]
 clear hX hXs hB0 hB1
 obtain⟨c0,c1,c2,c3⟩:=HC.out _ (qo0 X)
 obtain⟨ov,hov⟩:∃ov,ov=(ov1&&ov2):=⟨_,rfl⟩
 have KF2:Hid (∀u,Calls Tryz.prog 13 #[.int .i64 n,.bool ov] u fun e w'=>e=.returned (.int .i64 e0)∧Kept u w'):=fun u=>by rw[hov];exact KF.out u
 go_wp2_with fail
 refine(KV.out _ _ _ _ (.inl ⟨rfl,rfl,rfl⟩)).mono ?_
 rintro e x1 ⟨rfl,k1⟩
 clear c0 c1 c2 c3
 obtain⟨c0,c1,c2,c3⟩:=HC.out _ k1
 cases ov1
 ·obtain⟨x2,hx2⟩:∃x,x=x1:=⟨_,rfl⟩
  have k2:=k1
  rw[←hx2]at k2
  clear c0 c1 c2 c3
  go_upto_region 2 with fail
  rw[←hx2]
  clear hx2
  have KF3:Hid (∀u,Calls Tryz.prog 13 #[.int .i64 n,.bool false] u fun e w'=>e=.returned (.int .i64 e0)∧Kept u w'):=KF
  go_wp2_with fail
  refine(KF3.out _).mono ?_
  rintro e x3 ⟨rfl,k3⟩
  have kU0:=k2.trans k3
  clear k2 k3 KF KF2 KF3 KV k1 hov
  go_upto_region 3 with fail
  obtain⟨c0,c1,c2,c3⟩:=HC.out _ kU0
  go_wp2_with fail
  refine(KA.out _ (hK.trans kU0)).mono ?_
  rintro e y ⟨rfl,ky⟩
  clear c0 c1 c2 c3 KA
  go_upto_region 4 with fail
  have kq:=((qo0 y).alloc #[.int .i64 0,.int .i64 0] 23)
  have pq:=P2.new y (.int .i64 0) (.int .i64 0) 23
  obtain⟨U1,hU⟩:∃Z,Z=y.alloc (.cells #[.int .i64 0,.int .i64 0] 23):=⟨_,rfl⟩
  rw[←hU]at kq pq
  rw[←hU]
  obtain⟨D1,hD⟩:∃Z,Z=y.heap.size:=⟨_,rfl⟩
  rw[←hD]at pq
  rw[←hD]
  have j1:=ky.trans kq
  have kU1:=kU0.trans j1
  have q1:=pq
  clear hU hD kq pq ky y
  clear j1
  obtain⟨c0,c1,c2,c3⟩:=HC.out _ kU1
  go_wp2_with fail
  refine(KB.out _ (hK.trans kU1)).mono ?_
  rintro e y ⟨rfl,ky⟩
  clear c0 c1 c2 c3 KB
  go_upto_region 5 with fail
  have kq:=((qo0 y).alloc #[.int .i64 0,.int .i64 0] 23)
  have pq:=P2.new y (.int .i64 0) (.int .i64 0) 23
  obtain⟨U2,hU⟩:∃Z,Z=y.alloc (.cells #[.int .i64 0,.int .i64 0] 23):=⟨_,rfl⟩
  rw[←hU]at kq pq
  rw[←hU]
  obtain⟨D2,hD⟩:∃Z,Z=y.heap.size:=⟨_,rfl⟩
  rw[←hD]at pq
  rw[←hD]
  have j2:=ky.trans kq
  have kU2:=kU1.trans j2
  have q2:=pq
  clear hU hD kq pq ky y
  replace q1:=q1.kept j2
  clear j2
  obtain⟨c0,c1,c2,c3⟩:=HC.out _ kU2
  go_wp2_with fail
  refine(KC.out _ (hK.trans kU2)).mono ?_
  rintro e y ⟨rfl,ky⟩
  clear c0 c1 c2 c3 KC
  go_upto_region 6 with fail
  have kq:=((qo0 y).alloc #[.int .i64 0,.int .i64 0] 23)
  have pq:=P2.new y (.int .i64 0) (.int .i64 0) 23
  obtain⟨U3,hU⟩:∃Z,Z=y.alloc (.cells #[.int .i64 0,.int .i64 0] 23):=⟨_,rfl⟩
  rw[←hU]at kq pq
  rw[←hU]
  obtain⟨D3,hD⟩:∃Z,Z=y.heap.size:=⟨_,rfl⟩
  rw[←hD]at pq
  rw[←hD]
  have j3:=ky.trans kq
  have kU3:=kU2.trans j3
  have q3:=pq
  clear hU hD kq pq ky y
  replace q1:=q1.kept j3
  replace q2:=q2.kept j3
  clear j3
  obtain⟨c0,c1,c2,c3⟩:=HC.out _ kU3
  go_wp2_with fail
  refine(KQ.out _ (hK.trans kU3)).mono ?_
  rintro e y ⟨rfl,ky⟩
  clear c0 c1 c2 c3 KQ
  go_upto_region 7 with fail
  have kq:=((qo0 y).alloc #[.int .i64 0,.int .i64 0] 23)
  have pq:=P2.new y (.int .i64 0) (.int .i64 0) 23
  obtain⟨U4,hU⟩:∃Z,Z=y.alloc (.cells #[.int .i64 0,.int .i64 0] 23):=⟨_,rfl⟩
  rw[←hU]at kq pq
  rw[←hU]
  obtain⟨D4,hD⟩:∃Z,Z=y.heap.size:=⟨_,rfl⟩
  rw[←hD]at pq
  rw[←hD]
  have j4:=ky.trans kq
  have kU4:=kU3.trans j4
  have q4:=pq
  clear hU hD kq pq ky y
  replace q1:=q1.kept j4
  replace q2:=q2.kept j4
  replace q3:=q3.kept j4
  clear j4
  obtain⟨c0,c1,c2,c3⟩:=HC.out _ kU4
  go_wp2_with fail
  refine(KD.out _ (hK.trans kU4)).mono ?_
  rintro e y ⟨rfl,ky⟩
  clear c0 c1 c2 c3 KD
  go_upto_region 8 with fail
  have kq:=((qo0 y).alloc #[.int .i64 0,.int .i64 0] 23)
  have pq:=P2.new y (.int .i64 0) (.int .i64 0) 23
  obtain⟨U5,hU⟩:∃Z,Z=y.alloc (.cells #[.int .i64 0,.int .i64 0] 23):=⟨_,rfl⟩
  rw[←hU]at kq pq
  rw[←hU]
  obtain⟨D5,hD⟩:∃Z,Z=y.heap.size:=⟨_,rfl⟩
  rw[←hD]at pq
  rw[←hD]
  have j5:=ky.trans kq
  have kU5:=kU4.trans j5
  have q5:=pq
  clear hU hD kq pq ky y
  replace q1:=q1.kept j5
  replace q2:=q2.kept j5
  replace q3:=q3.kept j5
  replace q4:=q4.kept j5
  clear j5
  obtain⟨c0,c1,c2,c3⟩:=HC.out _ kU5
  go_wp2_with fail
  refine(KN.out _ (hK.trans kU5)).mono ?_
  rintro e y ⟨rfl,ky⟩
  clear c0 c1 c2 c3 KN
  go_upto_region 9 with fail
  have kq:=((qo0 y).alloc #[.int .i64 0,.int .i64 0] 23)
  have pq:=P2.new y (.int .i64 0) (.int .i64 0) 23
  obtain⟨U6,hU⟩:∃Z,Z=y.alloc (.cells #[.int .i64 0,.int .i64 0] 23):=⟨_,rfl⟩
  rw[←hU]at kq pq
  rw[←hU]
  obtain⟨D6,hD⟩:∃Z,Z=y.heap.size:=⟨_,rfl⟩
  rw[←hD]at pq
  rw[←hD]
  have j6:=ky.trans kq
  have kU6:=kU5.trans j6
  have q6:=pq
  clear hU hD kq pq ky y
  replace q1:=q1.kept j6
  replace q2:=q2.kept j6
  replace q3:=q3.kept j6
  replace q4:=q4.kept j6
  replace q5:=q5.kept j6
  clear j6
  have HC2:Hid (∀u,Kept U6 u→u.cell? ⟨B0,0,none⟩=some (.int .i64 s1)∧u.cell? ⟨B0,1,none⟩=some (.int .i64 s2)∧u.cell? ⟨D1,0,none⟩=some (.int .i64 0)∧u.cell? ⟨D1,1,none⟩=some (.int .i64 0)∧u.cell? ⟨D2,0,none⟩=some (.int .i64 0)∧u.cell? ⟨D2,1,none⟩=some (.int .i64 0)∧u.cell? ⟨D3,0,none⟩=some (.int .i64 0)∧u.cell? ⟨D3,1,none⟩=some (.int .i64 0)∧u.cell? ⟨D4,0,none⟩=some (.int .i64 0)∧u.cell? ⟨D4,1,none⟩=some (.int .i64 0)∧u.cell? ⟨D5,0,none⟩=some (.int .i64 0)∧u.cell? ⟨D5,1,none⟩=some (.int .i64 0)∧u.cell? ⟨D6,0,none⟩=some (.int .i64 0)∧u.cell? ⟨D6,1,none⟩=some (.int .i64 0)):=fun u k=>⟨(HC.out _ (kU6.trans k)).1,(HC.out _ (kU6.trans k)).2.1,(q1.kept k).c0,(q1.kept k).c1,(q2.kept k).c0,(q2.kept k).c1,(q3.kept k).c0,(q3.kept k).c1,(q4.kept k).c0,(q4.kept k).c1,(q5.kept k).c0,(q5.kept k).c1,(q6.kept k).c0,(q6.kept k).c1⟩
  clear HC q1 q2 q3 q4 q5 q6
  go_upto_region 10 with fail
  obtain⟨c0,c1,c2,c3,c4,c5,c6,c7,c8,c9,c10,c11,c12,c13⟩:=HC2.out _ (qo0 U6)
  go_wp2_with fail
  refine(KI.out _).mono ?_
  rintro e y0 ⟨rfl,ky0⟩
  have m0:=(qo0 U6).trans ky0
  clear c0 c1 c2 c3 c4 c5 c6 c7 c8 c9 c10 c11 c12 c13
  obtain⟨c0,c1,c2,c3,c4,c5,c6,c7,c8,c9,c10,c11,c12,c13⟩:=HC2.out _ m0
  go_wp2_with fail
  refine(KI.out _).mono ?_
  rintro e y1 ⟨rfl,ky1⟩
  have m1:=m0.trans ky1
  clear c0 c1 c2 c3 c4 c5 c6 c7 c8 c9 c10 c11 c12 c13
  obtain⟨c0,c1,c2,c3,c4,c5,c6,c7,c8,c9,c10,c11,c12,c13⟩:=HC2.out _ m1
  go_wp2_with fail
  refine(KI.out _).mono ?_
  rintro e y2 ⟨rfl,ky2⟩
  have m2:=m1.trans ky2
  clear c0 c1 c2 c3 c4 c5 c6 c7 c8 c9 c10 c11 c12 c13
  obtain⟨c0,c1,c2,c3,c4,c5,c6,c7,c8,c9,c10,c11,c12,c13⟩:=HC2.out _ m2
  go_wp2_with fail
  refine(KI.out _).mono ?_
  rintro e y3 ⟨rfl,ky3⟩
  have m3:=m2.trans ky3
  clear c0 c1 c2 c3 c4 c5 c6 c7 c8 c9 c10 c11 c12 c13
  obtain⟨c0,c1,c2,c3,c4,c5,c6,c7,c8,c9,c10,c11,c12,c13⟩:=HC2.out _ m3
  go_wp2_with fail
  refine(KI.out _).mono ?_
  rintro e y4 ⟨rfl,ky4⟩
  have m4:=m3.trans ky4
  clear c0 c1 c2 c3 c4 c5 c6 c7 c8 c9 c10 c11 c12 c13
  obtain⟨c0,c1,c2,c3,c4,c5,c6,c7,c8,c9,c10,c11,c12,c13⟩:=HC2.out _ m4
  go_wp2_with fail
  refine(KI.out _).mono ?_
  rintro e y5 ⟨rfl,ky5⟩
  have m5:=m4.trans ky5
  clear c0 c1 c2 c3 c4 c5 c6 c7 c8 c9 c10 c11 c12 c13
  go_wp2_with fail
  go_ret
  exact⟨rfl,hK.trans (kU6.trans m5)⟩
 ·go_wp2_with fail
  refine(KV.out _ _ _ _ (.inr ⟨rfl,rfl,rfl⟩)).mono ?_
  rintro e x2 ⟨rfl,k12⟩
  have k2:=k1.trans k12
  clear k12
  clear c0 c1 c2 c3
  go_upto_region 2 with fail
  have KF3:Hid (∀u,Calls Tryz.prog 13 #[.int .i64 n,.bool ov2] u fun e w'=>e=.returned (.int .i64 e0)∧Kept u w'):=KF
  go_wp2_with fail
  refine(KF3.out _).mono ?_
  rintro e x3 ⟨rfl,k3⟩
  have kU0:=k2.trans k3
  clear k2 k3 KF KF2 KF3 KV k1 hov
  go_upto_region 3 with fail
  obtain⟨c0,c1,c2,c3⟩:=HC.out _ kU0
  go_wp2_with fail
  refine(KA.out _ (hK.trans kU0)).mono ?_
  rintro e y ⟨rfl,ky⟩
  clear c0 c1 c2 c3 KA
  go_upto_region 4 with fail
  have kq:=((qo0 y).alloc #[.int .i64 0,.int .i64 0] 23)
  have pq:=P2.new y (.int .i64 0) (.int .i64 0) 23
  obtain⟨U1,hU⟩:∃Z,Z=y.alloc (.cells #[.int .i64 0,.int .i64 0] 23):=⟨_,rfl⟩
  rw[←hU]at kq pq
  rw[←hU]
  obtain⟨D1,hD⟩:∃Z,Z=y.heap.size:=⟨_,rfl⟩
  rw[←hD]at pq
  rw[←hD]
  have j1:=ky.trans kq
  have kU1:=kU0.trans j1
  have q1:=pq
  clear hU hD kq pq ky y
  clear j1
  obtain⟨c0,c1,c2,c3⟩:=HC.out _ kU1
  go_wp2_with fail
  refine(KB.out _ (hK.trans kU1)).mono ?_
  rintro e y ⟨rfl,ky⟩
  clear c0 c1 c2 c3 KB
  go_upto_region 5 with fail
  have kq:=((qo0 y).alloc #[.int .i64 0,.int .i64 0] 23)
  have pq:=P2.new y (.int .i64 0) (.int .i64 0) 23
  obtain⟨U2,hU⟩:∃Z,Z=y.alloc (.cells #[.int .i64 0,.int .i64 0] 23):=⟨_,rfl⟩
  rw[←hU]at kq pq
  rw[←hU]
  obtain⟨D2,hD⟩:∃Z,Z=y.heap.size:=⟨_,rfl⟩
  rw[←hD]at pq
  rw[←hD]
  have j2:=ky.trans kq
  have kU2:=kU1.trans j2
  have q2:=pq
  clear hU hD kq pq ky y
  replace q1:=q1.kept j2
  clear j2
  obtain⟨c0,c1,c2,c3⟩:=HC.out _ kU2
  go_wp2_with fail
  refine(KC.out _ (hK.trans kU2)).mono ?_
  rintro e y ⟨rfl,ky⟩
  clear c0 c1 c2 c3 KC
  go_upto_region 6 with fail
  have kq:=((qo0 y).alloc #[.int .i64 0,.int .i64 0] 23)
  have pq:=P2.new y (.int .i64 0) (.int .i64 0) 23
  obtain⟨U3,hU⟩:∃Z,Z=y.alloc (.cells #[.int .i64 0,.int .i64 0] 23):=⟨_,rfl⟩
  rw[←hU]at kq pq
  rw[←hU]
  obtain⟨D3,hD⟩:∃Z,Z=y.heap.size:=⟨_,rfl⟩
  rw[←hD]at pq
  rw[←hD]
  have j3:=ky.trans kq
  have kU3:=kU2.trans j3
  have q3:=pq
  clear hU hD kq pq ky y
  replace q1:=q1.kept j3
  replace q2:=q2.kept j3
  clear j3
  obtain⟨c0,c1,c2,c3⟩:=HC.out _ kU3
  go_wp2_with fail
  refine(KQ.out _ (hK.trans kU3)).mono ?_
  rintro e y ⟨rfl,ky⟩
  clear c0 c1 c2 c3 KQ
  go_upto_region 7 with fail
  have kq:=((qo0 y).alloc #[.int .i64 0,.int .i64 0] 23)
  have pq:=P2.new y (.int .i64 0) (.int .i64 0) 23
  obtain⟨U4,hU⟩:∃Z,Z=y.alloc (.cells #[.int .i64 0,.int .i64 0] 23):=⟨_,rfl⟩
  rw[←hU]at kq pq
  rw[←hU]
  obtain⟨D4,hD⟩:∃Z,Z=y.heap.size:=⟨_,rfl⟩
  rw[←hD]at pq
  rw[←hD]
  have j4:=ky.trans kq
  have kU4:=kU3.trans j4
  have q4:=pq
  clear hU hD kq pq ky y
  replace q1:=q1.kept j4
  replace q2:=q2.kept j4
  replace q3:=q3.kept j4
  clear j4
  obtain⟨c0,c1,c2,c3⟩:=HC.out _ kU4
  go_wp2_with fail
  refine(KD.out _ (hK.trans kU4)).mono ?_
  rintro e y ⟨rfl,ky⟩
  clear c0 c1 c2 c3 KD
  go_upto_region 8 with fail
  have kq:=((qo0 y).alloc #[.int .i64 0,.int .i64 0] 23)
  have pq:=P2.new y (.int .i64 0) (.int .i64 0) 23
  obtain⟨U5,hU⟩:∃Z,Z=y.alloc (.cells #[.int .i64 0,.int .i64 0] 23):=⟨_,rfl⟩
  rw[←hU]at kq pq
  rw[←hU]
  obtain⟨D5,hD⟩:∃Z,Z=y.heap.size:=⟨_,rfl⟩
  rw[←hD]at pq
  rw[←hD]
  have j5:=ky.trans kq
  have kU5:=kU4.trans j5
  have q5:=pq
  clear hU hD kq pq ky y
  replace q1:=q1.kept j5
  replace q2:=q2.kept j5
  replace q3:=q3.kept j5
  replace q4:=q4.kept j5
  clear j5
  obtain⟨c0,c1,c2,c3⟩:=HC.out _ kU5
  go_wp2_with fail
  refine(KN.out _ (hK.trans kU5)).mono ?_
  rintro e y ⟨rfl,ky⟩
  clear c0 c1 c2 c3 KN
  go_upto_region 9 with fail
  have kq:=((qo0 y).alloc #[.int .i64 0,.int .i64 0] 23)
  have pq:=P2.new y (.int .i64 0) (.int .i64 0) 23
  obtain⟨U6,hU⟩:∃Z,Z=y.alloc (.cells #[.int .i64 0,.int .i64 0] 23):=⟨_,rfl⟩
  rw[←hU]at kq pq
  rw[←hU]
  obtain⟨D6,hD⟩:∃Z,Z=y.heap.size:=⟨_,rfl⟩
  rw[←hD]at pq
  rw[←hD]
  have j6:=ky.trans kq
  have kU6:=kU5.trans j6
  have q6:=pq
  clear hU hD kq pq ky y
  replace q1:=q1.kept j6
  replace q2:=q2.kept j6
  replace q3:=q3.kept j6
  replace q4:=q4.kept j6
  replace q5:=q5.kept j6
  clear j6
  have HC2:Hid (∀u,Kept U6 u→u.cell? ⟨B0,0,none⟩=some (.int .i64 s1)∧u.cell? ⟨B0,1,none⟩=some (.int .i64 s2)∧u.cell? ⟨D1,0,none⟩=some (.int .i64 0)∧u.cell? ⟨D1,1,none⟩=some (.int .i64 0)∧u.cell? ⟨D2,0,none⟩=some (.int .i64 0)∧u.cell? ⟨D2,1,none⟩=some (.int .i64 0)∧u.cell? ⟨D3,0,none⟩=some (.int .i64 0)∧u.cell? ⟨D3,1,none⟩=some (.int .i64 0)∧u.cell? ⟨D4,0,none⟩=some (.int .i64 0)∧u.cell? ⟨D4,1,none⟩=some (.int .i64 0)∧u.cell? ⟨D5,0,none⟩=some (.int .i64 0)∧u.cell? ⟨D5,1,none⟩=some (.int .i64 0)∧u.cell? ⟨D6,0,none⟩=some (.int .i64 0)∧u.cell? ⟨D6,1,none⟩=some (.int .i64 0)):=fun u k=>⟨(HC.out _ (kU6.trans k)).1,(HC.out _ (kU6.trans k)).2.1,(q1.kept k).c0,(q1.kept k).c1,(q2.kept k).c0,(q2.kept k).c1,(q3.kept k).c0,(q3.kept k).c1,(q4.kept k).c0,(q4.kept k).c1,(q5.kept k).c0,(q5.kept k).c1,(q6.kept k).c0,(q6.kept k).c1⟩
  clear HC q1 q2 q3 q4 q5 q6
  go_upto_region 10 with fail
  obtain⟨c0,c1,c2,c3,c4,c5,c6,c7,c8,c9,c10,c11,c12,c13⟩:=HC2.out _ (qo0 U6)
  go_wp2_with fail
  refine(KI.out _).mono ?_
  rintro e y0 ⟨rfl,ky0⟩
  have m0:=(qo0 U6).trans ky0
  clear c0 c1 c2 c3 c4 c5 c6 c7 c8 c9 c10 c11 c12 c13
  obtain⟨c0,c1,c2,c3,c4,c5,c6,c7,c8,c9,c10,c11,c12,c13⟩:=HC2.out _ m0
  go_wp2_with fail
  refine(KI.out _).mono ?_
  rintro e y1 ⟨rfl,ky1⟩
  have m1:=m0.trans ky1
  clear c0 c1 c2 c3 c4 c5 c6 c7 c8 c9 c10 c11 c12 c13
  obtain⟨c0,c1,c2,c3,c4,c5,c6,c7,c8,c9,c10,c11,c12,c13⟩:=HC2.out _ m1
  go_wp2_with fail
  refine(KI.out _).mono ?_
  rintro e y2 ⟨rfl,ky2⟩
  have m2:=m1.trans ky2
  clear c0 c1 c2 c3 c4 c5 c6 c7 c8 c9 c10 c11 c12 c13
  obtain⟨c0,c1,c2,c3,c4,c5,c6,c7,c8,c9,c10,c11,c12,c13⟩:=HC2.out _ m2
  go_wp2_with fail
  refine(KI.out _).mono ?_
  rintro e y3 ⟨rfl,ky3⟩
  have m3:=m2.trans ky3
  clear c0 c1 c2 c3 c4 c5 c6 c7 c8 c9 c10 c11 c12 c13
  obtain⟨c0,c1,c2,c3,c4,c5,c6,c7,c8,c9,c10,c11,c12,c13⟩:=HC2.out _ m3
  go_wp2_with fail
  refine(KI.out _).mono ?_
  rintro e y4 ⟨rfl,ky4⟩
  have m4:=m3.trans ky4
  clear c0 c1 c2 c3 c4 c5 c6 c7 c8 c9 c10 c11 c12 c13
  obtain⟨c0,c1,c2,c3,c4,c5,c6,c7,c8,c9,c10,c11,c12,c13⟩:=HC2.out _ m4
  go_wp2_with fail
  refine(KI.out _).mono ?_
  rintro e y5 ⟨rfl,ky5⟩
  have m5:=m4.trans ky5
  clear c0 c1 c2 c3 c4 c5 c6 c7 c8 c9 c10 c11 c12 c13
  go_wp2_with fail
  go_ret
  exact⟨rfl,hK.trans (kU6.trans m5)⟩
end Go.Proofs.YtaglkncdedeipaaGreatDoor
