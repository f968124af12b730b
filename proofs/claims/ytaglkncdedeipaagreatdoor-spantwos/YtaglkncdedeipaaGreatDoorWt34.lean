/-  -/
import Derived.Test.YtaglkncdedeipaaGreatDoorWt33
import Derived.Test.YtaglkncdedeipaaGreatDoorWt01
import Derived.Test.YtaglkncdedeipaaGreatDoorWt19
import Derived.Test.YtaglkncdedeipaaGreatDoorWt15
import Derived.Test.YtaglkncdedeipaaGreatDoorWt03
import Derived.ProofKit
import Derived.OpenShut
import Derived.Carry
import Derived.Lib.SmallJoins
import Derived.ChangeSlices
namespace Go.Proofs.YtaglkncdedeipaaGreatDoor
open Go.ChangeShapes Go.WideShapes Go.ChangeAt Go.RowKit
set_option linter.unusedVariables false
set_option linter.unusedSimpArgs false
set_option maxHeartbeats 16000000
set_option maxRecDepth 100000
theorem qe5 (s1 s2 t1 t2 n:Int)(th:Bool)(pA1 pA2 pB1 pB2 pC1 pC2 pD1 pD2 pN1 pN2:Int)(w:World)
  (KV:Hid (∀u b1 b2,(b1=s1∧b2=s2∨b1=t1∧b2=t2)→Calls Tryz.prog 12 #[.agg #[.int .i64 b1,.int .i64 b2],.int .i64 n] u fun e w'=>e=.returned (.bool true)∧Kept u w'))
  (KF:Hid (∀u,Calls Tryz.prog 13 #[.int .i64 n,.bool true] u fun e w'=>e=.returned (.int .i64 0)∧Kept u w'))
  (KA:Hid (∀u,Kept w u→Calls Tryz.prog 10 #[.agg #[.int .i64 s1,.int .i64 s2],.agg #[.int .i64 t1,.int .i64 t2],.int .i64 n] u fun e w'=>e=.returned (.tuple #[.agg #[.int .i64 pA1,.int .i64 pA2],.int .i64 0])∧Kept u w'))
  (KB:Hid (∀u,Kept w u→Calls Tryz.prog 14 #[.agg #[.int .i64 s1,.int .i64 s2],.agg #[.int .i64 t1,.int .i64 t2],.int .i64 n] u fun e w'=>e=.returned (.tuple #[.agg #[.int .i64 pB1,.int .i64 pB2],.int .i64 0])∧Kept u w'))
  (KC:Hid (∀u,Kept w u→Calls Tryz.prog 11 #[.agg #[.int .i64 s1,.int .i64 s2],.agg #[.int .i64 t1,.int .i64 t2],.int .i64 n] u fun e w'=>e=.returned (.tuple #[.agg #[.int .i64 pC1,.int .i64 pC2],.int .i64 0])∧Kept u w'))
  (KQ:Hid (∀u,Kept w u→Calls Tryz.prog 15 #[.agg #[.int .i64 s1,.int .i64 s2],.agg #[.int .i64 t1,.int .i64 t2],.int .i64 n] u fun e w'=>e=.returned (.tuple #[.agg #[.int .i64 0,.int .i64 0],.int .i64 8])∧Kept u w'))
  (KD:Hid (∀u,Kept w u→Calls Tryz.prog 16 #[.agg #[.int .i64 s1,.int .i64 s2],.agg #[.int .i64 t1,.int .i64 t2],.int .i64 n] u fun e w'=>e=.returned (.tuple #[.agg #[.int .i64 pD1,.int .i64 pD2],.bool th,.int .i64 0])∧Kept u w'))
  (KN:Hid (∀u,Kept w u→Calls Tryz.prog 17 #[.agg #[.int .i64 s1,.int .i64 s2],.agg #[.int .i64 t1,.int .i64 t2],.int .i64 n] u fun e w'=>e=.returned (.tuple #[.agg #[.int .i64 pN1,.int .i64 pN2],.int .i64 0])∧Kept u w'))
  (RA:Hid (∀u,Calls Tryz.prog 20 #[.agg #[.int .i64 s1,.int .i64 s2],.agg #[.int .i64 t1,.int .i64 t2],.int .i64 n] u fun e w'=>e=.returned (.agg #[.int .i64 pA1,.int .i64 pA2])∧Kept u w'))
  (RB:Hid (∀u,Calls Tryz.prog 21 #[.agg #[.int .i64 s1,.int .i64 s2],.agg #[.int .i64 t1,.int .i64 t2],.int .i64 n] u fun e w'=>e=.returned (.agg #[.int .i64 pB1,.int .i64 pB2])∧Kept u w'))
  (RC:Hid (∀u,Calls Tryz.prog 22 #[.agg #[.int .i64 s1,.int .i64 s2],.agg #[.int .i64 t1,.int .i64 t2],.int .i64 n] u fun e w'=>e=.returned (.agg #[.int .i64 pC1,.int .i64 pC2])∧Kept u w'))
  (RN:Hid (∀u,Calls Tryz.prog 23 #[.agg #[.int .i64 s1,.int .i64 s2],.agg #[.int .i64 t1,.int .i64 t2],.int .i64 n] u fun e w'=>e=.returned (.agg #[.int .i64 pN1,.int .i64 pN2])∧Kept u w'))
  (RD:Hid (∀u,Calls Tryz.prog 19 #[.agg #[.int .i64 s1,.int .i64 s2],.agg #[.int .i64 t1,.int .i64 t2],.int .i64 n] u fun e w'=>e=.returned (.tuple #[.agg #[.int .i64 pD1,.int .i64 pD2],.bool th])∧Kept u w'))
  (RZ:Hid (∀u,Calls Tryz.prog 24 #[.agg #[.int .i64 t1,.int .i64 t2],.int .i64 n] u fun e w'=>e=.returned (.bool true)∧Kept u w'))
  (KI:Hid (∀u r1 r2,Calls Tryz.prog 18 #[.agg #[.int .i64 r1,.int .i64 r2],.int .i64 0,.int .i64 0,.agg #[.int .i64 r1,.int .i64 r2]] u fun e w'=>e=.returned (.bool true)∧Kept u w'))
  (KJ:Hid (∀u,Calls Tryz.prog 18 #[.agg #[.int .i64 0,.int .i64 0],.int .i64 8,.int .i64 8,.agg #[.int .i64 s1,.int .i64 s2]] u fun e w'=>e=.returned (.bool true)∧Kept u w')):
  Calls Tryz.prog 7 #[.agg #[.int .i64 s1,.int .i64 s2],.agg #[.int .i64 t1,.int .i64 t2],.int .i64 n] w fun e w'=>e=.returned (.bool true)∧Kept w w':=by
 obtain⟨X,hX⟩:∃X,X=(w.alloc (.cells #[.int .i64 s1,.int .i64 s2] 23)).alloc (.cells #[.int .i64 t1,.int .i64 t2] 23):=⟨_,rfl⟩
 have hK:Kept w X:=by rw[hX];exact((qo0 w).alloc _ _).alloc _ _
 have hXs:X.heap.size=w.heap.size+2:=by rw[hX];simp
 have hP0:P2 X (w.heap.size) (.int .i64 s1) (.int .i64 s2):=by
  rw[hX]
  have:=((P2.new (w) (.int .i64 s1) (.int .i64 s2) 23).alloc #[.int .i64 t1,.int .i64 t2] 23)
  simpa using this
 have hP1:P2 X (w.heap.size+1) (.int .i64 t1) (.int .i64 t2):=by
  rw[hX]
  have:=(P2.new (w.alloc (.cells #[.int .i64 s1,.int .i64 s2] 23)) (.int .i64 t1) (.int .i64 t2) 23)
  simpa using this
 obtain⟨B0,hB0⟩:∃B,B=w.heap.size:=⟨_,rfl⟩
 obtain⟨B1,hB1⟩:∃B,B=B0+1:=⟨_,rfl⟩
 rw[←hB0]at hP0
 rw[←hB0,←hB1]at hP1
 have oB:Hid (w.heap.size≤B0∧B0<X.heap.size∧w.heap.size≤B1∧B1<X.heap.size):=(show _∧_∧_∧_ from by omega)
 have oX:Hid (w.heap.size≤X.heap.size):=hK.below.size
 have HC:Hid (∀u,Kept X u→u.cell? ⟨B0,0,none⟩=some (.int .i64 s1)∧u.cell? ⟨B0,1,none⟩=some (.int .i64 s2)∧u.cell? ⟨B1,0,none⟩=some (.int .i64 t1)∧u.cell? ⟨B1,1,none⟩=some (.int .i64 t2)):=fun u k=>⟨(hP0.kept k).c0,(hP0.kept k).c1,(hP1.kept k).c0,(hP1.kept k).c1⟩
 have hth:(th != th)=false:=by cases th<;>rfl
 go_enter Tryz.func7,Tryz.ntmps7
 go_upto_region 1 with fail
 rw[←hX,←hB0,←hB1]
 clear hX hXs hB0 hB1
 obtain⟨c0,c1,c2,c3⟩:=HC.out _ (qo0 X)
 go_wp2_with fail
 refine(KV.out _ _ _ (.inl ⟨rfl,rfl⟩)).mono ?_
 rintro e x1 ⟨rfl,k1⟩
 clear c0 c1 c2 c3
 obtain⟨c0,c1,c2,c3⟩:=HC.out _ k1
 go_wp2_with fail
 refine(KV.out _ _ _ (.inr ⟨rfl,rfl⟩)).mono ?_
 rintro e x2 ⟨rfl,k12⟩
 have k2:=k1.trans k12
 clear c0 c1 c2 c3 k12
 go_upto_region 2 with fail
 go_wp2_with fail
 refine(KF.out _).mono ?_
 rintro e x3 ⟨rfl,k3⟩
 have kU0:=k2.trans k3
 clear k2 k3 KF KV k1
 go_upto_region 3 with fail
 obtain⟨c0,c1,c2,c3⟩:=HC.out _ kU0
 go_wp2_with fail
 refine(KA.out _ (hK.trans kU0)).mono ?_
 rintro e y ⟨rfl,ky⟩
 clear c0 c1 c2 c3 KA
 go_upto_region 4 with fail
 have kq:=((qo0 y).alloc #[.int .i64 pA1,.int .i64 pA2] 23)
 have pq:=P2.new y (.int .i64 pA1) (.int .i64 pA2) 23
 obtain⟨U1,hU⟩:∃Z,Z=y.alloc (.cells #[.int .i64 pA1,.int .i64 pA2] 23):=⟨_,rfl⟩
 rw[←hU]at kq pq
 rw[←hU]
 obtain⟨D1,hD⟩:∃Z,Z=y.heap.size:=⟨_,rfl⟩
 rw[←hD]at pq
 rw[←hD]
 have j1:=ky.trans kq
 have kU1:=kU0.trans j1
 have q1:=pq
 clear hU hD kq pq ky y
 clear j1
 obtain⟨c0,c1,c2,c3⟩:=HC.out _ kU1
 go_wp2_with fail
 refine(KB.out _ (hK.trans kU1)).mono ?_
 rintro e y ⟨rfl,ky⟩
 clear c0 c1 c2 c3 KB
 go_upto_region 5 with fail
 have kq:=((qo0 y).alloc #[.int .i64 pB1,.int .i64 pB2] 23)
 have pq:=P2.new y (.int .i64 pB1) (.int .i64 pB2) 23
 obtain⟨U2,hU⟩:∃Z,Z=y.alloc (.cells #[.int .i64 pB1,.int .i64 pB2] 23):=⟨_,rfl⟩
 rw[←hU]at kq pq
 rw[←hU]
 obtain⟨D2,hD⟩:∃Z,Z=y.heap.size:=⟨_,rfl⟩
 rw[←hD]at pq
 rw[←hD]
 have j2:=ky.trans kq
 have kU2:=kU1.trans j2
 have q2:=pq
 clear hU hD kq pq ky y
 replace q1:=q1.kept j2
 clear j2
 obtain⟨c0,c1,c2,c3⟩:=HC.out _ kU2
 go_wp2_with fail
 refine(KC.out _ (hK.trans kU2)).mono ?_
 rintro e y ⟨rfl,ky⟩
 clear c0 c1 c2 c3 KC
 go_upto_region 6 with fail
 have kq:=((qo0 y).alloc #[.int .i64 pC1,.int .i64 pC2] 23)
 have pq:=P2.new y (.int .i64 pC1) (.int .i64 pC2) 23
 obtain⟨U3,hU⟩:∃Z,Z=y.alloc (.cells #[.int .i64 pC1,.int .i64 pC2] 23):=⟨_,rfl⟩
 rw[←hU]at kq pq
 rw[←hU]
 obtain⟨D3,hD⟩:∃Z,Z=y.heap.size:=⟨_,rfl⟩
 rw[←hD]at pq
 rw[←hD]
 have j3:=ky.trans kq
 have kU3:=kU2.trans j3
 have q3:=pq
 clear hU hD kq pq ky y
 replace q1:=q1.kept j3
 replace q2:=q2.kept j3
 clear j3
 obtain⟨c0,c1,c2,c3⟩:=HC.out _ kU3
 go_wp2_with fail
 refine(KQ.out _ (hK.trans kU3)).mono ?_
 rintro e y ⟨rfl,ky⟩
 clear c0 c1 c2 c3 KQ
 go_upto_region 7 with fail
 have kq:=((qo0 y).alloc #[.int .i64 0,.int .i64 0] 23)
 have pq:=P2.new y (.int .i64 0) (.int .i64 0) 23
 obtain⟨U4,hU⟩:∃Z,Z=y.alloc (.cells #[.int .i64 0,.int .i64 0] 23):=⟨_,rfl⟩
 rw[←hU]at kq pq
 rw[←hU]
 obtain⟨D4,hD⟩:∃Z,Z=y.heap.size:=⟨_,rfl⟩
 rw[←hD]at pq
 rw[←hD]
 have j4:=ky.trans kq
 have kU4:=kU3.trans j4
 have q4:=pq
 clear hU hD kq pq ky y
 replace q1:=q1.kept j4
 replace q2:=q2.kept j4
 replace q3:=q3.kept j4
 clear j4
 obtain⟨c0,c1,c2,c3⟩:=HC.out _ kU4
 go_wp2_with fail
 refine(KD.out _ (hK.trans kU4)).mono ?_
 rintro e y ⟨rfl,ky⟩
 clear c0 c1 c2 c3 KD
 go_upto_region 8 with fail
 have kq:=((qo0 y).alloc #[.int .i64 pD1,.int .i64 pD2] 23)
 have pq:=P2.new y (.int .i64 pD1) (.int .i64 pD2) 23
 obtain⟨U5,hU⟩:∃Z,Z=y.alloc (.cells #[.int .i64 pD1,.int .i64 pD2] 23):=⟨_,rfl⟩
 rw[←hU]at kq pq
 rw[←hU]
 obtain⟨D5,hD⟩:∃Z,Z=y.heap.size:=⟨_,rfl⟩
 rw[←hD]at pq
 rw[←hD]
 have j5:=ky.trans kq
 have kU5:=kU4.trans j5
 have q5:=pq
 clear hU hD kq pq ky y
 replace q1:=q1.kept j5
 replace q2:=q2.kept j5
 replace q3:=q3.kept j5
 replace q4:=q4.kept j5
 clear j5
 obtain⟨c0,c1,c2,c3⟩:=HC.out _ kU5
 go_wp2_with fail
 refine(KN.out _ (hK.trans kU5)).mono ?_
 rintro e y ⟨rfl,ky⟩
 clear c0 c1 c2 c3 KN
 go_upto_region 9 with fail
 have kq:=((qo0 y).alloc #[.int .i64 pN1,.int .i64 pN2] 23)
 have pq:=P2.new y (.int .i64 pN1) (.int .i64 pN2) 23
 obtain⟨U6,hU⟩:∃Z,Z=y.alloc (.cells #[.int .i64 pN1,.int .i64 pN2] 23):=⟨_,rfl⟩
 rw[←hU]at kq pq
 rw[←hU]
 obtain⟨D6,hD⟩:∃Z,Z=y.heap.size:=⟨_,rfl⟩
 rw[←hD]at pq
 rw[←hD]
 have j6:=ky.trans kq
 have kU6:=kU5.trans j6
 have q6:=pq
 clear hU hD kq pq ky y
 replace q1:=q1.kept j6
 replace q2:=q2.kept j6
 replace q3:=q3.kept j6
 replace q4:=q4.kept j6
 replace q5:=q5.kept j6
 clear j6
 go_upto_region 11 with fail
 obtain⟨c0,c1,c2,c3⟩:=HC.out _ kU6
 go_wp2_with fail
 refine(RD.out _).mono ?_
 rintro e y ⟨rfl,ky⟩
 clear c0 c1 c2 c3 RD
 go_upto_region 12 with fail
 have kq:=((qo0 y).alloc #[.int .i64 pD1,.int .i64 pD2] 23)
 have pq:=P2.new y (.int .i64 pD1) (.int .i64 pD2) 23
 obtain⟨U7,hU⟩:∃Z,Z=y.alloc (.cells #[.int .i64 pD1,.int .i64 pD2] 23):=⟨_,rfl⟩
 rw[←hU]at kq pq
 rw[←hU]
 obtain⟨D7,hD⟩:∃Z,Z=y.heap.size:=⟨_,rfl⟩
 rw[←hD]at pq
 rw[←hD]
 have j7:=ky.trans kq
 have kU7:=kU6.trans j7
 have q7:=pq
 clear hU hD kq pq ky y
 replace q1:=q1.kept j7
 replace q2:=q2.kept j7
 replace q3:=q3.kept j7
 replace q4:=q4.kept j7
 replace q5:=q5.kept j7
 replace q6:=q6.kept j7
 clear j7
 have HS:Hid (∀u,Kept U7 u→Kept U7 u∧u.cell? ⟨B0,0,none⟩=some (.int .i64 s1)∧u.cell? ⟨B0,1,none⟩=some (.int .i64 s2)∧u.cell? ⟨B1,0,none⟩=some (.int .i64 t1)∧u.cell? ⟨B1,1,none⟩=some (.int .i64 t2)∧u.cell? ⟨D1,0,none⟩=some (.int .i64 pA1)∧u.cell? ⟨D1,1,none⟩=some (.int .i64 pA2)∧u.cell? ⟨D2,0,none⟩=some (.int .i64 pB1)∧u.cell? ⟨D2,1,none⟩=some (.int .i64 pB2)∧u.cell? ⟨D3,0,none⟩=some (.int .i64 pC1)∧u.cell? ⟨D3,1,none⟩=some (.int .i64 pC2)∧u.cell? ⟨D4,0,none⟩=some (.int .i64 0)∧u.cell? ⟨D4,1,none⟩=some (.int .i64 0)∧u.cell? ⟨D5,0,none⟩=some (.int .i64 pD1)∧u.cell? ⟨D5,1,none⟩=some (.int .i64 pD2)∧u.cell? ⟨D6,0,none⟩=some (.int .i64 pN1)∧u.cell? ⟨D6,1,none⟩=some (.int .i64 pN2)∧u.cell? ⟨D7,0,none⟩=some (.int .i64 pD1)∧u.cell? ⟨D7,1,none⟩=some (.int .i64 pD2)):=fun u k=>⟨k,(HC.out _ (kU7.trans k)).1,(HC.out _ (kU7.trans k)).2.1,(HC.out _ (kU7.trans k)).2.2.1,(HC.out _ (kU7.trans k)).2.2.2,(q1.kept k).c0,(q1.kept k).c1,(q2.kept k).c0,(q2.kept k).c1,(q3.kept k).c0,(q3.kept k).c1,(q4.kept k).c0,(q4.kept k).c1,(q5.kept k).c0,(q5.kept k).c1,(q6.kept k).c0,(q6.kept k).c1,(q7.kept k).c0,(q7.kept k).c1⟩
 clear HC q1 q2 q3 q4 q5 q6 q7
 refine qm [] (fun u=>Kept U7 u∧u.cell? ⟨B0,0,none⟩=some (.int .i64 s1)∧u.cell? ⟨B0,1,none⟩=some (.int .i64 s2)∧u.cell? ⟨B1,0,none⟩=some (.int .i64 t1)∧u.cell? ⟨B1,1,none⟩=some (.int .i64 t2)∧u.cell? ⟨D1,0,none⟩=some (.int .i64 pA1)∧u.cell? ⟨D1,1,none⟩=some (.int .i64 pA2)∧u.cell? ⟨D2,0,none⟩=some (.int .i64 pB1)∧u.cell? ⟨D2,1,none⟩=some (.int .i64 pB2)∧u.cell? ⟨D3,0,none⟩=some (.int .i64 pC1)∧u.cell? ⟨D3,1,none⟩=some (.int .i64 pC2)∧u.cell? ⟨D4,0,none⟩=some (.int .i64 0)∧u.cell? ⟨D4,1,none⟩=some (.int .i64 0)∧u.cell? ⟨D5,0,none⟩=some (.int .i64 pD1)∧u.cell? ⟨D5,1,none⟩=some (.int .i64 pD2)∧u.cell? ⟨D6,0,none⟩=some (.int .i64 pN1)∧u.cell? ⟨D6,1,none⟩=some (.int .i64 pN2)∧u.cell? ⟨D7,0,none⟩=some (.int .i64 pD1)∧u.cell? ⟨D7,1,none⟩=some (.int .i64 pD2)) (by kernel_rfl) (HS.out _ (qo0 U7).drew) (fun hHeld=>?_)
 refine tkD (i:=0) (v:=?_) rfl hHeld ?_
 try simp only[zz]
 refine tkD (i:=1) (v:=?_) rfl hHeld ?_
 try simp only[zz]
 refine tkD (i:=2) (v:=?_) rfl hHeld ?_
 try simp only[zz]
 refine tkD (i:=3) (v:=?_) rfl hHeld ?_
 try simp only[zz]
 refine tkD (i:=4) (v:=?_) rfl hHeld ?_
 try simp only[zz]
 refine qi (i:=5) (by kernel_rfl) rfl (fun K hK9=>?_)
 go_simp
 go_wp2_with fail
 refine(RA.out _).mono ?_
 rintro e u1 ⟨rfl,z1⟩
 refine hK9.out _ _ (HS.out _ (hHeld.1.trans z1)) (fun hH1=>?_)
 clear hK9 K
 try simp only[zz]
 clear hHeld
 refine qi (i:=6) (by kernel_rfl) rfl (fun K hK9=>?_)
 go_simp
 go_wp2_with fail
 refine(KI.out _ _ _).mono ?_
 rintro e u2 ⟨rfl,z2⟩
 refine hK9.out _ _ (HS.out _ (hH1.1.trans z2)) (fun hH2=>?_)
 clear hK9 K
 try simp only[zz]
 clear hH1
 refine tkD (i:=7) (v:=?_) rfl hH2 ?_
 try simp only[zz]
 refine tkD (i:=8) (v:=?_) rfl hH2 ?_
 try simp only[zz]
 refine tkD (i:=9) (v:=?_) rfl hH2 ?_
 try simp only[zz]
 refine tkD (i:=10) (v:=?_) rfl hH2 ?_
 try simp only[zz]
 refine tkD (i:=11) (v:=?_) rfl hH2 ?_
 try simp only[zz]
 refine tkD (i:=12) (v:=?_) rfl hH2 ?_
 try simp only[zz]
 refine tkD (i:=13) (v:=?_) rfl hH2 ?_
 try simp only[zz]
 refine qi (i:=14) (by kernel_rfl) rfl (fun K hK9=>?_)
 go_simp
 go_wp2_with fail
 refine(RB.out _).mono ?_
 rintro e u3 ⟨rfl,z3⟩
 refine hK9.out _ _ (HS.out _ (hH2.1.trans z3)) (fun hH3=>?_)
 clear hK9 K
 try simp only[zz]
 clear hH2
 refine qi (i:=15) (by kernel_rfl) rfl (fun K hK9=>?_)
 go_simp
 go_wp2_with fail
 refine(KI.out _ _ _).mono ?_
 rintro e u4 ⟨rfl,z4⟩
 refine hK9.out _ _ (HS.out _ (hH3.1.trans z4)) (fun hH4=>?_)
 clear hK9 K
 try simp only[zz]
 clear hH3
 refine tkD (i:=16) (v:=?_) rfl hH4 ?_
 try simp only[zz]
 refine tkD (i:=17) (v:=?_) rfl hH4 ?_
 try simp only[zz]
 refine tkD (i:=18) (v:=?_) rfl hH4 ?_
 try simp only[zz]
 refine tkD (i:=19) (v:=?_) rfl hH4 ?_
 try simp only[zz]
 refine tkD (i:=20) (v:=?_) rfl hH4 ?_
 try simp only[zz]
 refine tkD (i:=21) (v:=?_) rfl hH4 ?_
 try simp only[zz]
 refine tkD (i:=22) (v:=?_) rfl hH4 ?_
 try simp only[zz]
 refine tkD (i:=23) (v:=?_) rfl hH4 ?_
 try simp only[zz]
 refine qi (i:=24) (by kernel_rfl) rfl (fun K hK9=>?_)
 go_simp
 go_wp2_with fail
 refine(RC.out _).mono ?_
 rintro e u5 ⟨rfl,z5⟩
 refine hK9.out _ _ (HS.out _ (hH4.1.trans z5)) (fun hH5=>?_)
 clear hK9 K
 try simp only[zz]
 clear hH4
 refine qi (i:=25) (by kernel_rfl) rfl (fun K hK9=>?_)
 go_simp
 go_wp2_with fail
 refine(KI.out _ _ _).mono ?_
 rintro e u6 ⟨rfl,z6⟩
 refine hK9.out _ _ (HS.out _ (hH5.1.trans z6)) (fun hH6=>?_)
 clear hK9 K
 try simp only[zz]
 clear hH5
 refine tkD (i:=26) (v:=?_) rfl hH6 ?_
 try simp only[zz]
 refine tkD (i:=27) (v:=?_) rfl hH6 ?_
 try simp only[zz]
 refine tkD (i:=28) (v:=?_) rfl hH6 ?_
 try simp only[zz]
 refine tkD (i:=29) (v:=?_) rfl hH6 ?_
 try simp only[zz]
 refine tkD (i:=30) (v:=?_) rfl hH6 ?_
 try simp only[zz]
 refine tkD (i:=31) (v:=?_) rfl hH6 ?_
 try simp only[zz]
 refine qi (i:=32) (by kernel_rfl) rfl (fun K hK9=>?_)
 go_simp
 go_wp2_with fail
 refine(KI.out _ _ _).mono ?_
 rintro e u7 ⟨rfl,z7⟩
 refine hK9.out _ _ (HS.out _ (hH6.1.trans z7)) (fun hH7=>?_)
 clear hK9 K
 try simp only[zz]
 clear hH6
 refine tkD (i:=33) (v:=?_) rfl hH7 ?_
 try simp only[zz]
 refine tkD (i:=34) (v:=?_) rfl hH7 ?_
 try simp only[zz]
 refine tkD (i:=35) (v:=?_) rfl hH7 ?_
 try simp only[zz]
 refine tkD (i:=36) (v:=?_) rfl hH7 ?_
 try simp only[zz]
 refine tkD (i:=37) (v:=?_) rfl hH7 ?_
 try simp only[zz]
 refine tkD (i:=38) (v:=?_) rfl hH7 ?_
 try simp only[zz]
 refine tkD (i:=39) (v:=?_) rfl hH7 ?_
 try simp only[zz]
 refine tkD (i:=40) (v:=?_) rfl hH7 ?_
 try simp only[zz]
 refine tkD (i:=41) (v:=?_) rfl hH7 ?_
 try simp only[zz]
 refine tkD (i:=42) (v:=?_) rfl hH7 ?_
 try simp only[zz]
 refine tkD (i:=43) (v:=?_) rfl hH7 ?_
 try simp only[zz]
 refine tkD (i:=44) (v:=?_) rfl hH7 ?_
 try simp only[zz]
 refine tkD (i:=45) (v:=?_) rfl hH7 ?_
 try simp only[zz]
 refine qi (i:=46) (by kernel_rfl) rfl (fun K hK9=>?_)
 go_simp
 go_wp2_with fail
 refine(RN.out _).mono ?_
 rintro e u8 ⟨rfl,z8⟩
 refine hK9.out _ _ (HS.out _ (hH7.1.trans z8)) (fun hH8=>?_)
 clear hK9 K
 try simp only[zz]
 clear hH7
 refine qi (i:=47) (by kernel_rfl) rfl (fun K hK9=>?_)
 go_simp
 go_wp2_with fail
 refine(KI.out _ _ _).mono ?_
 rintro e u9 ⟨rfl,z9⟩
 refine hK9.out _ _ (HS.out _ (hH8.1.trans z9)) (fun hH9=>?_)
 clear hK9 K
 try simp only[zz]
 clear hH8
 refine tkD (i:=48) (v:=?_) rfl hH9 ?_
 try simp only[zz]
 refine tkD (i:=49) (v:=?_) rfl hH9 ?_
 try simp only[zz]
 refine qs (by kernel_rfl) ?_ _
 try simp only[zz]
 have hL:=hH9
 obtain⟨kL,c0,c1,c2,c3,c4,c5,c6,c7,c8,c9,c10,c11,c12,c13,c14,c15,c16,c17⟩:=id hL
 go_wp2_with fail
 refine(RZ.out _).mono ?_
 rintro e y ⟨rfl,ky⟩
 have kY:=kL.trans ky
 clear c0 c1 c2 c3 c4 c5 c6 c7 c8 c9 c10 c11 c12 c13 c14 c15 c16 c17
 obtain⟨-,c0,c1,c2,c3,c4,c5,c6,c7,c8,c9,c10,c11,c12,c13,c14,c15,c16,c17⟩:=HS.out _ kY
 go_wp2_with fail
 refine(KJ.out _).mono ?_
 rintro e y2 ⟨rfl,ky2⟩
 go_wp2_with fail
 go_ret
 exact⟨rfl,hK.trans (kU7.trans (kY.trans ky2))⟩
theorem qe6 (s1 s2 t1 t2 n:Int)(th:Bool)(pA1 pA2 pB1 pB2 pC1 pC2 pQ1 pQ2 pD1 pD2 pN1 pN2:Int)(w:World)
  (KV:Hid (∀u b1 b2,(b1=s1∧b2=s2∨b1=t1∧b2=t2)→Calls Tryz.prog 12 #[.agg #[.int .i64 b1,.int .i64 b2],.int .i64 n] u fun e w'=>e=.returned (.bool true)∧Kept u w'))
  (KF:Hid (∀u,Calls Tryz.prog 13 #[.int .i64 n,.bool true] u fun e w'=>e=.returned (.int .i64 0)∧Kept u w'))
  (KA:Hid (∀u,Kept w u→Calls Tryz.prog 10 #[.agg #[.int .i64 s1,.int .i64 s2],.agg #[.int .i64 t1,.int .i64 t2],.int .i64 n] u fun e w'=>e=.returned (.tuple #[.agg #[.int .i64 pA1,.int .i64 pA2],.int .i64 0])∧Kept u w'))
  (KB:Hid (∀u,Kept w u→Calls Tryz.prog 14 #[.agg #[.int .i64 s1,.int .i64 s2],.agg #[.int .i64 t1,.int .i64 t2],.int .i64 n] u fun e w'=>e=.returned (.tuple #[.agg #[.int .i64 pB1,.int .i64 pB2],.int .i64 0])∧Kept u w'))
  (KC:Hid (∀u,Kept w u→Calls Tryz.prog 11 #[.agg #[.int .i64 s1,.int .i64 s2],.agg #[.int .i64 t1,.int .i64 t2],.int .i64 n] u fun e w'=>e=.returned (.tuple #[.agg #[.int .i64 pC1,.int .i64 pC2],.int .i64 0])∧Kept u w'))
  (KQ:Hid (∀u,Kept w u→Calls Tryz.prog 15 #[.agg #[.int .i64 s1,.int .i64 s2],.agg #[.int .i64 t1,.int .i64 t2],.int .i64 n] u fun e w'=>e=.returned (.tuple #[.agg #[.int .i64 pQ1,.int .i64 pQ2],.int .i64 0])∧Kept u w'))
  (KD:Hid (∀u,Kept w u→Calls Tryz.prog 16 #[.agg #[.int .i64 s1,.int .i64 s2],.agg #[.int .i64 t1,.int .i64 t2],.int .i64 n] u fun e w'=>e=.returned (.tuple #[.agg #[.int .i64 pD1,.int .i64 pD2],.bool th,.int .i64 0])∧Kept u w'))
  (KN:Hid (∀u,Kept w u→Calls Tryz.prog 17 #[.agg #[.int .i64 s1,.int .i64 s2],.agg #[.int .i64 t1,.int .i64 t2],.int .i64 n] u fun e w'=>e=.returned (.tuple #[.agg #[.int .i64 pN1,.int .i64 pN2],.int .i64 0])∧Kept u w'))
  (RA:Hid (∀u,Calls Tryz.prog 20 #[.agg #[.int .i64 s1,.int .i64 s2],.agg #[.int .i64 t1,.int .i64 t2],.int .i64 n] u fun e w'=>e=.returned (.agg #[.int .i64 pA1,.int .i64 pA2])∧Kept u w'))
  (RB:Hid (∀u,Calls Tryz.prog 21 #[.agg #[.int .i64 s1,.int .i64 s2],.agg #[.int .i64 t1,.int .i64 t2],.int .i64 n] u fun e w'=>e=.returned (.agg #[.int .i64 pB1,.int .i64 pB2])∧Kept u w'))
  (RC:Hid (∀u,Calls Tryz.prog 22 #[.agg #[.int .i64 s1,.int .i64 s2],.agg #[.int .i64 t1,.int .i64 t2],.int .i64 n] u fun e w'=>e=.returned (.agg #[.int .i64 pC1,.int .i64 pC2])∧Kept u w'))
  (RN:Hid (∀u,Calls Tryz.prog 23 #[.agg #[.int .i64 s1,.int .i64 s2],.agg #[.int .i64 t1,.int .i64 t2],.int .i64 n] u fun e w'=>e=.returned (.agg #[.int .i64 pN1,.int .i64 pN2])∧Kept u w'))
  (RQ:Hid (∀u,Calls Tryz.prog 25 #[.agg #[.int .i64 s1,.int .i64 s2],.agg #[.int .i64 t1,.int .i64 t2],.int .i64 n] u fun e w'=>e=.returned (.agg #[.int .i64 pQ1,.int .i64 pQ2])∧Kept u w'))
  (RD:Hid (∀u,Calls Tryz.prog 19 #[.agg #[.int .i64 s1,.int .i64 s2],.agg #[.int .i64 t1,.int .i64 t2],.int .i64 n] u fun e w'=>e=.returned (.tuple #[.agg #[.int .i64 pD1,.int .i64 pD2],.bool th])∧Kept u w'))
  (RZ:Hid (∀u,Calls Tryz.prog 24 #[.agg #[.int .i64 t1,.int .i64 t2],.int .i64 n] u fun e w'=>e=.returned (.bool false)∧Kept u w'))
  (KI:Hid (∀u r1 r2,Calls Tryz.prog 18 #[.agg #[.int .i64 r1,.int .i64 r2],.int .i64 0,.int .i64 0,.agg #[.int .i64 r1,.int .i64 r2]] u fun e w'=>e=.returned (.bool true)∧Kept u w')):
  Calls Tryz.prog 7 #[.agg #[.int .i64 s1,.int .i64 s2],.agg #[.int .i64 t1,.int .i64 t2],.int .i64 n] w fun e w'=>e=.returned (.bool true)∧Kept w w':=by
 obtain⟨X,hX⟩:∃X,X=(w.alloc (.cells #[.int .i64 s1,.int .i64 s2] 23)).alloc (.cells #[.int .i64 t1,.int .i64 t2] 23):=⟨_,rfl⟩
 have hK:Kept w X:=by rw[hX];exact((qo0 w).alloc _ _).alloc _ _
 have hXs:X.heap.size=w.heap.size+2:=by rw[hX];simp
 have hP0:P2 X (w.heap.size) (.int .i64 s1) (.int .i64 s2):=by
  rw[hX]
  have:=((P2.new (w) (.int .i64 s1) (.int .i64 s2) 23).alloc #[.int .i64 t1,.int .i64 t2] 23)
  simpa using this
 have hP1:P2 X (w.heap.size+1) (.int .i64 t1) (.int .i64 t2):=by
  rw[hX]
  have:=(P2.new (w.alloc (.cells #[.int .i64 s1,.int .i64 s2] 23)) (.int .i64 t1) (.int .i64 t2) 23)
  simpa using this
 obtain⟨B0,hB0⟩:∃B,B=w.heap.size:=⟨_,rfl⟩
 obtain⟨B1,hB1⟩:∃B,B=B0+1:=⟨_,rfl⟩
 rw[←hB0]at hP0
 rw[←hB0,←hB1]at hP1
 have oB:Hid (w.heap.size≤B0∧B0<X.heap.size∧w.heap.size≤B1∧B1<X.heap.size):=(show _∧_∧_∧_ from by omega)
 have oX:Hid (w.heap.size≤X.heap.size):=hK.below.size
 have HC:Hid (∀u,Kept X u→u.cell? ⟨B0,0,none⟩=some (.int .i64 s1)∧u.cell? ⟨B0,1,none⟩=some (.int .i64 s2)∧u.cell? ⟨B1,0,none⟩=some (.int .i64 t1)∧u.cell? ⟨B1,1,none⟩=some (.int .i64 t2)):=fun u k=>⟨(hP0.kept k).c0,(hP0.kept k).c1,(hP1.kept k).c0,(hP1.kept k).c1⟩
 have hth:(th != th)=false:=by cases th<;>rfl
 go_enter Tryz.func7,Tryz.ntmps7
 go_upto_region 1 with fail
 rw[←hX,←hB0,←hB1]
 clear hX hXs hB0 hB1
 obtain⟨c0,c1,c2,c3⟩:=HC.out _ (qo0 X)
 go_wp2_with fail
 refine(KV.out _ _ _ (.inl ⟨rfl,rfl⟩)).mono ?_
 rintro e x1 ⟨rfl,k1⟩
 clear c0 c1 c2 c3
 obtain⟨c0,c1,c2,c3⟩:=HC.out _ k1
 go_wp2_with fail
 refine(KV.out _ _ _ (.inr ⟨rfl,rfl⟩)).mono ?_
 rintro e x2 ⟨rfl,k12⟩
 have k2:=k1.trans k12
 clear c0 c1 c2 c3 k12
 go_upto_region 2 with fail
 go_wp2_with fail
 refine(KF.out _).mono ?_
 rintro e x3 ⟨rfl,k3⟩
 have kU0:=k2.trans k3
 clear k2 k3 KF KV k1
 go_upto_region 3 with fail
 obtain⟨c0,c1,c2,c3⟩:=HC.out _ kU0
 go_wp2_with fail
 refine(KA.out _ (hK.trans kU0)).mono ?_
 rintro e y ⟨rfl,ky⟩
 clear c0 c1 c2 c3 KA
 go_upto_region 4 with fail
 have kq:=((qo0 y).alloc #[.int .i64 pA1,.int .i64 pA2] 23)
 have pq:=P2.new y (.int .i64 pA1) (.int .i64 pA2) 23
 obtain⟨U1,hU⟩:∃Z,Z=y.alloc (.cells #[.int .i64 pA1,.int .i64 pA2] 23):=⟨_,rfl⟩
 rw[←hU]at kq pq
 rw[←hU]
 obtain⟨D1,hD⟩:∃Z,Z=y.heap.size:=⟨_,rfl⟩
 rw[←hD]at pq
 rw[←hD]
 have j1:=ky.trans kq
 have kU1:=kU0.trans j1
 have q1:=pq
 clear hU hD kq pq ky y
 clear j1
 obtain⟨c0,c1,c2,c3⟩:=HC.out _ kU1
 go_wp2_with fail
 refine(KB.out _ (hK.trans kU1)).mono ?_
 rintro e y ⟨rfl,ky⟩
 clear c0 c1 c2 c3 KB
 go_upto_region 5 with fail
 have kq:=((qo0 y).alloc #[.int .i64 pB1,.int .i64 pB2] 23)
 have pq:=P2.new y (.int .i64 pB1) (.int .i64 pB2) 23
 obtain⟨U2,hU⟩:∃Z,Z=y.alloc (.cells #[.int .i64 pB1,.int .i64 pB2] 23):=⟨_,rfl⟩
 rw[←hU]at kq pq
 rw[←hU]
 obtain⟨D2,hD⟩:∃Z,Z=y.heap.size:=⟨_,rfl⟩
 rw[←hD]at pq
 rw[←hD]
 have j2:=ky.trans kq
 have kU2:=kU1.trans j2
 have q2:=pq
 clear hU hD kq pq ky y
 replace q1:=q1.kept j2
 clear j2
 obtain⟨c0,c1,c2,c3⟩:=HC.out _ kU2
 go_wp2_with fail
 refine(KC.out _ (hK.trans kU2)).mono ?_
 rintro e y ⟨rfl,ky⟩
 clear c0 c1 c2 c3 KC
 go_upto_region 6 with fail
 have kq:=((qo0 y).alloc #[.int .i64 pC1,.int .i64 pC2] 23)
 have pq:=P2.new y (.int .i64 pC1) (.int .i64 pC2) 23
 obtain⟨U3,hU⟩:∃Z,Z=y.alloc (.cells #[.int .i64 pC1,.int .i64 pC2] 23):=⟨_,rfl⟩
 rw[←hU]at kq pq
 rw[←hU]
 obtain⟨D3,hD⟩:∃Z,Z=y.heap.size:=⟨_,rfl⟩
 rw[←hD]at pq
 rw[←hD]
 have j3:=ky.trans kq
 have kU3:=kU2.trans j3
 have q3:=pq
 clear hU hD kq pq ky y
 replace q1:=q1.kept j3
 replace q2:=q2.kept j3
 clear j3
 obtain⟨c0,c1,c2,c3⟩:=HC.out _ kU3
 go_wp2_with fail
 refine(KQ.out _ (hK.trans kU3)).mono ?_
 rintro e y ⟨rfl,ky⟩
 clear c0 c1 c2 c3 KQ
 go_upto_region 7 with fail
 have kq:=((qo0 y).alloc #[.int .i64 pQ1,.int .i64 pQ2] 23)
 have pq:=P2.new y (.int .i64 pQ1) (.int .i64 pQ2) 23
 obtain⟨U4,hU⟩:∃Z,Z=y.alloc (.cells #[.int .i64 pQ1,.int .i64 pQ2] 23):=⟨_,rfl⟩
 rw[←hU]at kq pq
 rw[←hU]
 obtain⟨D4,hD⟩:∃Z,Z=y.heap.size:=⟨_,rfl⟩
 rw[←hD]at pq
 rw[←hD]
 have j4:=ky.trans kq
 have kU4:=kU3.trans j4
 have q4:=pq
 clear hU hD kq pq ky y
 replace q1:=q1.kept j4
 replace q2:=q2.kept j4
 replace q3:=q3.kept j4
 clear j4
 obtain⟨c0,c1,c2,c3⟩:=HC.out _ kU4
 go_wp2_with fail
 refine(KD.out _ (hK.trans kU4)).mono ?_
 rintro e y ⟨rfl,ky⟩
 clear c0 c1 c2 c3 KD
 go_upto_region 8 with fail
 have kq:=((qo0 y).alloc #[.int .i64 pD1,.int .i64 pD2] 23)
 have pq:=P2.new y (.int .i64 pD1) (.int .i64 pD2) 23
 obtain⟨U5,hU⟩:∃Z,Z=y.alloc (.cells #[.int .i64 pD1,.int .i64 pD2] 23):=⟨_,rfl⟩
 rw[←hU]at kq pq
 rw[←hU]
 obtain⟨D5,hD⟩:∃Z,Z=y.heap.size:=⟨_,rfl⟩
 rw[←hD]at pq
 rw[←hD]
 have j5:=ky.trans kq
 have kU5:=kU4.trans j5
 have q5:=pq
 clear hU hD kq pq ky y
 replace q1:=q1.kept j5
 replace q2:=q2.kept j5
 replace q3:=q3.kept j5
 replace q4:=q4.kept j5
 clear j5
 obtain⟨c0,c1,c2,c3⟩:=HC.out _ kU5
 go_wp2_with fail
 refine(KN.out _ (hK.trans kU5)).mono ?_
 rintro e y ⟨rfl,ky⟩
 clear c0 c1 c2 c3 KN
 go_upto_region 9 with fail
 have kq:=((qo0 y).alloc #[.int .i64 pN1,.int .i64 pN2] 23)
 have pq:=P2.new y (.int .i64 pN1) (.int .i64 pN2) 23
 obtain⟨U6,hU⟩:∃Z,Z=y.alloc (.cells #[.int .i64 pN1,.int .i64 pN2] 23):=⟨_,rfl⟩
 rw[←hU]at kq pq
 rw[←hU]
 obtain⟨D6,hD⟩:∃Z,Z=y.heap.size:=⟨_,rfl⟩
 rw[←hD]at pq
 rw[←hD]
 have j6:=ky.trans kq
 have kU6:=kU5.trans j6
 have q6:=pq
 clear hU hD kq pq ky y
 replace q1:=q1.kept j6
 replace q2:=q2.kept j6
 replace q3:=q3.kept j6
 replace q4:=q4.kept j6
 replace q5:=q5.kept j6
 clear j6
 go_upto_region 11 with fail
 obtain⟨c0,c1,c2,c3⟩:=HC.out _ kU6
 go_wp2_with fail
 refine(RD.out _).mono ?_
 rintro e y ⟨rfl,ky⟩
 clear c0 c1 c2 c3 RD
 go_upto_region 12 with fail
 have kq:=((qo0 y).alloc #[.int .i64 pD1,.int .i64 pD2] 23)
 have pq:=P2.new y (.int .i64 pD1) (.int .i64 pD2) 23
 obtain⟨U7,hU⟩:∃Z,Z=y.alloc (.cells #[.int .i64 pD1,.int .i64 pD2] 23):=⟨_,rfl⟩
 rw[←hU]at kq pq
 rw[←hU]
 obtain⟨D7,hD⟩:∃Z,Z=y.heap.size:=⟨_,rfl⟩
 rw[←hD]at pq
 rw[←hD]
 have j7:=ky.trans kq
 have kU7:=kU6.trans j7
 have q7:=pq
 clear hU hD kq pq ky y
 replace q1:=q1.kept j7
 replace q2:=q2.kept j7
 replace q3:=q3.kept j7
 replace q4:=q4.kept j7
 replace q5:=q5.kept j7
 replace q6:=q6.kept j7
 clear j7
 have HS:Hid (∀u,Kept U7 u→Kept U7 u∧u.cell? ⟨B0,0,none⟩=some (.int .i64 s1)∧u.cell? ⟨B0,1,none⟩=some (.int .i64 s2)∧u.cell? ⟨B1,0,none⟩=some (.int .i64 t1)∧u.cell? ⟨B1,1,none⟩=some (.int .i64 t2)∧u.cell? ⟨D1,0,none⟩=some (.int .i64 pA1)∧u.cell? ⟨D1,1,none⟩=some (.int .i64 pA2)∧u.cell? ⟨D2,0,none⟩=some (.int .i64 pB1)∧u.cell? ⟨D2,1,none⟩=some (.int .i64 pB2)∧u.cell? ⟨D3,0,none⟩=some (.int .i64 pC1)∧u.cell? ⟨D3,1,none⟩=some (.int .i64 pC2)∧u.cell? ⟨D4,0,none⟩=some (.int .i64 pQ1)∧u.cell? ⟨D4,1,none⟩=some (.int .i64 pQ2)∧u.cell? ⟨D5,0,none⟩=some (.int .i64 pD1)∧u.cell? ⟨D5,1,none⟩=some (.int .i64 pD2)∧u.cell? ⟨D6,0,none⟩=some (.int .i64 pN1)∧u.cell? ⟨D6,1,none⟩=some (.int .i64 pN2)∧u.cell? ⟨D7,0,none⟩=some (.int .i64 pD1)∧u.cell? ⟨D7,1,none⟩=some (.int .i64 pD2)):=fun u k=>⟨k,(HC.out _ (kU7.trans k)).1,(HC.out _ (kU7.trans k)).2.1,(HC.out _ (kU7.trans k)).2.2.1,(HC.out _ (kU7.trans k)).2.2.2,(q1.kept k).c0,(q1.kept k).c1,(q2.kept k).c0,(q2.kept k).c1,(q3.kept k).c0,(q3.kept k).c1,(q4.kept k).c0,(q4.kept k).c1,(q5.kept k).c0,(q5.kept k).c1,(q6.kept k).c0,(q6.kept k).c1,(q7.kept k).c0,(q7.kept k).c1⟩
 clear HC q1 q2 q3 q4 q5 q6 q7
 refine qm [] (fun u=>Kept U7 u∧u.cell? ⟨B0,0,none⟩=some (.int .i64 s1)∧u.cell? ⟨B0,1,none⟩=some (.int .i64 s2)∧u.cell? ⟨B1,0,none⟩=some (.int .i64 t1)∧u.cell? ⟨B1,1,none⟩=some (.int .i64 t2)∧u.cell? ⟨D1,0,none⟩=some (.int .i64 pA1)∧u.cell? ⟨D1,1,none⟩=some (.int .i64 pA2)∧u.cell? ⟨D2,0,none⟩=some (.int .i64 pB1)∧u.cell? ⟨D2,1,none⟩=some (.int .i64 pB2)∧u.cell? ⟨D3,0,none⟩=some (.int .i64 pC1)∧u.cell? ⟨D3,1,none⟩=some (.int .i64 pC2)∧u.cell? ⟨D4,0,none⟩=some (.int .i64 pQ1)∧u.cell? ⟨D4,1,none⟩=some (.int .i64 pQ2)∧u.cell? ⟨D5,0,none⟩=some (.int .i64 pD1)∧u.cell? ⟨D5,1,none⟩=some (.int .i64 pD2)∧u.cell? ⟨D6,0,none⟩=some (.int .i64 pN1)∧u.cell? ⟨D6,1,none⟩=some (.int .i64 pN2)∧u.cell? ⟨D7,0,none⟩=some (.int .i64 pD1)∧u.cell? ⟨D7,1,none⟩=some (.int .i64 pD2)) (by kernel_rfl) (HS.out _ (qo0 U7).drew) (fun hHeld=>?_)
 refine tkD (i:=0) (v:=?_) rfl hHeld ?_
 try simp only[zz]
 refine tkD (i:=1) (v:=?_) rfl hHeld ?_
 try simp only[zz]
 refine tkD (i:=2) (v:=?_) rfl hHeld ?_
 try simp only[zz]
 refine tkD (i:=3) (v:=?_) rfl hHeld ?_
 try simp only[zz]
 refine tkD (i:=4) (v:=?_) rfl hHeld ?_
 try simp only[zz]
 refine qi (i:=5) (by kernel_rfl) rfl (fun K hK9=>?_)
 go_simp
 go_wp2_with fail
 refine(RA.out _).mono ?_
 rintro e u1 ⟨rfl,z1⟩
 refine hK9.out _ _ (HS.out _ (hHeld.1.trans z1)) (fun hH1=>?_)
 clear hK9 K
 try simp only[zz]
 clear hHeld
 refine qi (i:=6) (by kernel_rfl) rfl (fun K hK9=>?_)
 go_simp
 go_wp2_with fail
 refine(KI.out _ _ _).mono ?_
 rintro e u2 ⟨rfl,z2⟩
 refine hK9.out _ _ (HS.out _ (hH1.1.trans z2)) (fun hH2=>?_)
 clear hK9 K
 try simp only[zz]
 clear hH1
 refine tkD (i:=7) (v:=?_) rfl hH2 ?_
 try simp only[zz]
 refine tkD (i:=8) (v:=?_) rfl hH2 ?_
 try simp only[zz]
 refine tkD (i:=9) (v:=?_) rfl hH2 ?_
 try simp only[zz]
 refine tkD (i:=10) (v:=?_) rfl hH2 ?_
 try simp only[zz]
 refine tkD (i:=11) (v:=?_) rfl hH2 ?_
 try simp only[zz]
 refine tkD (i:=12) (v:=?_) rfl hH2 ?_
 try simp only[zz]
 refine tkD (i:=13) (v:=?_) rfl hH2 ?_
 try simp only[zz]
 refine qi (i:=14) (by kernel_rfl) rfl (fun K hK9=>?_)
 go_simp
 go_wp2_with fail
 refine(RB.out _).mono ?_
 rintro e u3 ⟨rfl,z3⟩
 refine hK9.out _ _ (HS.out _ (hH2.1.trans z3)) (fun hH3=>?_)
 clear hK9 K
 try simp only[zz]
 clear hH2
 refine qi (i:=15) (by kernel_rfl) rfl (fun K hK9=>?_)
 go_simp
 go_wp2_with fail
 refine(KI.out _ _ _).mono ?_
 rintro e u4 ⟨rfl,z4⟩
 refine hK9.out _ _ (HS.out _ (hH3.1.trans z4)) (fun hH4=>?_)
 clear hK9 K
 try simp only[zz]
 clear hH3
 refine tkD (i:=16) (v:=?_) rfl hH4 ?_
 try simp only[zz]
 refine tkD (i:=17) (v:=?_) rfl hH4 ?_
 try simp only[zz]
 refine tkD (i:=18) (v:=?_) rfl hH4 ?_
 try simp only[zz]
 refine tkD (i:=19) (v:=?_) rfl hH4 ?_
 try simp only[zz]
 refine tkD (i:=20) (v:=?_) rfl hH4 ?_
 try simp only[zz]
 refine tkD (i:=21) (v:=?_) rfl hH4 ?_
 try simp only[zz]
 refine tkD (i:=22) (v:=?_) rfl hH4 ?_
 try simp only[zz]
 refine tkD (i:=23) (v:=?_) rfl hH4 ?_
 try simp only[zz]
 refine qi (i:=24) (by kernel_rfl) rfl (fun K hK9=>?_)
 go_simp
 go_wp2_with fail
 refine(RC.out _).mono ?_
 rintro e u5 ⟨rfl,z5⟩
 refine hK9.out _ _ (HS.out _ (hH4.1.trans z5)) (fun hH5=>?_)
 clear hK9 K
 try simp only[zz]
 clear hH4
 refine qi (i:=25) (by kernel_rfl) rfl (fun K hK9=>?_)
 go_simp
 go_wp2_with fail
 refine(KI.out _ _ _).mono ?_
 rintro e u6 ⟨rfl,z6⟩
 refine hK9.out _ _ (HS.out _ (hH5.1.trans z6)) (fun hH6=>?_)
 clear hK9 K
 try simp only[zz]
 clear hH5
 refine tkD (i:=26) (v:=?_) rfl hH6 ?_
 try simp only[zz]
 refine tkD (i:=27) (v:=?_) rfl hH6 ?_
 try simp only[zz]
 refine tkD (i:=28) (v:=?_) rfl hH6 ?_
 try simp only[zz]
 refine tkD (i:=29) (v:=?_) rfl hH6 ?_
 try simp only[zz]
 refine tkD (i:=30) (v:=?_) rfl hH6 ?_
 try simp only[zz]
 refine tkD (i:=31) (v:=?_) rfl hH6 ?_
 try simp only[zz]
 refine qi (i:=32) (by kernel_rfl) rfl (fun K hK9=>?_)
 go_simp
 go_wp2_with fail
 refine(KI.out _ _ _).mono ?_
 rintro e u7 ⟨rfl,z7⟩
 refine hK9.out _ _ (HS.out _ (hH6.1.trans z7)) (fun hH7=>?_)
 clear hK9 K
 try simp only[zz]
 clear hH6
 refine tkD (i:=33) (v:=?_) rfl hH7 ?_
 try simp only[zz]
 refine tkD (i:=34) (v:=?_) rfl hH7 ?_
 try simp only[zz]
 refine tkD (i:=35) (v:=?_) rfl hH7 ?_
 try simp only[zz]
 refine tkD (i:=36) (v:=?_) rfl hH7 ?_
 try simp only[zz]
 refine tkD (i:=37) (v:=?_) rfl hH7 ?_
 try simp only[zz]
 refine tkD (i:=38) (v:=?_) rfl hH7 ?_
 try simp only[zz]
 refine tkD (i:=39) (v:=?_) rfl hH7 ?_
 try simp only[zz]
 refine tkD (i:=40) (v:=?_) rfl hH7 ?_
 try simp only[zz]
 refine tkD (i:=41) (v:=?_) rfl hH7 ?_
 try simp only[zz]
 refine tkD (i:=42) (v:=?_) rfl hH7 ?_
 try simp only[zz]
 refine tkD (i:=43) (v:=?_) rfl hH7 ?_
 try simp only[zz]
 refine tkD (i:=44) (v:=?_) rfl hH7 ?_
 try simp only[zz]
 refine tkD (i:=45) (v:=?_) rfl hH7 ?_
 try simp only[zz]
 refine qi (i:=46) (by kernel_rfl) rfl (fun K hK9=>?_)
 go_simp
 go_wp2_with fail
 refine(RN.out _).mono ?_
 rintro e u8 ⟨rfl,z8⟩
 refine hK9.out _ _ (HS.out _ (hH7.1.trans z8)) (fun hH8=>?_)
 clear hK9 K
 try simp only[zz]
 clear hH7
 refine qi (i:=47) (by kernel_rfl) rfl (fun K hK9=>?_)
 go_simp
 go_wp2_with fail
 refine(KI.out _ _ _).mono ?_
 rintro e u9 ⟨rfl,z9⟩
 refine hK9.out _ _ (HS.out _ (hH8.1.trans z9)) (fun hH9=>?_)
 clear hK9 K
 try simp only[zz]
 clear hH8
 refine tkD (i:=48) (v:=?_) rfl hH9 ?_
 try simp only[zz]
 refine tkD (i:=49) (v:=?_) rfl hH9 ?_
 try simp only[zz]
 refine qs (by kernel_rfl) ?_ _
 try simp only[zz]
 have hL:=hH9
 obtain⟨kL,c0,c1,c2,c3,c4,c5,c6,c7,c8,c9,c10,c11,c12,c13,c14,c15,c16,c17⟩:=id hL
 go_wp2_with fail
 refine(RZ.out _).mono ?_
 rintro e y ⟨rfl,ky⟩
 have kY:=kL.trans ky
 clear c0 c1 c2 c3 c4 c5 c6 c7 c8 c9 c10 c11 c12 c13 c14 c15 c16 c17
 clear hL kL
 clear hH9
 go_upto_region 17 with fail
 refine qm [] (fun u=>Kept U7 u∧u.cell? ⟨B0,0,none⟩=some (.int .i64 s1)∧u.cell? ⟨B0,1,none⟩=some (.int .i64 s2)∧u.cell? ⟨B1,0,none⟩=some (.int .i64 t1)∧u.cell? ⟨B1,1,none⟩=some (.int .i64 t2)∧u.cell? ⟨D1,0,none⟩=some (.int .i64 pA1)∧u.cell? ⟨D1,1,none⟩=some (.int .i64 pA2)∧u.cell? ⟨D2,0,none⟩=some (.int .i64 pB1)∧u.cell? ⟨D2,1,none⟩=some (.int .i64 pB2)∧u.cell? ⟨D3,0,none⟩=some (.int .i64 pC1)∧u.cell? ⟨D3,1,none⟩=some (.int .i64 pC2)∧u.cell? ⟨D4,0,none⟩=some (.int .i64 pQ1)∧u.cell? ⟨D4,1,none⟩=some (.int .i64 pQ2)∧u.cell? ⟨D5,0,none⟩=some (.int .i64 pD1)∧u.cell? ⟨D5,1,none⟩=some (.int .i64 pD2)∧u.cell? ⟨D6,0,none⟩=some (.int .i64 pN1)∧u.cell? ⟨D6,1,none⟩=some (.int .i64 pN2)∧u.cell? ⟨D7,0,none⟩=some (.int .i64 pD1)∧u.cell? ⟨D7,1,none⟩=some (.int .i64 pD2)) (by kernel_rfl) (HS.out _ (kY.trans (qo0 y).drew)) (fun hHeld=>?_)
 refine tkD (i:=0) (v:=?_) rfl hHeld ?_
 try simp only[zz]
 refine tkD (i:=1) (v:=?_) rfl hHeld ?_
 try simp only[zz]
 refine tkD (i:=2) (v:=?_) rfl hHeld ?_
 try simp only[zz]
 refine tkD (i:=3) (v:=?_) rfl hHeld ?_
 try simp only[zz]
 refine tkD (i:=4) (v:=?_) rfl hHeld ?_
 try simp only[zz]
 refine qi (i:=5) (by kernel_rfl) rfl (fun K hK9=>?_)
 go_simp
 go_wp2_with fail
 refine(RQ.out _).mono ?_
 rintro e u10 ⟨rfl,z10⟩
 refine hK9.out _ _ (HS.out _ (hHeld.1.trans z10)) (fun hH10=>?_)
 clear hK9 K
 try simp only[zz]
 clear hHeld
 refine qi (i:=6) (by kernel_rfl) rfl (fun K hK9=>?_)
 go_simp
 go_wp2_with fail
 refine(KI.out _ _ _).mono ?_
 rintro e u11 ⟨rfl,z11⟩
 refine hK9.out _ _ (HS.out _ (hH10.1.trans z11)) (fun hH11=>?_)
 clear hK9 K
 try simp only[zz]
 clear hH10
 refine tkD (i:=7) (v:=?_) rfl hH11 ?_
 try simp only[zz]
 refine qs (by kernel_rfl) ?_ _
 try simp only[zz]
 go_wp2_with fail
 go_ret
 exact⟨rfl,hK.trans (kU7.trans hH11.1)⟩
theorem qnv (a1 b1 a2 b2 n:Int):fs5 n (vsp a1 b1 n&&vsp a2 b2 n)=btE a1 b1 a2 b2 n:=by
 unfold fs5 btE opE
 by_cases hn:n=64∨n=32
 ·rw[if_pos hn,if_pos hn,if_pos hn]
  cases vsp a1 b1 n<;>cases vsp a2 b2 n<;>rfl
 ·rw[if_neg hn,if_neg hn,if_neg hn]
  rfl
theorem Y7 (a1 b1 a2 b2 n:Int)(s1:RB a1)(s2:RB b1)(s3:RB a2)(s4:RB b2)(w:World)(hT:Tab w):Calls Tryz.prog 7 #[.agg #[.int .i64 a1,.int .i64 b1],.agg #[.int .i64 a2,.int .i64 b2],.int .i64 n] w fun e w'=>e=.returned (.bool true)∧Kept w w':=by
 by_cases hq:btE a1 b1 a2 b2 n=0
 ·obtain⟨hv1,hv2⟩:=(jP _ _ _ _ _).1 hq
  obtain⟨i1,i2,o1,o2,o3⟩:=zW _ _ _ hv1
  obtain⟨i3,i4,o4,o5,o6⟩:=zW _ _ _ hv2
  obtain⟨A1,A2,hA1,hA2,-,-,KA⟩:=qdi a1 b1 a2 b2 n s1 s2 s3 s4 hv1 hv2
  obtain⟨B1,B2,hB1,hB2,-,-,KB⟩:=qk6 a1 b1 a2 b2 n s1 s2 s3 s4 hv1 hv2
  obtain⟨d0,d1,d2,d3,u0,u1,u2,u3,hd,hu,-,KC⟩:=qdk a1 b1 a2 b2 n s1 s2 s3 s4 hv1 hv2
  have KV:∀(u:World) (x1 x2:Int),(x1=a1∧x2=b1∨x1=a2∧x2=b2)→Calls Tryz.prog 12 #[.agg #[.int .i64 x1,.int .i64 x2],.int .i64 n] u fun e w'=>e=.returned (.bool true)∧Kept u w':=fun u x1 x2 h=>by
   rcases h with ⟨rfl,rfl⟩|⟨rfl,rfl⟩
   ·have:=Zn x1 x2 n s1 s2 u;rw[hv1]at this;exact this
   ·have:=Zn x1 x2 n s3 s4 u;rw[hv2]at this;exact this
  have KF:∀u:World,Calls Tryz.prog 13 #[.int .i64 n,.bool true] u fun e w'=>e=.returned (.int .i64 0)∧Kept u w':=fun u=>by
   have:=qhp n true u
   have e:fs5 n true=0:=by unfold fs5;rw[if_pos (qv _ _ i1)];rfl
   rw[e]at this
   exact this
  obtain⟨M1,M2,th,KM,RM⟩:∃M1 M2 th,(∀u,Calls Tryz.prog 16 #[sp2 a1 b1,sp2 a2 b2,.int .i64 n] u fun e w'=>e=.returned (.tuple #[sp2 M1 M2,.bool th,.int .i64 0])∧Kept u w')∧(∀u,Calls Tryz.prog 19 #[sp2 a1 b1,sp2 a2 b2,.int .i64 n] u fun e w'=>e=.returned (.tuple #[sp2 M1 M2,.bool th])∧Kept u w'):=by
   by_cases hm:max (qc a1 n) (qc a2 n)≤min (qc b1 n) (qc b2 n)
   ·refine⟨pz n (max (qc a1 n) (qc a2 n)),pz n (min (qc b1 n) (qc b2 n)),true,fun u=>?_,fun u=>?_⟩
    ·have:=Jt a1 b1 a2 b2 n s1 s2 s3 s4 u
     rw[if_pos ⟨hq,hm⟩]at this
     exact this
    ·have:=qhu a1 b1 a2 b2 n ⟨s1,i1⟩ ⟨s2,i2⟩ ⟨s3,i3⟩ ⟨s4,i4⟩ u
     rw[if_pos hm]at this
     exact this
   ·refine⟨0,0,false,fun u=>?_,fun u=>?_⟩
    ·have:=Jt a1 b1 a2 b2 n s1 s2 s3 s4 u
     rw[if_neg (fun h=>hm h.2),hq]at this
     exact this
    ·have:=qhu a1 b1 a2 b2 n ⟨s1,i1⟩ ⟨s2,i2⟩ ⟨s3,i3⟩ ⟨s4,i4⟩ u
     rw[if_neg hm]at this
     exact this
  have KN:∀u,Calls Tryz.prog 17 #[sp2 a1 b1,sp2 a2 b2,.int .i64 n] u fun e w'=>e=.returned (.tuple #[sp2 (pz n (min (qc a1 n) (qc a2 n))) (pz n (max (qc b1 n) (qc b2 n))),.int .i64 0])∧Kept u w':=fun u=>by
   have:=XQ a1 b1 a2 b2 n s1 s2 s3 s4 u
   rw[if_pos hq]at this
   exact this
  have RZ:∀u:World,Calls Tryz.prog 24 #[.agg #[.int .i64 a2,.int .i64 b2],.int .i64 n] u fun e w'=>e=.returned (.bool (decide (qc a2 n≤0)&&decide (0≤qc b2 n)))∧Kept u w':=fun u=>qmw a2 b2 n ⟨s3,i3⟩ ⟨s4,i4⟩ u
  by_cases hz:qc a2 n≤0∧0≤qc b2 n
  ·rw[qos hz.1,qos hz.2]at RZ
   exact qe5 a1 b1 a2 b2 n th _ _ _ _ _ _ _ _ _ _ w KV KF (fun u k=>KA u (hT.kept k)) (fun u k=>KB u (hT.kept k)) (fun u k=>KC u (hT.kept k)) (fun u k=>qlh a1 b1 a2 b2 n s1 s2 s3 s4 hv1 hv2 hz u) (fun u k=>KM u) (fun u k=>KN u)
    (fun u=>qbo a1 b1 a2 b2 n A1 A2 ⟨s1,i1⟩ ⟨s2,i2⟩ ⟨s3,i3⟩ ⟨s4,i4⟩ hA1 hA2 u) (fun u=>qc1 a1 b1 a2 b2 n B1 B2 ⟨s1,i1⟩ ⟨s2,i2⟩ ⟨s3,i3⟩ ⟨s4,i4⟩ hB1 hB2 u) (fun u=>qc2 a1 b1 a2 b2 n d0 d1 d2 d3 u0 u1 u2 u3 ⟨s1,i1⟩ ⟨s2,i2⟩ ⟨s3,i3⟩ ⟨s4,i4⟩ hd hu u) (fun u=>qht a1 b1 a2 b2 n ⟨s1,i1⟩ ⟨s2,i2⟩ ⟨s3,i3⟩ ⟨s4,i4⟩ u) RM RZ (fun u r1 r2=>qhq r1 r2 u) (fun u=>qcz 8 (by decide) a1 b1 u)
  ·have ez:(decide (qc a2 n≤0)&&decide (0≤qc b2 n))=false:=by
    rw[←Bool.not_eq_true,Bool.and_eq_true,qor,qor];exact hz
   rw[ez]at RZ
   obtain⟨q0,q1,q2,q3,r0,r1,r2,r3,hqd,hqu,-,KQ⟩:=qlg a1 b1 a2 b2 n s1 s2 s3 s4 hv1 hv2 hz
   exact qe6 a1 b1 a2 b2 n th _ _ _ _ _ _ _ _ _ _ _ _ w KV KF (fun u k=>KA u (hT.kept k)) (fun u k=>KB u (hT.kept k)) (fun u k=>KC u (hT.kept k)) (fun u k=>KQ u (hT.kept k)) (fun u k=>KM u) (fun u k=>KN u)
    (fun u=>qbo a1 b1 a2 b2 n A1 A2 ⟨s1,i1⟩ ⟨s2,i2⟩ ⟨s3,i3⟩ ⟨s4,i4⟩ hA1 hA2 u) (fun u=>qc1 a1 b1 a2 b2 n B1 B2 ⟨s1,i1⟩ ⟨s2,i2⟩ ⟨s3,i3⟩ ⟨s4,i4⟩ hB1 hB2 u) (fun u=>qc2 a1 b1 a2 b2 n d0 d1 d2 d3 u0 u1 u2 u3 ⟨s1,i1⟩ ⟨s2,i2⟩ ⟨s3,i3⟩ ⟨s4,i4⟩ hd hu u) (fun u=>qht a1 b1 a2 b2 n ⟨s1,i1⟩ ⟨s2,i2⟩ ⟨s3,i3⟩ ⟨s4,i4⟩ u)
    (fun u=>qoa a1 b1 a2 b2 n q0 q1 q2 q3 r0 r1 r2 r3 ⟨s1,i1⟩ ⟨s2,i2⟩ ⟨s3,i3⟩ ⟨s4,i4⟩ (by omega) (by omega) hqd hqu u) RM RZ (fun u r1 r2=>qhq r1 r2 u)
 ·refine qkv a1 b1 a2 b2 n (btE a1 b1 a2 b2 n) (vsp a1 b1 n) (vsp a2 b2 n) (by simpa using hq) w (fun u x1 x2 r h=>?_) (fun u=>?_) (fun u k=>qko a1 b1 a2 b2 n s1 s2 s3 s4 hq u (hT.kept k)) (fun u k=>qkp a1 b1 a2 b2 n s1 s2 s3 s4 hq u (hT.kept k)) (fun u k=>qkq a1 b1 a2 b2 n s1 s2 s3 s4 hq u) (fun u k=>qhx a1 b1 a2 b2 n s1 s2 s3 s4 hq u) (fun u k=>?_) (fun u k=>?_) (fun u=>qcz _ (by simpa using hq) a1 b1 u)
  ·rcases h with ⟨rfl,rfl,rfl⟩|⟨rfl,rfl,rfl⟩
   ·exact Zn _ _ n s1 s2 u
   ·exact Zn _ _ n s3 s4 u
  ·have:=qhp n (vsp a1 b1 n&&vsp a2 b2 n) u
   rw[qnv]at this
   exact this
  ·have:=Jt a1 b1 a2 b2 n s1 s2 s3 s4 u
   rw[if_neg (fun h=>hq h.1)]at this
   exact this
  ·have:=XQ a1 b1 a2 b2 n s1 s2 s3 s4 u
   rw[if_neg hq]at this
   exact this
theorem spanTwos_true (w:World)(hT:Tab w)(a1 b1 a2 b2 n:Int)(s1:RB a1)(s2:RB b1)(s3:RB a2)(s4:RB b2):Calls Tryz.prog 3 #[.agg #[.int .i64 a1,.int .i64 b1],.agg #[.int .i64 a2,.int .i64 b2],.int .i64 n] w fun e w'=>e=.returned (.bool true)∧Kept w w':=by
 obtain⟨X,hX⟩:∃X,X=(w.alloc (.cells #[.int .i64 a1,.int .i64 b1] 23)).alloc (.cells #[.int .i64 a2,.int .i64 b2] 23):=⟨_,rfl⟩
 have hK:Kept w X:=by rw[hX];exact((qo0 w).alloc _ _).alloc _ _
 have hXs:X.heap.size=w.heap.size+2:=by rw[hX];simp
 have hP0:P2 X (w.heap.size) (.int .i64 a1) (.int .i64 b1):=by
  rw[hX]
  have:=((P2.new (w) (.int .i64 a1) (.int .i64 b1) 23).alloc #[.int .i64 a2,.int .i64 b2] 23)
  simpa using this
 have hP1:P2 X (w.heap.size+1) (.int .i64 a2) (.int .i64 b2):=by
  rw[hX]
  have:=(P2.new (w.alloc (.cells #[.int .i64 a1,.int .i64 b1] 23)) (.int .i64 a2) (.int .i64 b2) 23)
  simpa using this
 obtain⟨B0,hB0⟩:∃B,B=w.heap.size:=⟨_,rfl⟩
 obtain⟨B1,hB1⟩:∃B,B=B0+1:=⟨_,rfl⟩
 rw[←hB0]at hP0
 rw[←hB0,←hB1]at hP1
 have oB:Hid (w.heap.size≤B0∧B0<X.heap.size∧w.heap.size≤B1∧B1<X.heap.size):=(show _∧_∧_∧_ from by omega)
 have oX:Hid (w.heap.size≤X.heap.size):=hK.below.size
 have HC:Hid (∀u,Kept X u→u.cell? ⟨B0,0,none⟩=some (.int .i64 a1)∧u.cell? ⟨B0,1,none⟩=some (.int .i64 b1)∧u.cell? ⟨B1,0,none⟩=some (.int .i64 a2)∧u.cell? ⟨B1,1,none⟩=some (.int .i64 b2)):=fun u k=>⟨(hP0.kept k).c0,(hP0.kept k).c1,(hP1.kept k).c0,(hP1.kept k).c1⟩
 have HT:Hid (Tab w):=hT
 have K1:Hid (∀u,Kept w u→Calls Tryz.prog 7 #[.agg #[.int .i64 a1,.int .i64 b1],.agg #[.int .i64 a2,.int .i64 b2],.int .i64 n] u fun e w'=>e=.returned (.bool true)∧Kept u w'):=fun u k=>Y7 a1 b1 a2 b2 n s1 s2 s3 s4 u (hT.kept k)
 have K2:Hid (∀u,Kept w u→Calls Tryz.prog 7 #[.agg #[.int .i64 a2,.int .i64 b2],.agg #[.int .i64 a1,.int .i64 b1],.int .i64 n] u fun e w'=>e=.returned (.bool true)∧Kept u w'):=fun u k=>Y7 a2 b2 a1 b1 n s3 s4 s1 s2 u (hT.kept k)
 have KA:Hid (∀u,Kept w u→Calls Tryz.prog 6 #[] u fun e w'=>e=.returned (.bool true)∧Kept u w'):=fun u k=>qm9 u (hT.kept k)
 clear hT s1 s2 s3 s4
 go_enter Tryz.func3,Tryz.ntmps3
 go_upto_region 1 with fail
 rw[←hX,←hB0,←hB1]
 clear hX hXs hB0 hB1
 go_wp2_with fail
 refine(KA.out _ hK).mono ?_
 rintro e x1 ⟨rfl,k1⟩
 obtain⟨c0,c1,c2,c3⟩:=HC.out _ k1
 go_wp2_with fail
 refine(K1.out _ (hK.trans k1)).mono ?_
 rintro e x2 ⟨rfl,k2⟩
 clear c0 c1 c2 c3
 obtain⟨c0,c1,c2,c3⟩:=HC.out _ (k1.trans k2)
 go_wp2_with fail
 refine(K2.out _ (hK.trans (k1.trans k2))).mono ?_
 rintro e x3 ⟨rfl,k3⟩
 go_wp2_with fail
 go_ret
 exact⟨rfl,hK.trans (k1.trans (k2.trans k3))⟩
end Go.Proofs.YtaglkncdedeipaaGreatDoor
namespace Go.Proofs.YtaglkncdedeipaaGreatDoor
open Go.ChangeShapes Go.WideShapes Go.ChangeAt Go.RowKit Go.Joins
set_option linter.unusedVariables false
set_option linter.unusedSimpArgs false
set_option maxHeartbeats 16000000
set_option maxRecDepth 100000
theorem qgt:laidOutB Tryz.prog=true:=by kernel_rfl
theorem qgu (n:Int)(h:(Lit.int .i64 n).wf=true):-9223372036854775808≤n∧n≤9223372036854775807:=by
 have e1:IntKind.i64.min=-9223372036854775808:=rfl
 have e2:IntKind.i64.max=9223372036854775807:=rfl
 simp[Lit.wf]at h
 omega
section
variable {H:Type} {enc:TypeId×Value→H} {W:World}
theorem yZ {W':World}{sp:Nat→Bool}:∀{ts:List TypeId} {vs:List Value} {ds:List (DataW H)} {p:List MemPlace},(∀t∈ts,Tryz.prog.readableRec t=true∧t<Tryz.prog.types.size)→DataW.TrodAll enc Tryz.prog W 0 (fun _=>true) true ts vs ds p→(∀x∈p,W.sameAt W' x)→(∀x∈p,sp x.block=true)→DataW.TrodAll enc Tryz.prog W' 0 sp true ts vs ds p
 |[],_,_,_,_,h,_,_=>by
  obtain⟨rfl,rfl,rfl⟩:=trodAll_nil h
  exact trodAll_mk0
 |t::ts,_,_,_,hr,h,hs,hp=>by
  obtain⟨v,vs1,d,ds1,a,b,rfl,rfl,rfl,h1,h2⟩:=trodAll_cons h
  obtain⟨r1,r2⟩:=hr t (by simp)
  exact trodAll_cons_mk (WideElems.Trod_stays qgt r1 r2 h1 (fun x hx=>hs x (by simp[hx])) (fun x hx=>hp x (by simp[hx]))) (yZ (fun t' ht'=>hr t' (by simp[ht'])) h2 (fun x hx=>hs x (by simp[hx])) (fun x hx=>hp x (by simp[hx])))
end
theorem qbb:Tryz.prog.cellsOf 23=2:=by kernel_rfl
section
variable {H:Type} {enc:TypeId×Value→H} {W:World}
theorem Xk {b0:Nat}{v:Value}{d:DataW H}{p:List MemPlace}(hv:Value.okWide Tryz.prog W .any b0 23 v)(h:DataW.Trod enc Tryz.prog W 0 (fun _=>true) true 23 v d p):
  ∃(a b:Int),v=.agg #[.int .i64 a,.int .i64 b]∧(-9223372036854775808≤a∧a≤9223372036854775807)∧(-9223372036854775808≤b∧b≤9223372036854775807):=by
 obtain⟨v0,v1,y0,y1,n,rfl,-,-,h0,h1⟩:=open_agg2 Tryz.underlying23 (by kernel_rfl) qbb hv h
 obtain⟨a,e0,-,wa⟩:=DataW.trod_int Tryz.underlying3 h0
 obtain⟨b,e1,-,wb⟩:=DataW.trod_int Tryz.underlying3 h1
 simp only[List.cons.injEq,and_true]at e0 e1
 subst e0 e1
 exact⟨a,b,rfl,qgu a wa,qgu b wb⟩
end
end Go.Proofs.YtaglkncdedeipaaGreatDoor
