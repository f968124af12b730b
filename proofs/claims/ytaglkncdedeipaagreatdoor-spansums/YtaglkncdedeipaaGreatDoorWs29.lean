/-  -/
import Derived.Test.YtaglkncdedeipaaGreatDoorWs28
import Derived.Test.YtaglkncdedeipaaGreatDoorWs06
namespace Go.Proofs.YtaglkncdedeipaaGreatDoor
open Go.ChangeShapes Go.WideShapes Go.ChangeAt Go.RowKit
set_option linter.unusedVariables false
set_option linter.unusedSimpArgs false
set_option maxHeartbeats 16000000
set_option maxRecDepth 100000
theorem YN (i1:Int)(n1:Bool)(a1:Option Addr)(l1 c1:Nat)(x1:Int)(m1:Bool)(b1:Option Addr)(k1 d1:Nat)(y1:Int)(i2:Int)(n2:Bool)(a2:Option Addr)(l2 c2:Nat)(x2:Int)(m2:Bool)(b2:Option Addr)(k2 d2:Nat)(y2:Int)(hne:(i1 != i2)=true)(G:Int)(hG:G=if i1<i2 then -1 else 1)(w:World):
  Calls Tryz.prog 53 #[env i1 n1 a1 l1 c1 x1 m1 b1 k1 d1 y1,env i2 n2 a2 l2 c2 x2 m2 b2 k2 d2 y2] w fun e w'=>e=.returned (.int .i64 G)∧Kept w w':=by
 obtain⟨X,hX⟩:∃X,X=(w.alloc (.cells #[.int .i64 i1,.bool n1,.slice a1 l1 c1,.int .i64 x1,.bool m1,.slice b1 k1 d1,.int .i64 y1] 77)).alloc (.cells #[.int .i64 i2,.bool n2,.slice a2 l2 c2,.int .i64 x2,.bool m2,.slice b2 k2 d2,.int .i64 y2] 77):=⟨_,rfl⟩
 have hK:Kept w X:=by rw[hX];exact((qia w).alloc _ _).alloc _ _
 have hXs:X.heap.size=w.heap.size+2:=by rw[hX];simp
 have hP0:P7 X (w.heap.size) (.int .i64 i1) (.bool n1) (.slice a1 l1 c1) (.int .i64 x1) (.bool m1) (.slice b1 k1 d1) (.int .i64 y1):=by
  rw[hX]
  have:=((P7.new (w) (.int .i64 i1) (.bool n1) (.slice a1 l1 c1) (.int .i64 x1) (.bool m1) (.slice b1 k1 d1) (.int .i64 y1) 77).alloc #[.int .i64 i2,.bool n2,.slice a2 l2 c2,.int .i64 x2,.bool m2,.slice b2 k2 d2,.int .i64 y2] 77)
  simpa using this
 have hP1:P7 X (w.heap.size+1) (.int .i64 i2) (.bool n2) (.slice a2 l2 c2) (.int .i64 x2) (.bool m2) (.slice b2 k2 d2) (.int .i64 y2):=by
  rw[hX]
  have:=(P7.new (w.alloc (.cells #[.int .i64 i1,.bool n1,.slice a1 l1 c1,.int .i64 x1,.bool m1,.slice b1 k1 d1,.int .i64 y1] 77)) (.int .i64 i2) (.bool n2) (.slice a2 l2 c2) (.int .i64 x2) (.bool m2) (.slice b2 k2 d2) (.int .i64 y2) 77)
  simpa using this
 obtain⟨B0,hB0⟩:∃B,B=w.heap.size:=⟨_,rfl⟩
 obtain⟨B1,hB1⟩:∃B,B=B0+1:=⟨_,rfl⟩
 rw[←hB0]at hP0
 rw[←hB0,←hB1]at hP1
 have oB:Hid (w.heap.size≤B0∧B0<X.heap.size∧w.heap.size≤B1∧B1<X.heap.size):=(show _∧_∧_∧_ from by omega)
 have oX:Hid (w.heap.size≤X.heap.size):=hK.below.size
 go_enter Tryz.func53,Tryz.ntmps53
 go_upto_region 1 with fail
 rw[←hX,←hB0,←hB1]
 clear hX hXs hB0 hB1
 obtain⟨p0,p1,p2,p3,p4,p5,p6,pf⟩:=hP0
 obtain⟨q0,q1,q2,q3,q4,q5,q6,qf⟩:=hP1
 by_cases hl:i1<i2
 ·rw[if_pos hl]at hG
  subst hG
  have hd:decide (i1<i2)=true:=qh2 hl
  go_wp2_with fail
  go_ret
  exact⟨rfl,hK⟩
 ·rw[if_neg hl]at hG
  subst hG
  have hd:decide (i1<i2)=false:=qh3 hl
  go_wp2_with fail
  go_ret
  exact⟨rfl,hK⟩
theorem XZ (n1:Bool)(a1:Option Addr)(l1 c1:Nat)(x1:Int)(m1:Bool)(b1:Option Addr)(k1 d1:Nat)(y1:Int)(n2:Bool)(a2:Option Addr)(l2 c2:Nat)(x2:Int)(m2:Bool)(b2:Option Addr)(k2 d2:Nat)(y2:Int)(i:Int)(hne:(i != 0)=true)(w:World):
  Calls Tryz.prog 53 #[env i n1 a1 l1 c1 x1 m1 b1 k1 d1 y1,env i n2 a2 l2 c2 x2 m2 b2 k2 d2 y2] w fun e w'=>e=.returned (.int .i64 0)∧Kept w w':=by
 obtain⟨X,hX⟩:∃X,X=(w.alloc (.cells #[.int .i64 i,.bool n1,.slice a1 l1 c1,.int .i64 x1,.bool m1,.slice b1 k1 d1,.int .i64 y1] 77)).alloc (.cells #[.int .i64 i,.bool n2,.slice a2 l2 c2,.int .i64 x2,.bool m2,.slice b2 k2 d2,.int .i64 y2] 77):=⟨_,rfl⟩
 have hK:Kept w X:=by rw[hX];exact((qia w).alloc _ _).alloc _ _
 have hXs:X.heap.size=w.heap.size+2:=by rw[hX];simp
 have hP0:P7 X (w.heap.size) (.int .i64 i) (.bool n1) (.slice a1 l1 c1) (.int .i64 x1) (.bool m1) (.slice b1 k1 d1) (.int .i64 y1):=by
  rw[hX]
  have:=((P7.new (w) (.int .i64 i) (.bool n1) (.slice a1 l1 c1) (.int .i64 x1) (.bool m1) (.slice b1 k1 d1) (.int .i64 y1) 77).alloc #[.int .i64 i,.bool n2,.slice a2 l2 c2,.int .i64 x2,.bool m2,.slice b2 k2 d2,.int .i64 y2] 77)
  simpa using this
 have hP1:P7 X (w.heap.size+1) (.int .i64 i) (.bool n2) (.slice a2 l2 c2) (.int .i64 x2) (.bool m2) (.slice b2 k2 d2) (.int .i64 y2):=by
  rw[hX]
  have:=(P7.new (w.alloc (.cells #[.int .i64 i,.bool n1,.slice a1 l1 c1,.int .i64 x1,.bool m1,.slice b1 k1 d1,.int .i64 y1] 77)) (.int .i64 i) (.bool n2) (.slice a2 l2 c2) (.int .i64 x2) (.bool m2) (.slice b2 k2 d2) (.int .i64 y2) 77)
  simpa using this
 obtain⟨B0,hB0⟩:∃B,B=w.heap.size:=⟨_,rfl⟩
 obtain⟨B1,hB1⟩:∃B,B=B0+1:=⟨_,rfl⟩
 rw[←hB0]at hP0
 rw[←hB0,←hB1]at hP1
 have oB:Hid (w.heap.size≤B0∧B0<X.heap.size∧w.heap.size≤B1∧B1<X.heap.size):=(show _∧_∧_∧_ from by omega)
 have oX:Hid (w.heap.size≤X.heap.size):=hK.below.size
 have hii:(i != i)=false:=by simp
 go_enter Tryz.func53,Tryz.ntmps53
 go_upto_region 1 with fail
 rw[←hX,←hB0,←hB1]
 clear hX hXs hB0 hB1
 obtain⟨p0,p1,p2,p3,p4,p5,p6,pf⟩:=hP0
 obtain⟨q0,q1,q2,q3,q4,q5,q6,qf⟩:=hP1
 go_wp2_with fail
 go_ret
 exact⟨rfl,hK⟩
theorem X4 (n1:Bool)(a1:Option Addr)(l1 c1:Nat)(x1:Int)(m1:Bool)(b1:Option Addr)(k1 d1:Nat)(y1:Int)(n2:Bool)(a2:Option Addr)(l2 c2:Nat)(x2:Int)(m2:Bool)(b2:Option Addr)(k2 d2:Nat)(y2:Int)(G:Int)(T1 T2:World→Value→Prop)(w:World)
  (s1:Hid (∀u u' v,T1 u v→Kept u u'→T1 u' v))
  (K1:Hid (∀u,Kept w u→Calls Tryz.prog 91 #[.agg #[.bool n1,.slice a1 l1 c1,.int .i64 x1],.agg #[.bool m2,.slice b2 k2 d2,.int .i64 y2]] u fun e w'=>∃v,e=.returned v∧T1 w' v∧Kept u w'))
  (K2:Hid (∀u,Kept w u→Calls Tryz.prog 91 #[.agg #[.bool n2,.slice a2 l2 c2,.int .i64 x2],.agg #[.bool m1,.slice b1 k1 d1,.int .i64 y1]] u fun e w'=>∃v,e=.returned v∧T2 w' v∧Kept u w'))
  (KO:Hid (∀u v1 v2,T1 u v1→T2 u v2→Calls Tryz.prog 90 #[v1,v2] u fun e w'=>e=.returned (.int .i64 G)∧Kept u w')):
  Calls Tryz.prog 53 #[env 0 n1 a1 l1 c1 x1 m1 b1 k1 d1 y1,env 0 n2 a2 l2 c2 x2 m2 b2 k2 d2 y2] w fun e w'=>e=.returned (.int .i64 G)∧Kept w w':=by
 obtain⟨X,hX⟩:∃X,X=(w.alloc (.cells #[.int .i64 0,.bool n1,.slice a1 l1 c1,.int .i64 x1,.bool m1,.slice b1 k1 d1,.int .i64 y1] 77)).alloc (.cells #[.int .i64 0,.bool n2,.slice a2 l2 c2,.int .i64 x2,.bool m2,.slice b2 k2 d2,.int .i64 y2] 77):=⟨_,rfl⟩
 have hK:Kept w X:=by rw[hX];exact((qia w).alloc _ _).alloc _ _
 have hXs:X.heap.size=w.heap.size+2:=by rw[hX];simp
 have hP0:P7 X (w.heap.size) (.int .i64 0) (.bool n1) (.slice a1 l1 c1) (.int .i64 x1) (.bool m1) (.slice b1 k1 d1) (.int .i64 y1):=by
  rw[hX]
  have:=((P7.new (w) (.int .i64 0) (.bool n1) (.slice a1 l1 c1) (.int .i64 x1) (.bool m1) (.slice b1 k1 d1) (.int .i64 y1) 77).alloc #[.int .i64 0,.bool n2,.slice a2 l2 c2,.int .i64 x2,.bool m2,.slice b2 k2 d2,.int .i64 y2] 77)
  simpa using this
 have hP1:P7 X (w.heap.size+1) (.int .i64 0) (.bool n2) (.slice a2 l2 c2) (.int .i64 x2) (.bool m2) (.slice b2 k2 d2) (.int .i64 y2):=by
  rw[hX]
  have:=(P7.new (w.alloc (.cells #[.int .i64 0,.bool n1,.slice a1 l1 c1,.int .i64 x1,.bool m1,.slice b1 k1 d1,.int .i64 y1] 77)) (.int .i64 0) (.bool n2) (.slice a2 l2 c2) (.int .i64 x2) (.bool m2) (.slice b2 k2 d2) (.int .i64 y2) 77)
  simpa using this
 obtain⟨B0,hB0⟩:∃B,B=w.heap.size:=⟨_,rfl⟩
 obtain⟨B1,hB1⟩:∃B,B=B0+1:=⟨_,rfl⟩
 rw[←hB0]at hP0
 rw[←hB0,←hB1]at hP1
 have oB:Hid (w.heap.size≤B0∧B0<X.heap.size∧w.heap.size≤B1∧B1<X.heap.size):=(show _∧_∧_∧_ from by omega)
 have oX:Hid (w.heap.size≤X.heap.size):=hK.below.size
 have HS:Hid (∀u,Kept X u→Kept X u∧u.cell? ⟨B0,1,none⟩=some (.bool n1)∧u.cell? ⟨B0,2,none⟩=some (.slice a1 l1 c1)∧u.cell? ⟨B0,3,none⟩=some (.int .i64 x1)∧u.cell? ⟨B0,4,none⟩=some (.bool m1)∧u.cell? ⟨B0,5,none⟩=some (.slice b1 k1 d1)∧u.cell? ⟨B0,6,none⟩=some (.int .i64 y1)∧u.cell? ⟨B1,1,none⟩=some (.bool n2)∧u.cell? ⟨B1,2,none⟩=some (.slice a2 l2 c2)∧u.cell? ⟨B1,3,none⟩=some (.int .i64 x2)∧u.cell? ⟨B1,4,none⟩=some (.bool m2)∧u.cell? ⟨B1,5,none⟩=some (.slice b2 k2 d2)∧u.cell? ⟨B1,6,none⟩=some (.int .i64 y2)):=fun u k=>⟨k,(hP0.kept k).c1,(hP0.kept k).c2,(hP0.kept k).c3,(hP0.kept k).c4,(hP0.kept k).c5,(hP0.kept k).c6,(hP1.kept k).c1,(hP1.kept k).c2,(hP1.kept k).c3,(hP1.kept k).c4,(hP1.kept k).c5,(hP1.kept k).c6⟩
 go_enter Tryz.func53,Tryz.ntmps53
 go_upto_region 1 with fail
 rw[←hX,←hB0,←hB1]
 clear hX hXs hB0 hB1
 obtain⟨p0,p1,p2,p3,p4,p5,p6,pf⟩:=hP0
 obtain⟨q0,q1,q2,q3,q4,q5,q6,qf⟩:=hP1
 go_upto_region 7 with fail
 clear p0 p1 p2 p3 p4 p5 p6 pf q0 q1 q2 q3 q4 q5 q6 qf
 refine qZ [] (fun u=>Kept X u∧u.cell? ⟨B0,1,none⟩=some (.bool n1)∧u.cell? ⟨B0,2,none⟩=some (.slice a1 l1 c1)∧u.cell? ⟨B0,3,none⟩=some (.int .i64 x1)∧u.cell? ⟨B0,4,none⟩=some (.bool m1)∧u.cell? ⟨B0,5,none⟩=some (.slice b1 k1 d1)∧u.cell? ⟨B0,6,none⟩=some (.int .i64 y1)∧u.cell? ⟨B1,1,none⟩=some (.bool n2)∧u.cell? ⟨B1,2,none⟩=some (.slice a2 l2 c2)∧u.cell? ⟨B1,3,none⟩=some (.int .i64 x2)∧u.cell? ⟨B1,4,none⟩=some (.bool m2)∧u.cell? ⟨B1,5,none⟩=some (.slice b2 k2 d2)∧u.cell? ⟨B1,6,none⟩=some (.int .i64 y2)) (by kernel_rfl) (HS.out _ (qia X).drew) (fun hHeld=>?_)
 refine tkD (i:=0) (v:=?_) rfl hHeld ?_
 try simp only[zz]
 refine tkD (i:=1) (v:=?_) rfl hHeld ?_
 try simp only[zz]
 refine tkD (i:=2) (v:=?_) rfl hHeld ?_
 try simp only[zz]
 refine tkD (i:=3) (v:=?_) rfl hHeld ?_
 try simp only[zz]
 refine tkD (i:=5) (v:=?_) rfl hHeld ?_
 try simp only[zz]
 refine tkD (i:=6) (v:=?_) rfl hHeld ?_
 try simp only[zz]
 refine tkD (i:=7) (v:=?_) rfl hHeld ?_
 try simp only[zz]
 refine tkD (i:=8) (v:=?_) rfl hHeld ?_
 try simp only[zz]
 refine qN (i:=4) (by kernel_rfl) rfl (fun K hK9=>?_)
 go_simp
 go_wp2_with fail
 refine(K1.out _ (hK.trans hHeld.1)).mono ?_
 rintro e u1 ⟨v1,rfl,t1,k1⟩
 refine hK9.out _ _ (HS.out _ (hHeld.1.trans k1)) (fun hH1=>?_)
 clear hK9 K
 try simp only[zz]
 refine qN (i:=9) (by kernel_rfl) rfl (fun K hK9=>?_)
 go_simp
 go_wp2_with fail
 refine(K2.out _ (hK.trans hH1.1)).mono ?_
 rintro e u2 ⟨v2,rfl,t2,k2⟩
 refine hK9.out _ _ (HS.out _ (hH1.1.trans k2)) (fun hH2=>?_)
 clear hK9 K
 try simp only[zz]
 refine qN (i:=10) (by kernel_rfl) rfl (fun K hK9=>?_)
 go_simp
 go_wp2_with fail
 refine(KO.out _ _ _ (s1.out _ _ _ t1 k2) t2).mono ?_
 rintro e u3 ⟨rfl,k3⟩
 refine hK9.out _ _ (HS.out _ (hH2.1.trans k3)) (fun hH3=>?_)
 clear hK9 K
 try simp only[zz]
 refine tkD (i:=11) (v:=?_) rfl hH3 ?_
 try simp only[zz]
 refine zY (by kernel_rfl) ?_ _
 try simp only[zz]
 go_wp2_with fail
 go_ret
 exact⟨rfl,hK.trans hH3.1⟩
theorem qdr (n way:Int)(n1:Bool)(a1:Option Addr)(l1 c1:Nat)(x1:Int)(m1:Bool)(b1:Option Addr)(k1 d1:Nat)(y1:Int)(e0 e1 e2 e3 e4 e5 e6 e7 e8:Int)(w:World)
  (KO:Hid (∀u,Calls Tryz.prog 86 #[.int .i64 n] u fun e w'=>e=.returned (.tuple #[.agg #[.int .i64 e0,.int .i64 e1,.int .i64 e2,.int .i64 e3,.int .i64 e4,.int .i64 e5,.int .i64 e6,.int .i64 e7,.int .i64 e8],.bool true])∧Kept u w')):
  Calls Tryz.prog 93 #[env 1 n1 a1 l1 c1 x1 m1 b1 k1 d1 y1,.int .i64 n,.int .i64 way] w fun e w'=>e=.returned (.int .i64 e6)∧Kept w w':=by
 obtain⟨X,hX⟩:∃X,X=w.alloc (.cells #[.int .i64 1,.bool n1,.slice a1 l1 c1,.int .i64 x1,.bool m1,.slice b1 k1 d1,.int .i64 y1] 77):=⟨_,rfl⟩
 have hK:Kept w X:=by rw[hX];exact(qia w).alloc _ _
 have hXs:X.heap.size=w.heap.size+1:=by rw[hX];simp
 have hP0:P7 X (w.heap.size) (.int .i64 1) (.bool n1) (.slice a1 l1 c1) (.int .i64 x1) (.bool m1) (.slice b1 k1 d1) (.int .i64 y1):=by
  rw[hX]
  have:=(P7.new (w) (.int .i64 1) (.bool n1) (.slice a1 l1 c1) (.int .i64 x1) (.bool m1) (.slice b1 k1 d1) (.int .i64 y1) 77)
  simpa using this
 obtain⟨B0,hB0⟩:∃B,B=w.heap.size:=⟨_,rfl⟩
 rw[←hB0]at hP0
 have oB:Hid (w.heap.size≤B0∧B0<X.heap.size):=(show _∧_ from by omega)
 have oX:Hid (w.heap.size≤X.heap.size):=hK.below.size
 go_enter Tryz.func93,Tryz.ntmps93
 go_upto_region 1 with fail
 rw[←hX,←hB0]
 clear hX hXs hB0
 obtain⟨p0,p1,p2,p3,p4,p5,p6,pf⟩:=hP0.kept (qia X)
 go_upto_region 2 with (first|(go_at_call 86;refine(KO.out _).mono ?_;rintro e w1 ⟨rfl,k1⟩))
 clear p0 p1 p2 p3 p4 p5 p6 pf
 have hcl:=fun o=>qg (qia (w1.alloc (.cells #[.int .i64 e0,.int .i64 e1,.int .i64 e2,.int .i64 e3,.int .i64 e4,.int .i64 e5,.int .i64 e6,.int .i64 e7,.int .i64 e8] 116))) o
 have k1':=k1.alloc #[.int .i64 e0,.int .i64 e1,.int .i64 e2,.int .i64 e3,.int .i64 e4,.int .i64 e5,.int .i64 e6,.int .i64 e7,.int .i64 e8] 116
 obtain⟨p0,p1,p2,p3,p4,p5,p6,pf⟩:=hP0.kept k1'
 go_wp2_with fail
 go_ret
 exact⟨rfl,hK.trans k1'⟩
theorem qds (n way:Int)(n1:Bool)(a1:Option Addr)(l1 c1:Nat)(x1:Int)(m1:Bool)(b1:Option Addr)(k1 d1:Nat)(y1:Int)(e0 e1 e2 e3 e4 e5 e6 e7 e8:Int)(z:Int)(hz:IntKind.i64.wrap (e6+e7)=z)(w:World)
  (KO:Hid (∀u,Calls Tryz.prog 86 #[.int .i64 n] u fun e w'=>e=.returned (.tuple #[.agg #[.int .i64 e0,.int .i64 e1,.int .i64 e2,.int .i64 e3,.int .i64 e4,.int .i64 e5,.int .i64 e6,.int .i64 e7,.int .i64 e8],.bool true])∧Kept u w')):
  Calls Tryz.prog 93 #[env (-1) n1 a1 l1 c1 x1 m1 b1 k1 d1 y1,.int .i64 n,.int .i64 way] w fun e w'=>e=.returned (.int .i64 z)∧Kept w w':=by
 obtain⟨X,hX⟩:∃X,X=w.alloc (.cells #[.int .i64 (-1),.bool n1,.slice a1 l1 c1,.int .i64 x1,.bool m1,.slice b1 k1 d1,.int .i64 y1] 77):=⟨_,rfl⟩
 have hK:Kept w X:=by rw[hX];exact(qia w).alloc _ _
 have hXs:X.heap.size=w.heap.size+1:=by rw[hX];simp
 have hP0:P7 X (w.heap.size) (.int .i64 (-1)) (.bool n1) (.slice a1 l1 c1) (.int .i64 x1) (.bool m1) (.slice b1 k1 d1) (.int .i64 y1):=by
  rw[hX]
  have:=(P7.new (w) (.int .i64 (-1)) (.bool n1) (.slice a1 l1 c1) (.int .i64 x1) (.bool m1) (.slice b1 k1 d1) (.int .i64 y1) 77)
  simpa using this
 obtain⟨B0,hB0⟩:∃B,B=w.heap.size:=⟨_,rfl⟩
 rw[←hB0]at hP0
 have oB:Hid (w.heap.size≤B0∧B0<X.heap.size):=(show _∧_ from by omega)
 have oX:Hid (w.heap.size≤X.heap.size):=hK.below.size
 go_enter Tryz.func93,Tryz.ntmps93
 go_upto_region 1 with fail
 rw[←hX,←hB0]
 clear hX hXs hB0
 obtain⟨p0,p1,p2,p3,p4,p5,p6,pf⟩:=hP0.kept (qia X)
 go_upto_region 2 with (first|(go_at_call 86;refine(KO.out _).mono ?_;rintro e w1 ⟨rfl,k1⟩))
 clear p0 p1 p2 p3 p4 p5 p6 pf
 have hcl:=fun o=>qg (qia (w1.alloc (.cells #[.int .i64 e0,.int .i64 e1,.int .i64 e2,.int .i64 e3,.int .i64 e4,.int .i64 e5,.int .i64 e6,.int .i64 e7,.int .i64 e8] 116))) o
 have k1':=k1.alloc #[.int .i64 e0,.int .i64 e1,.int .i64 e2,.int .i64 e3,.int .i64 e4,.int .i64 e5,.int .i64 e6,.int .i64 e7,.int .i64 e8] 116
 obtain⟨p0,p1,p2,p3,p4,p5,p6,pf⟩:=hP0.kept k1'
 go_wp2_with fail
 go_ret
 exact⟨by first|rfl|rw[hz]|simp[hz],hK.trans k1'⟩
theorem qdt (n way:Int)(n1:Bool)(a1:Option Addr)(l1 c1:Nat)(x1:Int)(m1:Bool)(b1:Option Addr)(k1 d1:Nat)(y1:Int)(e0 e1 e2 e3 e4 e5 e6 e7 e8:Int)(z:Int)(w:World)
  (KO:Hid (∀u,Calls Tryz.prog 86 #[.int .i64 n] u fun e w'=>e=.returned (.tuple #[.agg #[.int .i64 e0,.int .i64 e1,.int .i64 e2,.int .i64 e3,.int .i64 e4,.int .i64 e5,.int .i64 e6,.int .i64 e7,.int .i64 e8],.bool true])∧Kept u w'))
  (KQ:Hid (∀u,Kept w u→Calls Tryz.prog 121 #[.agg #[.bool n1,.slice a1 l1 c1,.int .i64 x1],.agg #[.bool m1,.slice b1 k1 d1,.int .i64 y1],.int .i64 n,.int .i64 way] u fun e w'=>e=.returned (.int .i64 z)∧Kept u w')):
  Calls Tryz.prog 93 #[env 0 n1 a1 l1 c1 x1 m1 b1 k1 d1 y1,.int .i64 n,.int .i64 way] w fun e w'=>e=.returned (.int .i64 z)∧Kept w w':=by
 obtain⟨X,hX⟩:∃X,X=w.alloc (.cells #[.int .i64 0,.bool n1,.slice a1 l1 c1,.int .i64 x1,.bool m1,.slice b1 k1 d1,.int .i64 y1] 77):=⟨_,rfl⟩
 have hK:Kept w X:=by rw[hX];exact(qia w).alloc _ _
 have hXs:X.heap.size=w.heap.size+1:=by rw[hX];simp
 have hP0:P7 X (w.heap.size) (.int .i64 0) (.bool n1) (.slice a1 l1 c1) (.int .i64 x1) (.bool m1) (.slice b1 k1 d1) (.int .i64 y1):=by
  rw[hX]
  have:=(P7.new (w) (.int .i64 0) (.bool n1) (.slice a1 l1 c1) (.int .i64 x1) (.bool m1) (.slice b1 k1 d1) (.int .i64 y1) 77)
  simpa using this
 obtain⟨B0,hB0⟩:∃B,B=w.heap.size:=⟨_,rfl⟩
 rw[←hB0]at hP0
 have oB:Hid (w.heap.size≤B0∧B0<X.heap.size):=(show _∧_ from by omega)
 have oX:Hid (w.heap.size≤X.heap.size):=hK.below.size
 go_enter Tryz.func93,Tryz.ntmps93
 go_upto_region 1 with fail
 rw[←hX,←hB0]
 clear hX hXs hB0
 obtain⟨p0,p1,p2,p3,p4,p5,p6,pf⟩:=hP0.kept (qia X)
 go_upto_region 2 with (first|(go_at_call 86;refine(KO.out _).mono ?_;rintro e w1 ⟨rfl,k1⟩))
 clear p0 p1 p2 p3 p4 p5 p6 pf
 have hcl:=fun o=>qg (qia (w1.alloc (.cells #[.int .i64 e0,.int .i64 e1,.int .i64 e2,.int .i64 e3,.int .i64 e4,.int .i64 e5,.int .i64 e6,.int .i64 e7,.int .i64 e8] 116))) o
 have k1':=k1.alloc #[.int .i64 e0,.int .i64 e1,.int .i64 e2,.int .i64 e3,.int .i64 e4,.int .i64 e5,.int .i64 e6,.int .i64 e7,.int .i64 e8] 116
 obtain⟨p0,p1,p2,p3,p4,p5,p6,pf⟩:=hP0.kept k1'
 go_wp2_with (first|(go_at_call 121;refine(KQ.out _ (hK.trans k1')).mono ?_;rintro e w2 ⟨rfl,k2⟩))
 go_ret
 exact⟨rfl,hK.trans (k1'.trans k2)⟩
theorem X5 (n z1 z2:Int)(i1:Int)(n1:Bool)(a1:Option Addr)(l1 c1:Nat)(x1:Int)(m1:Bool)(b1:Option Addr)(k1 d1:Nat)(y1:Int)(i2:Int)(n2:Bool)(a2:Option Addr)(l2 c2:Nat)(x2:Int)(m2:Bool)(b2:Option Addr)(k2 d2:Nat)(y2:Int)(w:World)
  (K1:Hid (∀u,Kept w u→Calls Tryz.prog 93 #[env i1 n1 a1 l1 c1 x1 m1 b1 k1 d1 y1,.int .i64 n,.int .i64 1] u fun e w'=>e=.returned (.int .i64 z1)∧Kept u w'))
  (K2:Hid (∀u,Kept w u→Calls Tryz.prog 93 #[env i2 n2 a2 l2 c2 x2 m2 b2 k2 d2 y2,.int .i64 n,.int .i64 2] u fun e w'=>e=.returned (.int .i64 z2)∧Kept u w')):
  Calls Tryz.prog 60 #[env i1 n1 a1 l1 c1 x1 m1 b1 k1 d1 y1,env i2 n2 a2 l2 c2 x2 m2 b2 k2 d2 y2,.int .i64 n] w fun e w'=>e=.returned (.agg #[.int .i64 z1,.int .i64 z2])∧Kept w w':=by
 obtain⟨X,hX⟩:∃X,X=((w.alloc (.cells #[.int .i64 i1,.bool n1,.slice a1 l1 c1,.int .i64 x1,.bool m1,.slice b1 k1 d1,.int .i64 y1] 77)).alloc (.cells #[.int .i64 i2,.bool n2,.slice a2 l2 c2,.int .i64 x2,.bool m2,.slice b2 k2 d2,.int .i64 y2] 77)).alloc (.cells #[.int .i64 0,.int .i64 0] 23):=⟨_,rfl⟩
 have hK:Kept w X:=by rw[hX];exact(((qia w).alloc _ _).alloc _ _).alloc _ _
 have hXs:X.heap.size=w.heap.size+3:=by rw[hX];simp
 have hP0:P7 X (w.heap.size) (.int .i64 i1) (.bool n1) (.slice a1 l1 c1) (.int .i64 x1) (.bool m1) (.slice b1 k1 d1) (.int .i64 y1):=by
  rw[hX]
  have:=(((P7.new (w) (.int .i64 i1) (.bool n1) (.slice a1 l1 c1) (.int .i64 x1) (.bool m1) (.slice b1 k1 d1) (.int .i64 y1) 77).alloc #[.int .i64 i2,.bool n2,.slice a2 l2 c2,.int .i64 x2,.bool m2,.slice b2 k2 d2,.int .i64 y2] 77).alloc #[.int .i64 0,.int .i64 0] 23)
  simpa using this
 have hP1:P7 X (w.heap.size+1) (.int .i64 i2) (.bool n2) (.slice a2 l2 c2) (.int .i64 x2) (.bool m2) (.slice b2 k2 d2) (.int .i64 y2):=by
  rw[hX]
  have:=((P7.new (w.alloc (.cells #[.int .i64 i1,.bool n1,.slice a1 l1 c1,.int .i64 x1,.bool m1,.slice b1 k1 d1,.int .i64 y1] 77)) (.int .i64 i2) (.bool n2) (.slice a2 l2 c2) (.int .i64 x2) (.bool m2) (.slice b2 k2 d2) (.int .i64 y2) 77).alloc #[.int .i64 0,.int .i64 0] 23)
  simpa using this
 have hP2:P2 X (w.heap.size+1+1) (.int .i64 0) (.int .i64 0):=by
  rw[hX]
  have:=(P2.new ((w.alloc (.cells #[.int .i64 i1,.bool n1,.slice a1 l1 c1,.int .i64 x1,.bool m1,.slice b1 k1 d1,.int .i64 y1] 77)).alloc (.cells #[.int .i64 i2,.bool n2,.slice a2 l2 c2,.int .i64 x2,.bool m2,.slice b2 k2 d2,.int .i64 y2] 77)) (.int .i64 0) (.int .i64 0) 23)
  simpa using this
 obtain⟨B0,hB0⟩:∃B,B=w.heap.size:=⟨_,rfl⟩
 obtain⟨B1,hB1⟩:∃B,B=B0+1:=⟨_,rfl⟩
 obtain⟨B2,hB2⟩:∃B,B=B1+1:=⟨_,rfl⟩
 rw[←hB0]at hP0
 rw[←hB0,←hB1]at hP1
 rw[←hB0,←hB1,←hB2]at hP2
 have oB:Hid (w.heap.size≤B0∧B0<X.heap.size∧w.heap.size≤B1∧B1<X.heap.size∧w.heap.size≤B2∧B2<X.heap.size):=(show _∧_∧_∧_∧_∧_ from by omega)
 have oX:Hid (w.heap.size≤X.heap.size):=hK.below.size
 have HS:Hid (∀u,Kept X u→Kept X u∧u.cell? ⟨B0,0,none⟩=some (.int .i64 i1)∧u.cell? ⟨B0,1,none⟩=some (.bool n1)∧u.cell? ⟨B0,2,none⟩=some (.slice a1 l1 c1)∧u.cell? ⟨B0,3,none⟩=some (.int .i64 x1)∧u.cell? ⟨B0,4,none⟩=some (.bool m1)∧u.cell? ⟨B0,5,none⟩=some (.slice b1 k1 d1)∧u.cell? ⟨B0,6,none⟩=some (.int .i64 y1)∧u.cell? ⟨B1,0,none⟩=some (.int .i64 i2)∧u.cell? ⟨B1,1,none⟩=some (.bool n2)∧u.cell? ⟨B1,2,none⟩=some (.slice a2 l2 c2)∧u.cell? ⟨B1,3,none⟩=some (.int .i64 x2)∧u.cell? ⟨B1,4,none⟩=some (.bool m2)∧u.cell? ⟨B1,5,none⟩=some (.slice b2 k2 d2)∧u.cell? ⟨B1,6,none⟩=some (.int .i64 y2)):=fun u k=>⟨k,(hP0.kept k).c0,(hP0.kept k).c1,(hP0.kept k).c2,(hP0.kept k).c3,(hP0.kept k).c4,(hP0.kept k).c5,(hP0.kept k).c6,(hP1.kept k).c0,(hP1.kept k).c1,(hP1.kept k).c2,(hP1.kept k).c3,(hP1.kept k).c4,(hP1.kept k).c5,(hP1.kept k).c6⟩
 go_enter Tryz.func60,Tryz.ntmps60
 go_upto_region 1 with fail
 rw[←hX,←hB0,←hB1,←hB2]
 clear hX hXs hB0 hB1 hB2
 refine qZ [7] (fun u=>Kept X u∧u.cell? ⟨B0,0,none⟩=some (.int .i64 i1)∧u.cell? ⟨B0,1,none⟩=some (.bool n1)∧u.cell? ⟨B0,2,none⟩=some (.slice a1 l1 c1)∧u.cell? ⟨B0,3,none⟩=some (.int .i64 x1)∧u.cell? ⟨B0,4,none⟩=some (.bool m1)∧u.cell? ⟨B0,5,none⟩=some (.slice b1 k1 d1)∧u.cell? ⟨B0,6,none⟩=some (.int .i64 y1)∧u.cell? ⟨B1,0,none⟩=some (.int .i64 i2)∧u.cell? ⟨B1,1,none⟩=some (.bool n2)∧u.cell? ⟨B1,2,none⟩=some (.slice a2 l2 c2)∧u.cell? ⟨B1,3,none⟩=some (.int .i64 x2)∧u.cell? ⟨B1,4,none⟩=some (.bool m2)∧u.cell? ⟨B1,5,none⟩=some (.slice b2 k2 d2)∧u.cell? ⟨B1,6,none⟩=some (.int .i64 y2)) (by kernel_rfl) (HS.out _ (qia X).drew) (fun hHeld=>?_)
 refine tkD (i:=0) (v:=?_) rfl hHeld ?_
 try simp only[zz]
 refine tkD (i:=1) (v:=?_) rfl hHeld ?_
 try simp only[zz]
 refine tkD (i:=3) (v:=?_) rfl hHeld ?_
 try simp only[zz]
 refine tkD (i:=4) (v:=?_) rfl hHeld ?_
 try simp only[zz]
 refine qN (i:=2) (by kernel_rfl) rfl (fun K hK9=>?_)
 go_simp
 go_wp2_with fail
 refine(K1.out _ (hK.trans hHeld.1)).mono ?_
 rintro e u1 ⟨rfl,k1⟩
 refine hK9.out _ _ (HS.out _ (hHeld.1.trans k1)) (fun hH1=>?_)
 clear hK9 K
 try simp only[zz]
 refine qN (i:=5) (by kernel_rfl) rfl (fun K hK9=>?_)
 go_simp
 go_wp2_with fail
 refine(K2.out _ (hK.trans hH1.1)).mono ?_
 rintro e u2 ⟨rfl,k2⟩
 refine hK9.out _ _ (HS.out _ (hH1.1.trans k2)) (fun hH2=>?_)
 clear hK9 K
 try simp only[zz]
 refine tkD (i:=6) (v:=?_) rfl hH2 ?_
 try simp only[zz]
 obtain⟨p0,p1,pf⟩:=hP2.kept hH2.1
 refine jx (i:=7) (by kernel_rfl) rfl rfl (fun K hK9=>?_)
 go_simp
 refine hK9.out _ _ ?_
 clear hK9 K
 try simp only[zz]
 refine zY (by kernel_rfl) ?_ _
 try simp only[zz]
 go_wp2_with fail
 exact qh9 (v:=.agg #[.int .i64 z1,.int .i64 z2]) (by simp[results,Tryz.results60,go_sem,p0,p1]) rfl ⟨rfl,((hK.trans hH2.1).setCell (p:=⟨B2,0,none⟩) oB.out.2.2.2.2.1 _).setCell (p:=⟨B2,1,none⟩) oB.out.2.2.2.2.1 _⟩
theorem qdu (i1:Int)(n1:Bool)(a1:Option Addr)(l1 c1:Nat)(x1:Int)(m1:Bool)(b1:Option Addr)(k1 d1:Nat)(y1:Int)(i2:Int)(n2:Bool)(a2:Option Addr)(l2 c2:Nat)(x2:Int)(m2:Bool)(b2:Option Addr)(k2 d2:Nat)(y2:Int)(hne:(i1 != 0)=true)(w:World):
  Calls Tryz.prog 61 #[env i1 n1 a1 l1 c1 x1 m1 b1 k1 d1 y1,env i2 n2 a2 l2 c2 x2 m2 b2 k2 d2 y2] w fun e w'=>∃(u:World) (C:Nat) (v0 v1 v2 v3 v4 v5 v6:Value),e=.returned (env i1 n1 a1 l1 c1 x1 m1 b1 k1 d1 y1)∧Kept w u∧w.heap.size≤C∧w'=Zu u C v0 v1 v2 v3 v4 v5 v6:=by
 obtain⟨X,hX⟩:∃X,X=((w.alloc (.cells #[.int .i64 i1,.bool n1,.slice a1 l1 c1,.int .i64 x1,.bool m1,.slice b1 k1 d1,.int .i64 y1] 77)).alloc (.cells #[.int .i64 i2,.bool n2,.slice a2 l2 c2,.int .i64 x2,.bool m2,.slice b2 k2 d2,.int .i64 y2] 77)).alloc (.cells #[.int .i64 0,.bool false,.slice none 0 0,.int .i64 0,.bool false,.slice none 0 0,.int .i64 0] 77):=⟨_,rfl⟩
 have hK:Kept w X:=by rw[hX];exact(((qia w).alloc _ _).alloc _ _).alloc _ _
 have hXs:X.heap.size=w.heap.size+3:=by rw[hX];simp
 have hP0:P7 X (w.heap.size) (.int .i64 i1) (.bool n1) (.slice a1 l1 c1) (.int .i64 x1) (.bool m1) (.slice b1 k1 d1) (.int .i64 y1):=by
  rw[hX]
  have:=(((P7.new (w) (.int .i64 i1) (.bool n1) (.slice a1 l1 c1) (.int .i64 x1) (.bool m1) (.slice b1 k1 d1) (.int .i64 y1) 77).alloc #[.int .i64 i2,.bool n2,.slice a2 l2 c2,.int .i64 x2,.bool m2,.slice b2 k2 d2,.int .i64 y2] 77).alloc #[.int .i64 0,.bool false,.slice none 0 0,.int .i64 0,.bool false,.slice none 0 0,.int .i64 0] 77)
  simpa using this
 have hP1:P7 X (w.heap.size+1) (.int .i64 i2) (.bool n2) (.slice a2 l2 c2) (.int .i64 x2) (.bool m2) (.slice b2 k2 d2) (.int .i64 y2):=by
  rw[hX]
  have:=((P7.new (w.alloc (.cells #[.int .i64 i1,.bool n1,.slice a1 l1 c1,.int .i64 x1,.bool m1,.slice b1 k1 d1,.int .i64 y1] 77)) (.int .i64 i2) (.bool n2) (.slice a2 l2 c2) (.int .i64 x2) (.bool m2) (.slice b2 k2 d2) (.int .i64 y2) 77).alloc #[.int .i64 0,.bool false,.slice none 0 0,.int .i64 0,.bool false,.slice none 0 0,.int .i64 0] 77)
  simpa using this
 have hP2:P7 X (w.heap.size+1+1) (.int .i64 0) (.bool false) (.slice none 0 0) (.int .i64 0) (.bool false) (.slice none 0 0) (.int .i64 0):=by
  rw[hX]
  have:=(P7.new ((w.alloc (.cells #[.int .i64 i1,.bool n1,.slice a1 l1 c1,.int .i64 x1,.bool m1,.slice b1 k1 d1,.int .i64 y1] 77)).alloc (.cells #[.int .i64 i2,.bool n2,.slice a2 l2 c2,.int .i64 x2,.bool m2,.slice b2 k2 d2,.int .i64 y2] 77)) (.int .i64 0) (.bool false) (.slice none 0 0) (.int .i64 0) (.bool false) (.slice none 0 0) (.int .i64 0) 77)
  simpa using this
 obtain⟨B0,hB0⟩:∃B,B=w.heap.size:=⟨_,rfl⟩
 obtain⟨B1,hB1⟩:∃B,B=B0+1:=⟨_,rfl⟩
 obtain⟨B2,hB2⟩:∃B,B=B1+1:=⟨_,rfl⟩
 rw[←hB0]at hP0
 rw[←hB0,←hB1]at hP1
 rw[←hB0,←hB1,←hB2]at hP2
 have oB:Hid (w.heap.size≤B0∧B0<X.heap.size∧w.heap.size≤B1∧B1<X.heap.size∧w.heap.size≤B2∧B2<X.heap.size):=(show _∧_∧_∧_∧_∧_ from by omega)
 have oX:Hid (w.heap.size≤X.heap.size):=hK.below.size
 go_enter Tryz.func61,Tryz.ntmps61
 go_upto_region 1 with fail
 rw[←hX,←hB0,←hB1,←hB2]
 clear hX hXs hB0 hB1 hB2
 obtain⟨p0,p1,p2,p3,p4,p5,p6,pf⟩:=hP0
 obtain⟨q0,q1,q2,q3,q4,q5,q6,qf⟩:=hP1
 obtain⟨r0,r1,r2,r3,r4,r5,r6,rf⟩:=hP2
 go_wp2_with fail
 exact qh9 (v:=env i1 n1 a1 l1 c1 x1 m1 b1 k1 d1 y1) (by simp[results,Tryz.results61,go_sem,r0,r1,r2,r3,r4,r5,r6]) rfl ⟨X,B2,_,_,_,_,_,_,_,rfl,hK,oB.out.2.2.2.2.1,rfl⟩
theorem qdv (n1:Bool)(a1:Option Addr)(l1 c1:Nat)(x1:Int)(m1:Bool)(b1:Option Addr)(k1 d1:Nat)(y1:Int)(i2:Int)(n2:Bool)(a2:Option Addr)(l2 c2:Nat)(x2:Int)(m2:Bool)(b2:Option Addr)(k2 d2:Nat)(y2:Int)(hne:(i2 != 0)=true)(w:World):
  Calls Tryz.prog 61 #[env 0 n1 a1 l1 c1 x1 m1 b1 k1 d1 y1,env i2 n2 a2 l2 c2 x2 m2 b2 k2 d2 y2] w fun e w'=>∃(u:World) (C:Nat) (v0 v1 v2 v3 v4 v5 v6:Value),e=.returned (env i2 n2 a2 l2 c2 x2 m2 b2 k2 d2 y2)∧Kept w u∧w.heap.size≤C∧w'=Zu u C v0 v1 v2 v3 v4 v5 v6:=by
 obtain⟨X,hX⟩:∃X,X=((w.alloc (.cells #[.int .i64 0,.bool n1,.slice a1 l1 c1,.int .i64 x1,.bool m1,.slice b1 k1 d1,.int .i64 y1] 77)).alloc (.cells #[.int .i64 i2,.bool n2,.slice a2 l2 c2,.int .i64 x2,.bool m2,.slice b2 k2 d2,.int .i64 y2] 77)).alloc (.cells #[.int .i64 0,.bool false,.slice none 0 0,.int .i64 0,.bool false,.slice none 0 0,.int .i64 0] 77):=⟨_,rfl⟩
 have hK:Kept w X:=by rw[hX];exact(((qia w).alloc _ _).alloc _ _).alloc _ _
 have hXs:X.heap.size=w.heap.size+3:=by rw[hX];simp
 have hP0:P7 X (w.heap.size) (.int .i64 0) (.bool n1) (.slice a1 l1 c1) (.int .i64 x1) (.bool m1) (.slice b1 k1 d1) (.int .i64 y1):=by
  rw[hX]
  have:=(((P7.new (w) (.int .i64 0) (.bool n1) (.slice a1 l1 c1) (.int .i64 x1) (.bool m1) (.slice b1 k1 d1) (.int .i64 y1) 77).alloc #[.int .i64 i2,.bool n2,.slice a2 l2 c2,.int .i64 x2,.bool m2,.slice b2 k2 d2,.int .i64 y2] 77).alloc #[.int .i64 0,.bool false,.slice none 0 0,.int .i64 0,.bool false,.slice none 0 0,.int .i64 0] 77)
  simpa using this
 have hP1:P7 X (w.heap.size+1) (.int .i64 i2) (.bool n2) (.slice a2 l2 c2) (.int .i64 x2) (.bool m2) (.slice b2 k2 d2) (.int .i64 y2):=by
  rw[hX]
  have:=((P7.new (w.alloc (.cells #[.int .i64 0,.bool n1,.slice a1 l1 c1,.int .i64 x1,.bool m1,.slice b1 k1 d1,.int .i64 y1] 77)) (.int .i64 i2) (.bool n2) (.slice a2 l2 c2) (.int .i64 x2) (.bool m2) (.slice b2 k2 d2) (.int .i64 y2) 77).alloc #[.int .i64 0,.bool false,.slice none 0 0,.int .i64 0,.bool false,.slice none 0 0,.int .i64 0] 77)
  simpa using this
 have hP2:P7 X (w.heap.size+1+1) (.int .i64 0) (.bool false) (.slice none 0 0) (.int .i64 0) (.bool false) (.slice none 0 0) (.int .i64 0):=by
  rw[hX]
  have:=(P7.new ((w.alloc (.cells #[.int .i64 0,.bool n1,.slice a1 l1 c1,.int .i64 x1,.bool m1,.slice b1 k1 d1,.int .i64 y1] 77)).alloc (.cells #[.int .i64 i2,.bool n2,.slice a2 l2 c2,.int .i64 x2,.bool m2,.slice b2 k2 d2,.int .i64 y2] 77)) (.int .i64 0) (.bool false) (.slice none 0 0) (.int .i64 0) (.bool false) (.slice none 0 0) (.int .i64 0) 77)
  simpa using this
 obtain⟨B0,hB0⟩:∃B,B=w.heap.size:=⟨_,rfl⟩
 obtain⟨B1,hB1⟩:∃B,B=B0+1:=⟨_,rfl⟩
 obtain⟨B2,hB2⟩:∃B,B=B1+1:=⟨_,rfl⟩
 rw[←hB0]at hP0
 rw[←hB0,←hB1]at hP1
 rw[←hB0,←hB1,←hB2]at hP2
 have oB:Hid (w.heap.size≤B0∧B0<X.heap.size∧w.heap.size≤B1∧B1<X.heap.size∧w.heap.size≤B2∧B2<X.heap.size):=(show _∧_∧_∧_∧_∧_ from by omega)
 have oX:Hid (w.heap.size≤X.heap.size):=hK.below.size
 go_enter Tryz.func61,Tryz.ntmps61
 go_upto_region 1 with fail
 rw[←hX,←hB0,←hB1,←hB2]
 clear hX hXs hB0 hB1 hB2
 obtain⟨p0,p1,p2,p3,p4,p5,p6,pf⟩:=hP0
 obtain⟨q0,q1,q2,q3,q4,q5,q6,qf⟩:=hP1
 obtain⟨r0,r1,r2,r3,r4,r5,r6,rf⟩:=hP2
 go_wp2_with fail
 exact qh9 (v:=env i2 n2 a2 l2 c2 x2 m2 b2 k2 d2 y2) (by simp[results,Tryz.results61,go_sem,r0,r1,r2,r3,r4,r5,r6]) rfl ⟨X,B2,_,_,_,_,_,_,_,rfl,hK,oB.out.2.2.2.2.1,rfl⟩
theorem qdw (n1:Bool)(a1:Option Addr)(l1 c1:Nat)(x1:Int)(m1:Bool)(b1:Option Addr)(k1 d1:Nat)(y1:Int)(n2:Bool)(a2:Option Addr)(l2 c2:Nat)(x2:Int)(m2:Bool)(b2:Option Addr)(k2 d2:Nat)(y2:Int)(r:Nm)(P:Nat→Prop)(w:World)
  (KP:Hid (∀u,Kept w u→Calls Tryz.prog 94 #[.agg #[.bool n1,.slice a1 l1 c1,.int .i64 x1],.agg #[.bool n2,.slice a2 l2 c2,.int .i64 x2]] u fun e w'=>(∃v,e=.returned v∧RNp (fun c=>P c∨u.heap.size≤c) w' v r)∧Kept u w')):
  Calls Tryz.prog 61 #[env 0 n1 a1 l1 c1 x1 m1 b1 k1 d1 y1,env 0 n2 a2 l2 c2 x2 m2 b2 k2 d2 y2] w fun e w'=>∃(u:World) (C:Nat) (v v0 v1 v2 v3 v4 v5 v6:Value),e=.returned v∧EnAt (fun c=>P c∨C<c) u v 0 r oneN5∧Kept w u∧w.heap.size≤C∧w'=Zu u C v0 v1 v2 v3 v4 v5 v6:=by
 obtain⟨X,hX⟩:∃X,X=((w.alloc (.cells #[.int .i64 0,.bool n1,.slice a1 l1 c1,.int .i64 x1,.bool m1,.slice b1 k1 d1,.int .i64 y1] 77)).alloc (.cells #[.int .i64 0,.bool n2,.slice a2 l2 c2,.int .i64 x2,.bool m2,.slice b2 k2 d2,.int .i64 y2] 77)).alloc (.cells #[.int .i64 0,.bool false,.slice none 0 0,.int .i64 0,.bool false,.slice none 0 0,.int .i64 0] 77):=⟨_,rfl⟩
 have hK:Kept w X:=by rw[hX];exact(((qia w).alloc _ _).alloc _ _).alloc _ _
 have hXs:X.heap.size=w.heap.size+3:=by rw[hX];simp
 have hP0:P7 X (w.heap.size) (.int .i64 0) (.bool n1) (.slice a1 l1 c1) (.int .i64 x1) (.bool m1) (.slice b1 k1 d1) (.int .i64 y1):=by
  rw[hX]
  have:=(((P7.new (w) (.int .i64 0) (.bool n1) (.slice a1 l1 c1) (.int .i64 x1) (.bool m1) (.slice b1 k1 d1) (.int .i64 y1) 77).alloc #[.int .i64 0,.bool n2,.slice a2 l2 c2,.int .i64 x2,.bool m2,.slice b2 k2 d2,.int .i64 y2] 77).alloc #[.int .i64 0,.bool false,.slice none 0 0,.int .i64 0,.bool false,.slice none 0 0,.int .i64 0] 77)
  simpa using this
 have hP1:P7 X (w.heap.size+1) (.int .i64 0) (.bool n2) (.slice a2 l2 c2) (.int .i64 x2) (.bool m2) (.slice b2 k2 d2) (.int .i64 y2):=by
  rw[hX]
  have:=((P7.new (w.alloc (.cells #[.int .i64 0,.bool n1,.slice a1 l1 c1,.int .i64 x1,.bool m1,.slice b1 k1 d1,.int .i64 y1] 77)) (.int .i64 0) (.bool n2) (.slice a2 l2 c2) (.int .i64 x2) (.bool m2) (.slice b2 k2 d2) (.int .i64 y2) 77).alloc #[.int .i64 0,.bool false,.slice none 0 0,.int .i64 0,.bool false,.slice none 0 0,.int .i64 0] 77)
  simpa using this
 have hP2:P7 X (w.heap.size+1+1) (.int .i64 0) (.bool false) (.slice none 0 0) (.int .i64 0) (.bool false) (.slice none 0 0) (.int .i64 0):=by
  rw[hX]
  have:=(P7.new ((w.alloc (.cells #[.int .i64 0,.bool n1,.slice a1 l1 c1,.int .i64 x1,.bool m1,.slice b1 k1 d1,.int .i64 y1] 77)).alloc (.cells #[.int .i64 0,.bool n2,.slice a2 l2 c2,.int .i64 x2,.bool m2,.slice b2 k2 d2,.int .i64 y2] 77)) (.int .i64 0) (.bool false) (.slice none 0 0) (.int .i64 0) (.bool false) (.slice none 0 0) (.int .i64 0) 77)
  simpa using this
 obtain⟨B0,hB0⟩:∃B,B=w.heap.size:=⟨_,rfl⟩
 obtain⟨B1,hB1⟩:∃B,B=B0+1:=⟨_,rfl⟩
 obtain⟨B2,hB2⟩:∃B,B=B1+1:=⟨_,rfl⟩
 rw[←hB0]at hP0
 rw[←hB0,←hB1]at hP1
 rw[←hB0,←hB1,←hB2]at hP2
 have oB:Hid (w.heap.size≤B0∧B0<X.heap.size∧w.heap.size≤B1∧B1<X.heap.size∧w.heap.size≤B2∧B2<X.heap.size):=(show _∧_∧_∧_∧_∧_ from by omega)
 have oX:Hid (w.heap.size≤X.heap.size):=hK.below.size
 have KP':Hid (∀u,Kept X u→Calls Tryz.prog 94 #[.agg #[.bool n1,.slice a1 l1 c1,.int .i64 x1],.agg #[.bool n2,.slice a2 l2 c2,.int .i64 x2]] u fun e w'=>∃v,e=.returned v∧RNp (fun c=>P c∨B2<c) w' v r∧Kept u w'):=fun u k=>by
  refine(KP.out u (hK.trans k)).mono ?_
  rintro e w' ⟨⟨v,rfl,hv⟩,k'⟩
  have h1:=k.below.size
  have h2:=oB.out
  exact⟨v,rfl,hv.imp (fun c hc=>hc.elim .inl (fun h=>.inr (by omega))),k'⟩
 have KW:Hid (∀u v,Kept X u→RNp (fun c=>P c∨B2<c) u v r→Calls Tryz.prog 67 #[v] u fun e w'=>∃(n3:Bool) (a3:Option Addr) (l3 c3:Nat) (x3:Int) (m3:Bool) (b3:Option Addr) (k3 d3:Nat) (y3:Int),e=.returned (env 0 n3 a3 l3 c3 x3 m3 b3 k3 d3 y3)∧EnAt (fun c=>P c∨B2<c) w' (env 0 n3 a3 l3 c3 x3 m3 b3 k3 d3 y3) 0 r oneN5∧Kept u w'):=fun u v k h=>by
  refine(xW _ u r v h).mono ?_
  rintro e w' ⟨⟨q,rfl,hq⟩,k'⟩
  have h1:=k.below.size
  have h2:=oB.out
  have hq2:=hq.imp (Q:=fun c=>P c∨B2<c) (fun c hc=>hc.elim id (fun h=>.inr (by omega)))
  obtain⟨n3,a3,l3,c3,x3,m3,b3,k3,d3,y3,rfl⟩:=hq.shape
  exact⟨n3,a3,l3,c3,x3,m3,b3,k3,d3,y3,rfl,hq2,k'⟩
 clear KP
 go_enter Tryz.func61,Tryz.ntmps61
 go_upto_region 1 with fail
 rw[←hX,←hB0,←hB1,←hB2]
 clear hX hXs hB0 hB1 hB2
 obtain⟨p0,p1,p2,p3,p4,p5,p6,pf⟩:=hP0
 obtain⟨q0,q1,q2,q3,q4,q5,q6,qf⟩:=hP1
 go_wp2_with (first|(go_at_call 94;refine(KP'.out _ (qia _)).mono ?_;rintro e w1 ⟨v,rfl,hv,k1⟩)|(go_at_call 67;refine(KW.out _ _ k1 hv).mono ?_;rintro e w2 ⟨n3,a3,l3,c3,x3,m3,b3,k3,d3,y3,rfl,hE,k2⟩;obtain⟨r0,r1,r2,r3,r4,r5,r6,rf⟩:=hP2.kept (k1.trans k2)))
 exact qh9 (v:=env 0 n3 a3 l3 c3 x3 m3 b3 k3 d3 y3) (by simp[results,Tryz.results61,go_sem,r0,r1,r2,r3,r4,r5,r6]) rfl ⟨w2,B2,_,_,_,_,_,_,_,_,rfl,hE,hK.trans (k1.trans k2),oB.out.2.2.2.2.1,rfl⟩
end Go.Proofs.YtaglkncdedeipaaGreatDoor
