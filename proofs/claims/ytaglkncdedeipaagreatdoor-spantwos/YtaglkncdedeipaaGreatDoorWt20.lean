/-  -/
import Derived.Test.YtaglkncdedeipaaGreatDoorWt13
import Derived.Test.YtaglkncdedeipaaGreatDoorWt19
namespace Go.Proofs.YtaglkncdedeipaaGreatDoor
open Go.ChangeShapes Go.WideShapes Go.ChangeAt Go.RowKit
set_option linter.unusedVariables false
set_option linter.unusedSimpArgs false
set_option maxHeartbeats 16000000
set_option maxRecDepth 100000
theorem YT (i1:Int)(n1:Bool)(a1:Option Addr)(l1 c1:Nat)(x1:Int)(m1:Bool)(b1:Option Addr)(k1 d1:Nat)(y1:Int)(i2:Int)(n2:Bool)(a2:Option Addr)(l2 c2:Nat)(x2:Int)(m2:Bool)(b2:Option Addr)(k2 d2:Nat)(y2:Int)(s1 s2:Int)(hz:IntKind.i64.wrap (s1*s2)=0)(w:World)
  (KS1:Hid (∀u,Calls Tryz.prog 63 #[env i1 n1 a1 l1 c1 x1 m1 b1 k1 d1 y1] u fun e w'=>e=.returned (.int .i64 s1)∧Kept u w'))
  (KS2:Hid (∀u,Calls Tryz.prog 63 #[env i2 n2 a2 l2 c2 x2 m2 b2 k2 d2 y2] u fun e w'=>e=.returned (.int .i64 s2)∧Kept u w')):
  Calls Tryz.prog 62 #[env i1 n1 a1 l1 c1 x1 m1 b1 k1 d1 y1,env i2 n2 a2 l2 c2 x2 m2 b2 k2 d2 y2] w fun e w'=>∃(u:World) (C:Nat) (v v0 v1 v2 v3 v4 v5 v6:Value),e=.returned v∧EnAt (fun c=>C<c) u v 0 ⟨false,[],0⟩ oneN5∧Kept w u∧w.heap.size≤C∧w'=xY u C v0 v1 v2 v3 v4 v5 v6:=by
 obtain⟨X,hX⟩:∃X,X=((w.alloc (.cells #[.int .i64 i1,.bool n1,.slice a1 l1 c1,.int .i64 x1,.bool m1,.slice b1 k1 d1,.int .i64 y1] 77)).alloc (.cells #[.int .i64 i2,.bool n2,.slice a2 l2 c2,.int .i64 x2,.bool m2,.slice b2 k2 d2,.int .i64 y2] 77)).alloc (.cells #[.int .i64 0,.bool false,.slice none 0 0,.int .i64 0,.bool false,.slice none 0 0,.int .i64 0] 77):=⟨_,rfl⟩
 have hK:Kept w X:=by rw[hX];exact(((qo0 w).alloc _ _).alloc _ _).alloc _ _
 have hXs:X.heap.size=w.heap.size+3:=by rw[hX];simp
 have hP0:P7 X (w.heap.size) (.int .i64 i1) (.bool n1) (.slice a1 l1 c1) (.int .i64 x1) (.bool m1) (.slice b1 k1 d1) (.int .i64 y1):=by
  rw[hX]
  have:=(((P7.new (w) (.int .i64 i1) (.bool n1) (.slice a1 l1 c1) (.int .i64 x1) (.bool m1) (.slice b1 k1 d1) (.int .i64 y1) 77).alloc #[.int .i64 i2,.bool n2,.slice a2 l2 c2,.int .i64 x2,.bool m2,.slice b2 k2 d2,.int .i64 y2] 77).alloc #[.int .i64 0,.bool false,.slice none 0 0,.int .i64 0,.bool false,.slice none 0 0,.int .i64 0] 77)
  simpa using this
 have hP1:P7 X (w.heap.size+1) (.int .i64 i2) (.bool n2) (.slice a2 l2 c2) (.int .i64 x2) (.bool m2) (.slice b2 k2 d2) (.int .i64 y2):=by
  rw[hX]
  have:=((P7.new (w.alloc (.cells #[.int .i64 i1,.bool n1,.slice a1 l1 c1,.int .i64 x1,.bool m1,.slice b1 k1 d1,.int .i64 y1] 77)) (.int .i64 i2) (.bool n2) (.slice a2 l2 c2) (.int .i64 x2) (.bool m2) (.slice b2 k2 d2) (.int .i64 y2) 77).alloc #[.int .i64 0,.bool false,.slice none 0 0,.int .i64 0,.bool false,.slice none 0 0,.int .i64 0] 77)
  simpa using this
 have hP2:P7 X (w.heap.size+1+1) (.int .i64 0) (.bool false) (.slice none 0 0) (.int .i64 0) (.bool false) (.slice none 0 0) (.int .i64 0):=by
  rw[hX]
  have:=(P7.new ((w.alloc (.cells #[.int .i64 i1,.bool n1,.slice a1 l1 c1,.int .i64 x1,.bool m1,.slice b1 k1 d1,.int .i64 y1] 77)).alloc (.cells #[.int .i64 i2,.bool n2,.slice a2 l2 c2,.int .i64 x2,.bool m2,.slice b2 k2 d2,.int .i64 y2] 77)) (.int .i64 0) (.bool false) (.slice none 0 0) (.int .i64 0) (.bool false) (.slice none 0 0) (.int .i64 0) 77)
  simpa using this
 obtain⟨B0,hB0⟩:∃B,B=w.heap.size:=⟨_,rfl⟩
 obtain⟨B1,hB1⟩:∃B,B=B0+1:=⟨_,rfl⟩
 obtain⟨B2,hB2⟩:∃B,B=B1+1:=⟨_,rfl⟩
 rw[←hB0]at hP0
 rw[←hB0,←hB1]at hP1
 rw[←hB0,←hB1,←hB2]at hP2
 have oB:Hid (w.heap.size≤B0∧B0<X.heap.size∧w.heap.size≤B1∧B1<X.heap.size∧w.heap.size≤B2∧B2<X.heap.size):=(show _∧_∧_∧_∧_∧_ from by omega)
 have oX:Hid (w.heap.size≤X.heap.size):=hK.below.size
 have KW:Hid (∀u,Kept X u→Calls Tryz.prog 67 #[.agg #[.bool false,.slice none 0 0,.int .i64 0]] u fun e w'=>∃(n3:Bool) (a3:Option Addr) (l3 c3:Nat) (x3:Int) (m3:Bool) (b3:Option Addr) (k3 d3:Nat) (y3:Int),e=.returned (env 0 n3 a3 l3 c3 x3 m3 b3 k3 d3 y3)∧EnAt (fun c=>B2<c) w' (env 0 n3 a3 l3 c3 x3 m3 b3 k3 d3 y3) 0 ⟨false,[],0⟩ oneN5∧Kept u w'):=fun u k=>by
  refine(xx (fun c=>B2<c) u ⟨false,[],0⟩ _ ⟨_,rfl,RLp.nil _ _⟩).mono ?_
  rintro e w' ⟨⟨q,rfl,hq⟩,k'⟩
  have h1:=k.below.size
  have h2:=oB.out
  have hq2:=hq.imp (Q:=fun c=>B2<c) (fun c hc=>hc.elim id (fun h=>by omega))
  obtain⟨n3,a3,l3,c3,x3,m3,b3,k3,d3,y3,rfl⟩:=hq.shape
  exact⟨n3,a3,l3,c3,x3,m3,b3,k3,d3,y3,rfl,hq2,k'⟩
 have HS:Hid (∀u,Kept X u→Kept X u∧u.cell? ⟨B0,0,none⟩=some (.int .i64 i1)∧u.cell? ⟨B0,1,none⟩=some (.bool n1)∧u.cell? ⟨B0,2,none⟩=some (.slice a1 l1 c1)∧u.cell? ⟨B0,3,none⟩=some (.int .i64 x1)∧u.cell? ⟨B0,4,none⟩=some (.bool m1)∧u.cell? ⟨B0,5,none⟩=some (.slice b1 k1 d1)∧u.cell? ⟨B0,6,none⟩=some (.int .i64 y1)∧u.cell? ⟨B1,0,none⟩=some (.int .i64 i2)∧u.cell? ⟨B1,1,none⟩=some (.bool n2)∧u.cell? ⟨B1,2,none⟩=some (.slice a2 l2 c2)∧u.cell? ⟨B1,3,none⟩=some (.int .i64 x2)∧u.cell? ⟨B1,4,none⟩=some (.bool m2)∧u.cell? ⟨B1,5,none⟩=some (.slice b2 k2 d2)∧u.cell? ⟨B1,6,none⟩=some (.int .i64 y2)):=fun u k=>⟨k,(hP0.kept k).c0,(hP0.kept k).c1,(hP0.kept k).c2,(hP0.kept k).c3,(hP0.kept k).c4,(hP0.kept k).c5,(hP0.kept k).c6,(hP1.kept k).c0,(hP1.kept k).c1,(hP1.kept k).c2,(hP1.kept k).c3,(hP1.kept k).c4,(hP1.kept k).c5,(hP1.kept k).c6⟩
 go_enter Tryz.func62,Tryz.ntmps62
 go_upto_region 1 with fail
 rw[←hX,←hB0,←hB1,←hB2]
 clear hX hXs hB0 hB1 hB2
 refine qm [] (fun u=>Kept X u∧u.cell? ⟨B0,0,none⟩=some (.int .i64 i1)∧u.cell? ⟨B0,1,none⟩=some (.bool n1)∧u.cell? ⟨B0,2,none⟩=some (.slice a1 l1 c1)∧u.cell? ⟨B0,3,none⟩=some (.int .i64 x1)∧u.cell? ⟨B0,4,none⟩=some (.bool m1)∧u.cell? ⟨B0,5,none⟩=some (.slice b1 k1 d1)∧u.cell? ⟨B0,6,none⟩=some (.int .i64 y1)∧u.cell? ⟨B1,0,none⟩=some (.int .i64 i2)∧u.cell? ⟨B1,1,none⟩=some (.bool n2)∧u.cell? ⟨B1,2,none⟩=some (.slice a2 l2 c2)∧u.cell? ⟨B1,3,none⟩=some (.int .i64 x2)∧u.cell? ⟨B1,4,none⟩=some (.bool m2)∧u.cell? ⟨B1,5,none⟩=some (.slice b2 k2 d2)∧u.cell? ⟨B1,6,none⟩=some (.int .i64 y2)) (by kernel_rfl) (HS.out _ (qo0 X).drew) (fun hHeld=>?_)
 refine tkD (i:=0) (v:=?_) rfl hHeld ?_
 try simp only[zz]
 refine tkD (i:=2) (v:=?_) rfl hHeld ?_
 try simp only[zz]
 refine qi (i:=1) (by kernel_rfl) rfl (fun K hK9=>?_)
 go_simp
 go_wp2_with fail
 refine(KS1.out _).mono ?_
 rintro e u1 ⟨rfl,k1⟩
 refine hK9.out _ _ (HS.out _ (hHeld.1.trans k1)) (fun hH1=>?_)
 clear hK9 K
 try simp only[zz]
 refine qi (i:=3) (by kernel_rfl) rfl (fun K hK9=>?_)
 go_simp
 go_wp2_with fail
 refine(KS2.out _).mono ?_
 rintro e u2 ⟨rfl,k2⟩
 refine hK9.out _ _ (HS.out _ (hH1.1.trans k2)) (fun hH2=>?_)
 clear hK9 K
 try simp only[zz]
 refine tkD (i:=4) (v:=?_) rfl hH2 ?_
 try simp only[zz]
 refine tkD (i:=5) (v:=?_) rfl hH2 ?_
 try simp only[zz]
 refine qs (by kernel_rfl) ?_ _
 try simp only[zz]
 have kx:=hH2.1
 clear HS hH2 hH1 hHeld KS1 KS2 hz
 go_wp2_with (first|(go_at_call 67;refine(KW.out _ kx).mono ?_;rintro e w3 ⟨n3,a3,l3,c3,x3,m3,b3,k3,d3,y3,rfl,hE,k3'⟩;obtain⟨r0,r1,r2,r3,r4,r5,r6,rf⟩:=hP2.kept (kx.trans k3')))
 exact qoz (v:=env 0 n3 a3 l3 c3 x3 m3 b3 k3 d3 y3) (by simp[results,Tryz.results62,go_sem,r0,r1,r2,r3,r4,r5,r6]) rfl ⟨w3,B2,_,_,_,_,_,_,_,_,rfl,hE,hK.trans (kx.trans k3'),oB.out.2.2.2.2.1,rfl⟩
theorem qbj (i1:Int)(n1:Bool)(a1:Option Addr)(l1 c1:Nat)(x1:Int)(m1:Bool)(b1:Option Addr)(k1 d1:Nat)(y1:Int)(i2:Int)(n2:Bool)(a2:Option Addr)(l2 c2:Nat)(x2:Int)(m2:Bool)(b2:Option Addr)(k2 d2:Nat)(y2:Int)(s1 s2 z:Int)(hz:IntKind.i64.wrap (s1*s2)=z)(hz0:(z==0)=false)(t1 t2:Bool)(ht1:(i1 != 0)=t1)(ht2:(i2 != 0)=t2)(hi:(t1||t2)=true)(w:World)
  (KS1:Hid (∀u,Calls Tryz.prog 63 #[env i1 n1 a1 l1 c1 x1 m1 b1 k1 d1 y1] u fun e w'=>e=.returned (.int .i64 s1)∧Kept u w'))
  (KS2:Hid (∀u,Calls Tryz.prog 63 #[env i2 n2 a2 l2 c2 x2 m2 b2 k2 d2 y2] u fun e w'=>e=.returned (.int .i64 s2)∧Kept u w')):
  Calls Tryz.prog 62 #[env i1 n1 a1 l1 c1 x1 m1 b1 k1 d1 y1,env i2 n2 a2 l2 c2 x2 m2 b2 k2 d2 y2] w fun e w'=>∃(u:World) (C:Nat) (v v0 v1 v2 v3 v4 v5 v6:Value),e=.returned v∧EnAt (fun c=>C<c) u v z ⟨false,[],0⟩ oneN5∧Kept w u∧w.heap.size≤C∧w'=xY u C v0 v1 v2 v3 v4 v5 v6:=by
 obtain⟨X,hX⟩:∃X,X=((w.alloc (.cells #[.int .i64 i1,.bool n1,.slice a1 l1 c1,.int .i64 x1,.bool m1,.slice b1 k1 d1,.int .i64 y1] 77)).alloc (.cells #[.int .i64 i2,.bool n2,.slice a2 l2 c2,.int .i64 x2,.bool m2,.slice b2 k2 d2,.int .i64 y2] 77)).alloc (.cells #[.int .i64 0,.bool false,.slice none 0 0,.int .i64 0,.bool false,.slice none 0 0,.int .i64 0] 77):=⟨_,rfl⟩
 have hK:Kept w X:=by rw[hX];exact(((qo0 w).alloc _ _).alloc _ _).alloc _ _
 have hXs:X.heap.size=w.heap.size+3:=by rw[hX];simp
 have hP0:P7 X (w.heap.size) (.int .i64 i1) (.bool n1) (.slice a1 l1 c1) (.int .i64 x1) (.bool m1) (.slice b1 k1 d1) (.int .i64 y1):=by
  rw[hX]
  have:=(((P7.new (w) (.int .i64 i1) (.bool n1) (.slice a1 l1 c1) (.int .i64 x1) (.bool m1) (.slice b1 k1 d1) (.int .i64 y1) 77).alloc #[.int .i64 i2,.bool n2,.slice a2 l2 c2,.int .i64 x2,.bool m2,.slice b2 k2 d2,.int .i64 y2] 77).alloc #[.int .i64 0,.bool false,.slice none 0 0,.int .i64 0,.bool false,.slice none 0 0,.int .i64 0] 77)
  simpa using this
 have hP1:P7 X (w.heap.size+1) (.int .i64 i2) (.bool n2) (.slice a2 l2 c2) (.int .i64 x2) (.bool m2) (.slice b2 k2 d2) (.int .i64 y2):=by
  rw[hX]
  have:=((P7.new (w.alloc (.cells #[.int .i64 i1,.bool n1,.slice a1 l1 c1,.int .i64 x1,.bool m1,.slice b1 k1 d1,.int .i64 y1] 77)) (.int .i64 i2) (.bool n2) (.slice a2 l2 c2) (.int .i64 x2) (.bool m2) (.slice b2 k2 d2) (.int .i64 y2) 77).alloc #[.int .i64 0,.bool false,.slice none 0 0,.int .i64 0,.bool false,.slice none 0 0,.int .i64 0] 77)
  simpa using this
 have hP2:P7 X (w.heap.size+1+1) (.int .i64 0) (.bool false) (.slice none 0 0) (.int .i64 0) (.bool false) (.slice none 0 0) (.int .i64 0):=by
  rw[hX]
  have:=(P7.new ((w.alloc (.cells #[.int .i64 i1,.bool n1,.slice a1 l1 c1,.int .i64 x1,.bool m1,.slice b1 k1 d1,.int .i64 y1] 77)).alloc (.cells #[.int .i64 i2,.bool n2,.slice a2 l2 c2,.int .i64 x2,.bool m2,.slice b2 k2 d2,.int .i64 y2] 77)) (.int .i64 0) (.bool false) (.slice none 0 0) (.int .i64 0) (.bool false) (.slice none 0 0) (.int .i64 0) 77)
  simpa using this
 obtain⟨B0,hB0⟩:∃B,B=w.heap.size:=⟨_,rfl⟩
 obtain⟨B1,hB1⟩:∃B,B=B0+1:=⟨_,rfl⟩
 obtain⟨B2,hB2⟩:∃B,B=B1+1:=⟨_,rfl⟩
 rw[←hB0]at hP0
 rw[←hB0,←hB1]at hP1
 rw[←hB0,←hB1,←hB2]at hP2
 have oB:Hid (w.heap.size≤B0∧B0<X.heap.size∧w.heap.size≤B1∧B1<X.heap.size∧w.heap.size≤B2∧B2<X.heap.size):=(show _∧_∧_∧_∧_∧_ from by omega)
 have oX:Hid (w.heap.size≤X.heap.size):=hK.below.size
 have KW:Hid (∀u,Kept X u→Calls Tryz.prog 89 #[.int .i64 1] u fun e w'=>∃(m3:Bool) (b3:Option Addr) (k3 d3:Nat) (y3:Int),e=.returned (.agg #[.bool m3,.slice b3 k3 d3,.int .i64 y3])∧RNp (fun c=>B2<c) w' (.agg #[.bool m3,.slice b3 k3 d3,.int .i64 y3]) oneN5∧Kept u w'):=fun u k=>by
  refine(qj5 u).mono ?_
  rintro e w' ⟨⟨r,rfl,hr⟩,k'⟩
  have h1:=k.below.size
  have h2:=oB.out
  have hr2:=hr.imp (Q:=fun c=>B2<c) (fun c hc=>by simp only[qn]at hc;omega)
  obtain⟨n2,a2,l2,c2,x2,rfl⟩:=hr.shape5
  exact⟨n2,a2,l2,c2,x2,rfl,hr2,k'⟩
 have HS:Hid (∀u,Kept X u→Kept X u∧u.cell? ⟨B0,0,none⟩=some (.int .i64 i1)∧u.cell? ⟨B0,1,none⟩=some (.bool n1)∧u.cell? ⟨B0,2,none⟩=some (.slice a1 l1 c1)∧u.cell? ⟨B0,3,none⟩=some (.int .i64 x1)∧u.cell? ⟨B0,4,none⟩=some (.bool m1)∧u.cell? ⟨B0,5,none⟩=some (.slice b1 k1 d1)∧u.cell? ⟨B0,6,none⟩=some (.int .i64 y1)∧u.cell? ⟨B1,0,none⟩=some (.int .i64 i2)∧u.cell? ⟨B1,1,none⟩=some (.bool n2)∧u.cell? ⟨B1,2,none⟩=some (.slice a2 l2 c2)∧u.cell? ⟨B1,3,none⟩=some (.int .i64 x2)∧u.cell? ⟨B1,4,none⟩=some (.bool m2)∧u.cell? ⟨B1,5,none⟩=some (.slice b2 k2 d2)∧u.cell? ⟨B1,6,none⟩=some (.int .i64 y2)):=fun u k=>⟨k,(hP0.kept k).c0,(hP0.kept k).c1,(hP0.kept k).c2,(hP0.kept k).c3,(hP0.kept k).c4,(hP0.kept k).c5,(hP0.kept k).c6,(hP1.kept k).c0,(hP1.kept k).c1,(hP1.kept k).c2,(hP1.kept k).c3,(hP1.kept k).c4,(hP1.kept k).c5,(hP1.kept k).c6⟩
 go_enter Tryz.func62,Tryz.ntmps62
 go_upto_region 1 with fail
 rw[←hX,←hB0,←hB1,←hB2]
 clear hX hXs hB0 hB1 hB2
 refine qm [] (fun u=>Kept X u∧u.cell? ⟨B0,0,none⟩=some (.int .i64 i1)∧u.cell? ⟨B0,1,none⟩=some (.bool n1)∧u.cell? ⟨B0,2,none⟩=some (.slice a1 l1 c1)∧u.cell? ⟨B0,3,none⟩=some (.int .i64 x1)∧u.cell? ⟨B0,4,none⟩=some (.bool m1)∧u.cell? ⟨B0,5,none⟩=some (.slice b1 k1 d1)∧u.cell? ⟨B0,6,none⟩=some (.int .i64 y1)∧u.cell? ⟨B1,0,none⟩=some (.int .i64 i2)∧u.cell? ⟨B1,1,none⟩=some (.bool n2)∧u.cell? ⟨B1,2,none⟩=some (.slice a2 l2 c2)∧u.cell? ⟨B1,3,none⟩=some (.int .i64 x2)∧u.cell? ⟨B1,4,none⟩=some (.bool m2)∧u.cell? ⟨B1,5,none⟩=some (.slice b2 k2 d2)∧u.cell? ⟨B1,6,none⟩=some (.int .i64 y2)) (by kernel_rfl) (HS.out _ (qo0 X).drew) (fun hHeld=>?_)
 refine tkD (i:=0) (v:=?_) rfl hHeld ?_
 try simp only[zz]
 refine tkD (i:=2) (v:=?_) rfl hHeld ?_
 try simp only[zz]
 refine qi (i:=1) (by kernel_rfl) rfl (fun K hK9=>?_)
 go_simp
 go_wp2_with fail
 refine(KS1.out _).mono ?_
 rintro e u1 ⟨rfl,k1⟩
 refine hK9.out _ _ (HS.out _ (hHeld.1.trans k1)) (fun hH1=>?_)
 clear hK9 K
 try simp only[zz]
 refine qi (i:=3) (by kernel_rfl) rfl (fun K hK9=>?_)
 go_simp
 go_wp2_with fail
 refine(KS2.out _).mono ?_
 rintro e u2 ⟨rfl,k2⟩
 refine hK9.out _ _ (HS.out _ (hH1.1.trans k2)) (fun hH2=>?_)
 clear hK9 K
 try simp only[zz]
 refine tkD (i:=4) (v:=?_) rfl hH2 ?_
 try simp only[zz]
 refine tkD (i:=5) (v:=?_) rfl hH2 ?_
 try simp only[zz]
 refine qs (by kernel_rfl) ?_ _
 try simp only[zz]
 have kx:=hH2.1
 clear HS hH2 hH1 hHeld KS1 KS2 hz
 have hp0:=hP0.kept kx
 have hp1:=hP1.kept kx
 obtain⟨p0,p1,p2,p3,p4,p5,p6,pf⟩:=hp0
 obtain⟨q0,q1,q2,q3,q4,q5,q6,qf⟩:=hp1
 cases t1
 ·have ht:t2=true:=by simpa using hi
  subst ht
  go_wp2_with (first|(go_at_call 89;refine(KW.out _ kx).mono ?_;rintro e w3 ⟨m3,b3,k3,d3,y3,rfl,hE,k3'⟩;obtain⟨r0,r1,r2,r3,r4,r5,r6,rf⟩:=hP2.kept (kx.trans k3')))
  have h0:RNp (fun c=>B2<c) w3 (.agg #[.bool false,.slice none 0 0,.int .i64 0]) ⟨false,[],0⟩:=⟨_,rfl,RLp.nil _ _⟩
  exact qoz (v:=env z false none 0 0 0 m3 b3 k3 d3 y3) (by simp[results,Tryz.results62,go_sem,r0,r1,r2,r3,r4,r5,r6]) rfl ⟨w3,B2,_,_,_,_,_,_,_,_,rfl,h0.en (v1:=.bool true) (v2:=.bool true) z hE,hK.trans (kx.trans k3'),oB.out.2.2.2.2.1,rfl⟩
 ·go_wp2_with (first|(go_at_call 89;refine(KW.out _ kx).mono ?_;rintro e w3 ⟨m3,b3,k3,d3,y3,rfl,hE,k3'⟩;obtain⟨r0,r1,r2,r3,r4,r5,r6,rf⟩:=hP2.kept (kx.trans k3')))
  have h0:RNp (fun c=>B2<c) w3 (.agg #[.bool false,.slice none 0 0,.int .i64 0]) ⟨false,[],0⟩:=⟨_,rfl,RLp.nil _ _⟩
  exact qoz (v:=env z false none 0 0 0 m3 b3 k3 d3 y3) (by simp[results,Tryz.results62,go_sem,r0,r1,r2,r3,r4,r5,r6]) rfl ⟨w3,B2,_,_,_,_,_,_,_,_,rfl,h0.en (v1:=.bool true) (v2:=.bool true) z hE,hK.trans (kx.trans k3'),oB.out.2.2.2.2.1,rfl⟩
theorem qhm (n1:Bool)(a1:Option Addr)(l1 c1:Nat)(x1:Int)(m1:Bool)(b1:Option Addr)(k1 d1:Nat)(y1:Int)(n2:Bool)(a2:Option Addr)(l2 c2:Nat)(x2:Int)(m2:Bool)(b2:Option Addr)(k2 d2:Nat)(y2:Int)(s1 s2 z:Int)(hz:IntKind.i64.wrap (s1*s2)=z)(hz0:(z==0)=false)(r:Nm)(P:Nat→Prop)(w:World)
  (KP:Hid (∀u,Kept w u→Calls Tryz.prog 91 #[.agg #[.bool n1,.slice a1 l1 c1,.int .i64 x1],.agg #[.bool n2,.slice a2 l2 c2,.int .i64 x2]] u fun e w'=>(∃v,e=.returned v∧RNp (fun c=>P c∨u.heap.size≤c) w' v r)∧Kept u w'))
  (KS1:Hid (∀u,Calls Tryz.prog 63 #[env 0 n1 a1 l1 c1 x1 m1 b1 k1 d1 y1] u fun e w'=>e=.returned (.int .i64 s1)∧Kept u w'))
  (KS2:Hid (∀u,Calls Tryz.prog 63 #[env 0 n2 a2 l2 c2 x2 m2 b2 k2 d2 y2] u fun e w'=>e=.returned (.int .i64 s2)∧Kept u w')):
  Calls Tryz.prog 62 #[env 0 n1 a1 l1 c1 x1 m1 b1 k1 d1 y1,env 0 n2 a2 l2 c2 x2 m2 b2 k2 d2 y2] w fun e w'=>∃(u:World) (C:Nat) (v v0 v1 v2 v3 v4 v5 v6:Value),e=.returned v∧EnAt (fun c=>P c∨C<c) u v 0 r oneN5∧Kept w u∧w.heap.size≤C∧w'=xY u C v0 v1 v2 v3 v4 v5 v6:=by
 obtain⟨X,hX⟩:∃X,X=((w.alloc (.cells #[.int .i64 0,.bool n1,.slice a1 l1 c1,.int .i64 x1,.bool m1,.slice b1 k1 d1,.int .i64 y1] 77)).alloc (.cells #[.int .i64 0,.bool n2,.slice a2 l2 c2,.int .i64 x2,.bool m2,.slice b2 k2 d2,.int .i64 y2] 77)).alloc (.cells #[.int .i64 0,.bool false,.slice none 0 0,.int .i64 0,.bool false,.slice none 0 0,.int .i64 0] 77):=⟨_,rfl⟩
 have hK:Kept w X:=by rw[hX];exact(((qo0 w).alloc _ _).alloc _ _).alloc _ _
 have hXs:X.heap.size=w.heap.size+3:=by rw[hX];simp
 have hP0:P7 X (w.heap.size) (.int .i64 0) (.bool n1) (.slice a1 l1 c1) (.int .i64 x1) (.bool m1) (.slice b1 k1 d1) (.int .i64 y1):=by
  rw[hX]
  have:=(((P7.new (w) (.int .i64 0) (.bool n1) (.slice a1 l1 c1) (.int .i64 x1) (.bool m1) (.slice b1 k1 d1) (.int .i64 y1) 77).alloc #[.int .i64 0,.bool n2,.slice a2 l2 c2,.int .i64 x2,.bool m2,.slice b2 k2 d2,.int .i64 y2] 77).alloc #[.int .i64 0,.bool false,.slice none 0 0,.int .i64 0,.bool false,.slice none 0 0,.int .i64 0] 77)
  simpa using this
 have hP1:P7 X (w.heap.size+1) (.int .i64 0) (.bool n2) (.slice a2 l2 c2) (.int .i64 x2) (.bool m2) (.slice b2 k2 d2) (.int .i64 y2):=by
  rw[hX]
  have:=((P7.new (w.alloc (.cells #[.int .i64 0,.bool n1,.slice a1 l1 c1,.int .i64 x1,.bool m1,.slice b1 k1 d1,.int .i64 y1] 77)) (.int .i64 0) (.bool n2) (.slice a2 l2 c2) (.int .i64 x2) (.bool m2) (.slice b2 k2 d2) (.int .i64 y2) 77).alloc #[.int .i64 0,.bool false,.slice none 0 0,.int .i64 0,.bool false,.slice none 0 0,.int .i64 0] 77)
  simpa using this
 have hP2:P7 X (w.heap.size+1+1) (.int .i64 0) (.bool false) (.slice none 0 0) (.int .i64 0) (.bool false) (.slice none 0 0) (.int .i64 0):=by
  rw[hX]
  have:=(P7.new ((w.alloc (.cells #[.int .i64 0,.bool n1,.slice a1 l1 c1,.int .i64 x1,.bool m1,.slice b1 k1 d1,.int .i64 y1] 77)).alloc (.cells #[.int .i64 0,.bool n2,.slice a2 l2 c2,.int .i64 x2,.bool m2,.slice b2 k2 d2,.int .i64 y2] 77)) (.int .i64 0) (.bool false) (.slice none 0 0) (.int .i64 0) (.bool false) (.slice none 0 0) (.int .i64 0) 77)
  simpa using this
 obtain⟨B0,hB0⟩:∃B,B=w.heap.size:=⟨_,rfl⟩
 obtain⟨B1,hB1⟩:∃B,B=B0+1:=⟨_,rfl⟩
 obtain⟨B2,hB2⟩:∃B,B=B1+1:=⟨_,rfl⟩
 rw[←hB0]at hP0
 rw[←hB0,←hB1]at hP1
 rw[←hB0,←hB1,←hB2]at hP2
 have oB:Hid (w.heap.size≤B0∧B0<X.heap.size∧w.heap.size≤B1∧B1<X.heap.size∧w.heap.size≤B2∧B2<X.heap.size):=(show _∧_∧_∧_∧_∧_ from by omega)
 have oX:Hid (w.heap.size≤X.heap.size):=hK.below.size
 have KP':Hid (∀u,Kept X u→Calls Tryz.prog 91 #[.agg #[.bool n1,.slice a1 l1 c1,.int .i64 x1],.agg #[.bool n2,.slice a2 l2 c2,.int .i64 x2]] u fun e w'=>∃v,e=.returned v∧RNp (fun c=>P c∨B2<c) w' v r∧Kept u w'):=fun u k=>by
  refine(KP.out u (hK.trans k)).mono ?_
  rintro e w' ⟨⟨v,rfl,hv⟩,k'⟩
  have h1:=k.below.size
  have h2:=oB.out
  exact⟨v,rfl,hv.imp (fun c hc=>hc.elim .inl (fun h=>.inr (by omega))),k'⟩
 have KW:Hid (∀u v,Kept X u→RNp (fun c=>P c∨B2<c) u v r→Calls Tryz.prog 67 #[v] u fun e w'=>∃(n3:Bool) (a3:Option Addr) (l3 c3:Nat) (x3:Int) (m3:Bool) (b3:Option Addr) (k3 d3:Nat) (y3:Int),e=.returned (env 0 n3 a3 l3 c3 x3 m3 b3 k3 d3 y3)∧EnAt (fun c=>P c∨B2<c) w' (env 0 n3 a3 l3 c3 x3 m3 b3 k3 d3 y3) 0 r oneN5∧Kept u w'):=fun u v k h=>by
  refine(xx _ u r v h).mono ?_
  rintro e w' ⟨⟨q,rfl,hq⟩,k'⟩
  have h1:=k.below.size
  have h2:=oB.out
  have hq2:=hq.imp (Q:=fun c=>P c∨B2<c) (fun c hc=>hc.elim id (fun h=>.inr (by omega)))
  obtain⟨n3,a3,l3,c3,x3,m3,b3,k3,d3,y3,rfl⟩:=hq.shape
  exact⟨n3,a3,l3,c3,x3,m3,b3,k3,d3,y3,rfl,hq2,k'⟩
 clear KP
 have HS:Hid (∀u,Kept X u→Kept X u∧u.cell? ⟨B0,0,none⟩=some (.int .i64 0)∧u.cell? ⟨B0,1,none⟩=some (.bool n1)∧u.cell? ⟨B0,2,none⟩=some (.slice a1 l1 c1)∧u.cell? ⟨B0,3,none⟩=some (.int .i64 x1)∧u.cell? ⟨B0,4,none⟩=some (.bool m1)∧u.cell? ⟨B0,5,none⟩=some (.slice b1 k1 d1)∧u.cell? ⟨B0,6,none⟩=some (.int .i64 y1)∧u.cell? ⟨B1,0,none⟩=some (.int .i64 0)∧u.cell? ⟨B1,1,none⟩=some (.bool n2)∧u.cell? ⟨B1,2,none⟩=some (.slice a2 l2 c2)∧u.cell? ⟨B1,3,none⟩=some (.int .i64 x2)∧u.cell? ⟨B1,4,none⟩=some (.bool m2)∧u.cell? ⟨B1,5,none⟩=some (.slice b2 k2 d2)∧u.cell? ⟨B1,6,none⟩=some (.int .i64 y2)):=fun u k=>⟨k,(hP0.kept k).c0,(hP0.kept k).c1,(hP0.kept k).c2,(hP0.kept k).c3,(hP0.kept k).c4,(hP0.kept k).c5,(hP0.kept k).c6,(hP1.kept k).c0,(hP1.kept k).c1,(hP1.kept k).c2,(hP1.kept k).c3,(hP1.kept k).c4,(hP1.kept k).c5,(hP1.kept k).c6⟩
 go_enter Tryz.func62,Tryz.ntmps62
 go_upto_region 1 with fail
 rw[←hX,←hB0,←hB1,←hB2]
 clear hX hXs hB0 hB1 hB2
 refine qm [] (fun u=>Kept X u∧u.cell? ⟨B0,0,none⟩=some (.int .i64 0)∧u.cell? ⟨B0,1,none⟩=some (.bool n1)∧u.cell? ⟨B0,2,none⟩=some (.slice a1 l1 c1)∧u.cell? ⟨B0,3,none⟩=some (.int .i64 x1)∧u.cell? ⟨B0,4,none⟩=some (.bool m1)∧u.cell? ⟨B0,5,none⟩=some (.slice b1 k1 d1)∧u.cell? ⟨B0,6,none⟩=some (.int .i64 y1)∧u.cell? ⟨B1,0,none⟩=some (.int .i64 0)∧u.cell? ⟨B1,1,none⟩=some (.bool n2)∧u.cell? ⟨B1,2,none⟩=some (.slice a2 l2 c2)∧u.cell? ⟨B1,3,none⟩=some (.int .i64 x2)∧u.cell? ⟨B1,4,none⟩=some (.bool m2)∧u.cell? ⟨B1,5,none⟩=some (.slice b2 k2 d2)∧u.cell? ⟨B1,6,none⟩=some (.int .i64 y2)) (by kernel_rfl) (HS.out _ (qo0 X).drew) (fun hHeld=>?_)
 refine tkD (i:=0) (v:=?_) rfl hHeld ?_
 try simp only[zz]
 refine tkD (i:=2) (v:=?_) rfl hHeld ?_
 try simp only[zz]
 refine qi (i:=1) (by kernel_rfl) rfl (fun K hK9=>?_)
 go_simp
 go_wp2_with fail
 refine(KS1.out _).mono ?_
 rintro e u1 ⟨rfl,k1⟩
 refine hK9.out _ _ (HS.out _ (hHeld.1.trans k1)) (fun hH1=>?_)
 clear hK9 K
 try simp only[zz]
 refine qi (i:=3) (by kernel_rfl) rfl (fun K hK9=>?_)
 go_simp
 go_wp2_with fail
 refine(KS2.out _).mono ?_
 rintro e u2 ⟨rfl,k2⟩
 refine hK9.out _ _ (HS.out _ (hH1.1.trans k2)) (fun hH2=>?_)
 clear hK9 K
 try simp only[zz]
 refine tkD (i:=4) (v:=?_) rfl hH2 ?_
 try simp only[zz]
 refine tkD (i:=5) (v:=?_) rfl hH2 ?_
 try simp only[zz]
 refine qs (by kernel_rfl) ?_ _
 try simp only[zz]
 have kx:=hH2.1
 clear HS hH2 hH1 hHeld KS1 KS2 hz
 have hp0:=hP0.kept kx
 have hp1:=hP1.kept kx
 obtain⟨p0,p1,p2,p3,p4,p5,p6,pf⟩:=hp0
 obtain⟨q0,q1,q2,q3,q4,q5,q6,qf⟩:=hp1
 go_wp2_with (first|(go_at_call 91;refine(KP'.out _ kx).mono ?_;rintro e w3 ⟨v,rfl,hv,k3⟩)|(go_at_call 67;refine(KW.out _ _ (kx.trans k3) hv).mono ?_;rintro e w4 ⟨n3,a3,l3,c3,x3,m3,b3,k3n,d3,y3,rfl,hE,k4⟩;obtain⟨r0,r1,r2,r3,r4,r5,r6,rf⟩:=hP2.kept ((kx.trans k3).trans k4)))
 exact qoz (v:=env 0 n3 a3 l3 c3 x3 m3 b3 k3n d3 y3) (by simp[results,Tryz.results62,go_sem,r0,r1,r2,r3,r4,r5,r6]) rfl ⟨w4,B2,_,_,_,_,_,_,_,_,rfl,hE,hK.trans ((kx.trans k3).trans k4),oB.out.2.2.2.2.1,rfl⟩
theorem qkd (i1:Int)(n1:Bool)(a1:Option Addr)(l1 c1:Nat)(x1:Int)(m1:Bool)(b1:Option Addr)(k1 d1:Nat)(y1:Int)(i2:Int)(n2:Bool)(a2:Option Addr)(l2 c2:Nat)(x2:Int)(m2:Bool)(b2:Option Addr)(k2 d2:Nat)(y2:Int)(hne:(i2 != 0)=true)(w:World):
  Calls Tryz.prog 64 #[env i1 n1 a1 l1 c1 x1 m1 b1 k1 d1 y1,env i2 n2 a2 l2 c2 x2 m2 b2 k2 d2 y2] w fun e w'=>∃(u:World) (C:Nat) (v v0 v1 v2 v3 v4 v5 v6:Value),e=.returned v∧EnAt (fun c=>C<c) u v 0 ⟨false,[],0⟩ oneN5∧Kept w u∧w.heap.size≤C∧w'=xY u C v0 v1 v2 v3 v4 v5 v6:=by
 obtain⟨X,hX⟩:∃X,X=((w.alloc (.cells #[.int .i64 i1,.bool n1,.slice a1 l1 c1,.int .i64 x1,.bool m1,.slice b1 k1 d1,.int .i64 y1] 77)).alloc (.cells #[.int .i64 i2,.bool n2,.slice a2 l2 c2,.int .i64 x2,.bool m2,.slice b2 k2 d2,.int .i64 y2] 77)).alloc (.cells #[.int .i64 0,.bool false,.slice none 0 0,.int .i64 0,.bool false,.slice none 0 0,.int .i64 0] 77):=⟨_,rfl⟩
 have hK:Kept w X:=by rw[hX];exact(((qo0 w).alloc _ _).alloc _ _).alloc _ _
 have hXs:X.heap.size=w.heap.size+3:=by rw[hX];simp
 have hP0:P7 X (w.heap.size) (.int .i64 i1) (.bool n1) (.slice a1 l1 c1) (.int .i64 x1) (.bool m1) (.slice b1 k1 d1) (.int .i64 y1):=by
  rw[hX]
  have:=(((P7.new (w) (.int .i64 i1) (.bool n1) (.slice a1 l1 c1) (.int .i64 x1) (.bool m1) (.slice b1 k1 d1) (.int .i64 y1) 77).alloc #[.int .i64 i2,.bool n2,.slice a2 l2 c2,.int .i64 x2,.bool m2,.slice b2 k2 d2,.int .i64 y2] 77).alloc #[.int .i64 0,.bool false,.slice none 0 0,.int .i64 0,.bool false,.slice none 0 0,.int .i64 0] 77)
  simpa using this
 have hP1:P7 X (w.heap.size+1) (.int .i64 i2) (.bool n2) (.slice a2 l2 c2) (.int .i64 x2) (.bool m2) (.slice b2 k2 d2) (.int .i64 y2):=by
  rw[hX]
  have:=((P7.new (w.alloc (.cells #[.int .i64 i1,.bool n1,.slice a1 l1 c1,.int .i64 x1,.bool m1,.slice b1 k1 d1,.int .i64 y1] 77)) (.int .i64 i2) (.bool n2) (.slice a2 l2 c2) (.int .i64 x2) (.bool m2) (.slice b2 k2 d2) (.int .i64 y2) 77).alloc #[.int .i64 0,.bool false,.slice none 0 0,.int .i64 0,.bool false,.slice none 0 0,.int .i64 0] 77)
  simpa using this
 have hP2:P7 X (w.heap.size+1+1) (.int .i64 0) (.bool false) (.slice none 0 0) (.int .i64 0) (.bool false) (.slice none 0 0) (.int .i64 0):=by
  rw[hX]
  have:=(P7.new ((w.alloc (.cells #[.int .i64 i1,.bool n1,.slice a1 l1 c1,.int .i64 x1,.bool m1,.slice b1 k1 d1,.int .i64 y1] 77)).alloc (.cells #[.int .i64 i2,.bool n2,.slice a2 l2 c2,.int .i64 x2,.bool m2,.slice b2 k2 d2,.int .i64 y2] 77)) (.int .i64 0) (.bool false) (.slice none 0 0) (.int .i64 0) (.bool false) (.slice none 0 0) (.int .i64 0) 77)
  simpa using this
 obtain⟨B0,hB0⟩:∃B,B=w.heap.size:=⟨_,rfl⟩
 obtain⟨B1,hB1⟩:∃B,B=B0+1:=⟨_,rfl⟩
 obtain⟨B2,hB2⟩:∃B,B=B1+1:=⟨_,rfl⟩
 rw[←hB0]at hP0
 rw[←hB0,←hB1]at hP1
 rw[←hB0,←hB1,←hB2]at hP2
 have oB:Hid (w.heap.size≤B0∧B0<X.heap.size∧w.heap.size≤B1∧B1<X.heap.size∧w.heap.size≤B2∧B2<X.heap.size):=(show _∧_∧_∧_∧_∧_ from by omega)
 have oX:Hid (w.heap.size≤X.heap.size):=hK.below.size
 have KW:Hid (∀u,Kept X u→Calls Tryz.prog 67 #[.agg #[.bool false,.slice none 0 0,.int .i64 0]] u fun e w'=>∃(n3:Bool) (a3:Option Addr) (l3 c3:Nat) (x3:Int) (m3:Bool) (b3:Option Addr) (k3 d3:Nat) (y3:Int),e=.returned (env 0 n3 a3 l3 c3 x3 m3 b3 k3 d3 y3)∧EnAt (fun c=>B2<c) w' (env 0 n3 a3 l3 c3 x3 m3 b3 k3 d3 y3) 0 ⟨false,[],0⟩ oneN5∧Kept u w'):=fun u k=>by
  refine(xx (fun c=>B2<c) u ⟨false,[],0⟩ _ ⟨_,rfl,RLp.nil _ _⟩).mono ?_
  rintro e w' ⟨⟨q,rfl,hq⟩,k'⟩
  have h1:=k.below.size
  have h2:=oB.out
  have hq2:=hq.imp (Q:=fun c=>B2<c) (fun c hc=>hc.elim id (fun h=>by omega))
  obtain⟨n3,a3,l3,c3,x3,m3,b3,k3,d3,y3,rfl⟩:=hq.shape
  exact⟨n3,a3,l3,c3,x3,m3,b3,k3,d3,y3,rfl,hq2,k'⟩
 go_enter Tryz.func64,Tryz.ntmps64
 go_upto_region 1 with fail
 rw[←hX,←hB0,←hB1,←hB2]
 clear hX hXs hB0 hB1 hB2
 obtain⟨q0,q1,q2,q3,q4,q5,q6,qf⟩:=hP1
 go_wp2_with (first|(go_at_call 67;refine(KW.out _ (qo0 X)).mono ?_;rintro e w3 ⟨n3,a3,l3,c3,x3,m3,b3,k3,d3,y3,rfl,hE,k3'⟩;obtain⟨r0,r1,r2,r3,r4,r5,r6,rf⟩:=hP2.kept k3'))
 exact qoz (v:=env 0 n3 a3 l3 c3 x3 m3 b3 k3 d3 y3) (by simp[results,Tryz.results64,go_sem,r0,r1,r2,r3,r4,r5,r6]) rfl ⟨w3,B2,_,_,_,_,_,_,_,_,rfl,hE,hK.trans k3',oB.out.2.2.2.2.1,rfl⟩
theorem qke (i1:Int)(n1:Bool)(a1:Option Addr)(l1 c1:Nat)(x1:Int)(m1:Bool)(b1:Option Addr)(k1 d1:Nat)(y1:Int)(n2:Bool)(a2:Option Addr)(l2 c2:Nat)(x2:Int)(m2:Bool)(b2:Option Addr)(k2 d2:Nat)(y2:Int)(hne:(i1 != 0)=true)(s2 z:Int)(hz:IntKind.i64.wrap (i1*s2)=z)(w:World)
  (KS2:Hid (∀u,Calls Tryz.prog 63 #[env 0 n2 a2 l2 c2 x2 m2 b2 k2 d2 y2] u fun e w'=>e=.returned (.int .i64 s2)∧Kept u w')):
  Calls Tryz.prog 64 #[env i1 n1 a1 l1 c1 x1 m1 b1 k1 d1 y1,env 0 n2 a2 l2 c2 x2 m2 b2 k2 d2 y2] w fun e w'=>∃(u:World) (C:Nat) (v v0 v1 v2 v3 v4 v5 v6:Value),e=.returned v∧EnAt (fun c=>C<c) u v z ⟨false,[],0⟩ oneN5∧Kept w u∧w.heap.size≤C∧w'=xY u C v0 v1 v2 v3 v4 v5 v6:=by
 obtain⟨X,hX⟩:∃X,X=((w.alloc (.cells #[.int .i64 i1,.bool n1,.slice a1 l1 c1,.int .i64 x1,.bool m1,.slice b1 k1 d1,.int .i64 y1] 77)).alloc (.cells #[.int .i64 0,.bool n2,.slice a2 l2 c2,.int .i64 x2,.bool m2,.slice b2 k2 d2,.int .i64 y2] 77)).alloc (.cells #[.int .i64 0,.bool false,.slice none 0 0,.int .i64 0,.bool false,.slice none 0 0,.int .i64 0] 77):=⟨_,rfl⟩
 have hK:Kept w X:=by rw[hX];exact(((qo0 w).alloc _ _).alloc _ _).alloc _ _
 have hXs:X.heap.size=w.heap.size+3:=by rw[hX];simp
 have hP0:P7 X (w.heap.size) (.int .i64 i1) (.bool n1) (.slice a1 l1 c1) (.int .i64 x1) (.bool m1) (.slice b1 k1 d1) (.int .i64 y1):=by
  rw[hX]
  have:=(((P7.new (w) (.int .i64 i1) (.bool n1) (.slice a1 l1 c1) (.int .i64 x1) (.bool m1) (.slice b1 k1 d1) (.int .i64 y1) 77).alloc #[.int .i64 0,.bool n2,.slice a2 l2 c2,.int .i64 x2,.bool m2,.slice b2 k2 d2,.int .i64 y2] 77).alloc #[.int .i64 0,.bool false,.slice none 0 0,.int .i64 0,.bool false,.slice none 0 0,.int .i64 0] 77)
  simpa using this
 have hP1:P7 X (w.heap.size+1) (.int .i64 0) (.bool n2) (.slice a2 l2 c2) (.int .i64 x2) (.bool m2) (.slice b2 k2 d2) (.int .i64 y2):=by
  rw[hX]
  have:=((P7.new (w.alloc (.cells #[.int .i64 i1,.bool n1,.slice a1 l1 c1,.int .i64 x1,.bool m1,.slice b1 k1 d1,.int .i64 y1] 77)) (.int .i64 0) (.bool n2) (.slice a2 l2 c2) (.int .i64 x2) (.bool m2) (.slice b2 k2 d2) (.int .i64 y2) 77).alloc #[.int .i64 0,.bool false,.slice none 0 0,.int .i64 0,.bool false,.slice none 0 0,.int .i64 0] 77)
  simpa using this
 have hP2:P7 X (w.heap.size+1+1) (.int .i64 0) (.bool false) (.slice none 0 0) (.int .i64 0) (.bool false) (.slice none 0 0) (.int .i64 0):=by
  rw[hX]
  have:=(P7.new ((w.alloc (.cells #[.int .i64 i1,.bool n1,.slice a1 l1 c1,.int .i64 x1,.bool m1,.slice b1 k1 d1,.int .i64 y1] 77)).alloc (.cells #[.int .i64 0,.bool n2,.slice a2 l2 c2,.int .i64 x2,.bool m2,.slice b2 k2 d2,.int .i64 y2] 77)) (.int .i64 0) (.bool false) (.slice none 0 0) (.int .i64 0) (.bool false) (.slice none 0 0) (.int .i64 0) 77)
  simpa using this
 obtain⟨B0,hB0⟩:∃B,B=w.heap.size:=⟨_,rfl⟩
 obtain⟨B1,hB1⟩:∃B,B=B0+1:=⟨_,rfl⟩
 obtain⟨B2,hB2⟩:∃B,B=B1+1:=⟨_,rfl⟩
 rw[←hB0]at hP0
 rw[←hB0,←hB1]at hP1
 rw[←hB0,←hB1,←hB2]at hP2
 have oB:Hid (w.heap.size≤B0∧B0<X.heap.size∧w.heap.size≤B1∧B1<X.heap.size∧w.heap.size≤B2∧B2<X.heap.size):=(show _∧_∧_∧_∧_∧_ from by omega)
 have oX:Hid (w.heap.size≤X.heap.size):=hK.below.size
 have KW:Hid (∀u,Kept X u→Calls Tryz.prog 89 #[.int .i64 1] u fun e w'=>∃(m3:Bool) (b3:Option Addr) (k3 d3:Nat) (y3:Int),e=.returned (.agg #[.bool m3,.slice b3 k3 d3,.int .i64 y3])∧RNp (fun c=>B2<c) w' (.agg #[.bool m3,.slice b3 k3 d3,.int .i64 y3]) oneN5∧Kept u w'):=fun u k=>by
  refine(qj5 u).mono ?_
  rintro e w' ⟨⟨r,rfl,hr⟩,k'⟩
  have h1:=k.below.size
  have h2:=oB.out
  have hr2:=hr.imp (Q:=fun c=>B2<c) (fun c hc=>by simp only[qn]at hc;omega)
  obtain⟨n2,a2,l2,c2,x2,rfl⟩:=hr.shape5
  exact⟨n2,a2,l2,c2,x2,rfl,hr2,k'⟩
 have HS:Hid (∀u,Kept X u→Kept X u∧u.cell? ⟨B0,0,none⟩=some (.int .i64 i1)∧u.cell? ⟨B0,1,none⟩=some (.bool n1)∧u.cell? ⟨B0,2,none⟩=some (.slice a1 l1 c1)∧u.cell? ⟨B0,3,none⟩=some (.int .i64 x1)∧u.cell? ⟨B0,4,none⟩=some (.bool m1)∧u.cell? ⟨B0,5,none⟩=some (.slice b1 k1 d1)∧u.cell? ⟨B0,6,none⟩=some (.int .i64 y1)∧u.cell? ⟨B1,0,none⟩=some (.int .i64 0)∧u.cell? ⟨B1,1,none⟩=some (.bool n2)∧u.cell? ⟨B1,2,none⟩=some (.slice a2 l2 c2)∧u.cell? ⟨B1,3,none⟩=some (.int .i64 x2)∧u.cell? ⟨B1,4,none⟩=some (.bool m2)∧u.cell? ⟨B1,5,none⟩=some (.slice b2 k2 d2)∧u.cell? ⟨B1,6,none⟩=some (.int .i64 y2)):=fun u k=>⟨k,(hP0.kept k).c0,(hP0.kept k).c1,(hP0.kept k).c2,(hP0.kept k).c3,(hP0.kept k).c4,(hP0.kept k).c5,(hP0.kept k).c6,(hP1.kept k).c0,(hP1.kept k).c1,(hP1.kept k).c2,(hP1.kept k).c3,(hP1.kept k).c4,(hP1.kept k).c5,(hP1.kept k).c6⟩
 go_enter Tryz.func64,Tryz.ntmps64
 go_upto_region 1 with fail
 rw[←hX,←hB0,←hB1,←hB2]
 clear hX hXs hB0 hB1 hB2
 obtain⟨p0,p1,p2,p3,p4,p5,p6,pf⟩:=hP0.kept (qo0 X)
 obtain⟨q0,q1,q2,q3,q4,q5,q6,qf⟩:=hP1.kept (qo0 X)
 go_upto_region 4 with fail
 clear p0 p1 p2 p3 p4 p5 p6 pf q0 q1 q2 q3 q4 q5 q6 qf
 refine qm [7] (fun u=>Kept X u∧u.cell? ⟨B0,0,none⟩=some (.int .i64 i1)∧u.cell? ⟨B0,1,none⟩=some (.bool n1)∧u.cell? ⟨B0,2,none⟩=some (.slice a1 l1 c1)∧u.cell? ⟨B0,3,none⟩=some (.int .i64 x1)∧u.cell? ⟨B0,4,none⟩=some (.bool m1)∧u.cell? ⟨B0,5,none⟩=some (.slice b1 k1 d1)∧u.cell? ⟨B0,6,none⟩=some (.int .i64 y1)∧u.cell? ⟨B1,0,none⟩=some (.int .i64 0)∧u.cell? ⟨B1,1,none⟩=some (.bool n2)∧u.cell? ⟨B1,2,none⟩=some (.slice a2 l2 c2)∧u.cell? ⟨B1,3,none⟩=some (.int .i64 x2)∧u.cell? ⟨B1,4,none⟩=some (.bool m2)∧u.cell? ⟨B1,5,none⟩=some (.slice b2 k2 d2)∧u.cell? ⟨B1,6,none⟩=some (.int .i64 y2)) (by kernel_rfl) (HS.out _ (qo0 X).drew) (fun hHeld=>?_)
 refine tkD (i:=0) (v:=?_) rfl hHeld ?_
 try simp only[zz]
 refine tkD (i:=1) (v:=?_) rfl hHeld ?_
 try simp only[zz]
 refine tkD (i:=2) (v:=?_) rfl hHeld ?_
 try simp only[zz]
 refine qi (i:=3) (by kernel_rfl) rfl (fun K hK9=>?_)
 go_simp
 go_wp2_with fail
 refine(KS2.out _).mono ?_
 rintro e u1 ⟨rfl,k1⟩
 refine hK9.out _ _ (HS.out _ (hHeld.1.trans k1)) (fun hH1=>?_)
 clear hK9 K
 try simp only[zz]
 refine tkD (i:=4) (v:=?_) rfl hH1 ?_
 try simp only[zz]
 refine qi (i:=5) (by kernel_rfl) rfl (fun K hK9=>?_)
 go_simp
 go_wp2_with fail
 refine(KW.out _ hH1.1).mono ?_
 rintro e u2 ⟨m3,b3,k3,d3,y3,rfl,hE,k2⟩
 refine hK9.out _ _ (HS.out _ (hH1.1.trans k2)) (fun hH2=>?_)
 clear hK9 K
 try simp only[zz]
 refine tkD (i:=6) (v:=?_) rfl hH2 ?_
 try simp only[zz]
 obtain⟨r0,r1,r2,r3,r4,r5,r6,rf⟩:=hP2.kept hH2.1
 refine zT (i:=7) (by kernel_rfl) rfl rfl (fun K hK9=>?_)
 go_simp
 refine hK9.out _ _ ?_
 clear hK9 K
 try simp only[zz]
 refine qs (by kernel_rfl) ?_ _
 try simp only[zz]
 go_wp2_with fail
 have h0:RNp (fun c=>B2<c) u2 (.agg #[.bool false,.slice none 0 0,.int .i64 0]) ⟨false,[],0⟩:=⟨_,rfl,RLp.nil _ _⟩
 exact qoz (v:=env z false none 0 0 0 m3 b3 k3 d3 y3) (by simp[results,Tryz.results64,go_sem,r0,r1,r2,r3,r4,r5,r6,hz]) rfl ⟨u2,B2,_,_,_,_,_,_,_,_,rfl,h0.en (v1:=.bool true) (v2:=.bool true) z hE,hK.trans hH2.1,oB.out.2.2.2.2.1,rfl⟩
theorem qkf (n1:Bool)(a1:Option Addr)(l1 c1:Nat)(x1:Int)(m1:Bool)(b1:Option Addr)(k1 d1:Nat)(y1:Int)(a2:Option Addr)(l2 c2:Nat)(x2:Int)(m2:Bool)(b2:Option Addr)(k2 d2:Nat)(y2:Int)(ng1 ng2:Bool)(w:World):
  Calls Tryz.prog 64 #[env 0 n1 a1 l1 c1 x1 m1 b1 k1 d1 y1,env 0 false a2 l2 c2 x2 m2 b2 k2 d2 y2] w fun e w'=>∃(u:World) (C:Nat) (v0 v1 v2 v3 v4 v5 v6:Value),e=.returned (env 0 n1 a1 l1 c1 x1 false a2 l2 c2 x2)∧Kept w u∧w.heap.size≤C∧w'=xY u C v0 v1 v2 v3 v4 v5 v6:=by
 obtain⟨X,hX⟩:∃X,X=((w.alloc (.cells #[.int .i64 0,.bool n1,.slice a1 l1 c1,.int .i64 x1,.bool m1,.slice b1 k1 d1,.int .i64 y1] 77)).alloc (.cells #[.int .i64 0,.bool false,.slice a2 l2 c2,.int .i64 x2,.bool m2,.slice b2 k2 d2,.int .i64 y2] 77)).alloc (.cells #[.int .i64 0,.bool false,.slice none 0 0,.int .i64 0,.bool false,.slice none 0 0,.int .i64 0] 77):=⟨_,rfl⟩
 have hK:Kept w X:=by rw[hX];exact(((qo0 w).alloc _ _).alloc _ _).alloc _ _
 have hXs:X.heap.size=w.heap.size+3:=by rw[hX];simp
 have hP0:P7 X (w.heap.size) (.int .i64 0) (.bool n1) (.slice a1 l1 c1) (.int .i64 x1) (.bool m1) (.slice b1 k1 d1) (.int .i64 y1):=by
  rw[hX]
  have:=(((P7.new (w) (.int .i64 0) (.bool n1) (.slice a1 l1 c1) (.int .i64 x1) (.bool m1) (.slice b1 k1 d1) (.int .i64 y1) 77).alloc #[.int .i64 0,.bool false,.slice a2 l2 c2,.int .i64 x2,.bool m2,.slice b2 k2 d2,.int .i64 y2] 77).alloc #[.int .i64 0,.bool false,.slice none 0 0,.int .i64 0,.bool false,.slice none 0 0,.int .i64 0] 77)
  simpa using this
 have hP1:P7 X (w.heap.size+1) (.int .i64 0) (.bool false) (.slice a2 l2 c2) (.int .i64 x2) (.bool m2) (.slice b2 k2 d2) (.int .i64 y2):=by
  rw[hX]
  have:=((P7.new (w.alloc (.cells #[.int .i64 0,.bool n1,.slice a1 l1 c1,.int .i64 x1,.bool m1,.slice b1 k1 d1,.int .i64 y1] 77)) (.int .i64 0) (.bool false) (.slice a2 l2 c2) (.int .i64 x2) (.bool m2) (.slice b2 k2 d2) (.int .i64 y2) 77).alloc #[.int .i64 0,.bool false,.slice none 0 0,.int .i64 0,.bool false,.slice none 0 0,.int .i64 0] 77)
  simpa using this
 have hP2:P7 X (w.heap.size+1+1) (.int .i64 0) (.bool false) (.slice none 0 0) (.int .i64 0) (.bool false) (.slice none 0 0) (.int .i64 0):=by
  rw[hX]
  have:=(P7.new ((w.alloc (.cells #[.int .i64 0,.bool n1,.slice a1 l1 c1,.int .i64 x1,.bool m1,.slice b1 k1 d1,.int .i64 y1] 77)).alloc (.cells #[.int .i64 0,.bool false,.slice a2 l2 c2,.int .i64 x2,.bool m2,.slice b2 k2 d2,.int .i64 y2] 77)) (.int .i64 0) (.bool false) (.slice none 0 0) (.int .i64 0) (.bool false) (.slice none 0 0) (.int .i64 0) 77)
  simpa using this
 obtain⟨B0,hB0⟩:∃B,B=w.heap.size:=⟨_,rfl⟩
 obtain⟨B1,hB1⟩:∃B,B=B0+1:=⟨_,rfl⟩
 obtain⟨B2,hB2⟩:∃B,B=B1+1:=⟨_,rfl⟩
 rw[←hB0]at hP0
 rw[←hB0,←hB1]at hP1
 rw[←hB0,←hB1,←hB2]at hP2
 have oB:Hid (w.heap.size≤B0∧B0<X.heap.size∧w.heap.size≤B1∧B1<X.heap.size∧w.heap.size≤B2∧B2<X.heap.size):=(show _∧_∧_∧_∧_∧_ from by omega)
 have oX:Hid (w.heap.size≤X.heap.size):=hK.below.size
 go_enter Tryz.func64,Tryz.ntmps64
 go_upto_region 1 with fail
 rw[←hX,←hB0,←hB1,←hB2]
 clear hX hXs hB0 hB1 hB2
 obtain⟨p0,p1,p2,p3,p4,p5,p6,pf⟩:=hP0.kept (qo0 X)
 obtain⟨q0,q1,q2,q3,q4,q5,q6,qf⟩:=hP1.kept (qo0 X)
 go_upto_region 6 with fail
 clear p0 p1 p2 p3 p4 p5 p6 pf q0 q1 q2 q3 q4 q5 q6 qf
 obtain⟨Y1,hY1⟩:∃Y,Y=X.alloc (.cells #[.bool n1,.slice a1 l1 c1,.int .i64 x1] 31):=⟨_,rfl⟩
 have kY1:Kept X Y1:=by rw[hY1];exact(qo0 X).alloc _ _
 have hN1:P3 Y1 X.heap.size (.bool n1) (.slice a1 l1 c1) (.int .i64 x1)∧(∀o,Y1.frozen? ⟨X.heap.size,o,none⟩=false):=by
  rw[hY1]
  exact⟨P3.new X _ _ _ _,fun o=>by simp[go_sem]⟩
 have hYs:Y1.heap.size=X.heap.size+1:=by rw[hY1];simp
 obtain⟨D1,hD1⟩:∃B,B=X.heap.size:=⟨_,rfl⟩
 rw[←hD1]at hN1
 rw[←hY1,←hD1]
 have oD1:Hid (X.heap.size≤D1∧D1<Y1.heap.size):=(show _∧_ from by omega)
 clear hY1 hD1 hYs
 obtain⟨q0,q1,q2,q3,q4,q5,q6,qf⟩:=hP1.kept kY1
 go_upto_region 7 with fail
 clear q0 q1 q2 q3 q4 q5 q6 qf
 obtain⟨Y,hY⟩:∃Y,Y=Y1.alloc (.cells #[.bool false,.slice a2 l2 c2,.int .i64 x2] 31):=⟨_,rfl⟩
 have kY':Kept Y1 Y:=by rw[hY];exact(qo0 Y1).alloc _ _
 have kY:=kY1.trans kY'
 have hN1:P3 Y D1 (.bool n1) (.slice a1 l1 c1) (.int .i64 x1)∧(∀o,Y.frozen? ⟨D1,o,none⟩=false):=⟨hN1.1.kept kY',fun o=>(kY'.frozen _).trans (hN1.2 o)⟩
 have hN2:P3 Y Y1.heap.size (.bool false) (.slice a2 l2 c2) (.int .i64 x2)∧(∀o,Y.frozen? ⟨Y1.heap.size,o,none⟩=false):=by
  rw[hY]
  exact⟨P3.new Y1 _ _ _ _,fun o=>by simp[go_sem]⟩
 obtain⟨D2,hD2⟩:∃B,B=Y1.heap.size:=⟨_,rfl⟩
 rw[←hD2]at hN2
 rw[←hY,←hD2]
 have oD:Hid (X.heap.size≤D1∧X.heap.size≤D2∧D1≠D2∧B2≠D1∧B2≠D2):=(show _∧_∧_∧_∧_ from by have:=oB.out;have:=oD1.out;omega)
 clear hY hD2 oD1 kY' kY1
 obtain⟨⟨p0,p1,p2⟩,pf⟩:=hN1
 obtain⟨⟨q0,q1,q2⟩,qf⟩:=hN2
 obtain⟨r0,r1,r2,r3,r4,r5,r6,rf⟩:=hP2.kept kY
 go_wp2_with fail
 exact qoz (v:=env 0 n1 a1 l1 c1 x1 false a2 l2 c2 x2) (by simp[results,Tryz.results64,go_sem,r0,r1,r2,r3,r4,r5,r6]) rfl ⟨Y,B2,_,_,_,_,_,_,_,rfl,hK.trans kY,oB.out.2.2.2.2.1,rfl⟩
theorem qkg (n1:Bool)(a1:Option Addr)(l1 c1:Nat)(x1:Int)(m1:Bool)(b1:Option Addr)(k1 d1:Nat)(y1:Int)(a2:Option Addr)(l2 c2:Nat)(x2:Int)(m2:Bool)(b2:Option Addr)(k2 d2:Nat)(y2:Int)(ng1 ng2:Bool)(w:World)
  (KT1:Hid (∀u,Calls Tryz.prog 96 #[.agg #[.bool n1,.slice a1 l1 c1,.int .i64 x1]] u fun e w'=>e=.returned (.agg #[.bool ng1,.slice a1 l1 c1,.int .i64 x1])∧Kept u w'))
  (KT2:Hid (∀u,Calls Tryz.prog 96 #[.agg #[.bool true,.slice a2 l2 c2,.int .i64 x2]] u fun e w'=>e=.returned (.agg #[.bool ng2,.slice a2 l2 c2,.int .i64 x2])∧Kept u w')):
  Calls Tryz.prog 64 #[env 0 n1 a1 l1 c1 x1 m1 b1 k1 d1 y1,env 0 true a2 l2 c2 x2 m2 b2 k2 d2 y2] w fun e w'=>∃(u:World) (C:Nat) (v0 v1 v2 v3 v4 v5 v6:Value),e=.returned (env 0 ng1 a1 l1 c1 x1 ng2 a2 l2 c2 x2)∧Kept w u∧w.heap.size≤C∧w'=xY u C v0 v1 v2 v3 v4 v5 v6:=by
 obtain⟨X,hX⟩:∃X,X=((w.alloc (.cells #[.int .i64 0,.bool n1,.slice a1 l1 c1,.int .i64 x1,.bool m1,.slice b1 k1 d1,.int .i64 y1] 77)).alloc (.cells #[.int .i64 0,.bool true,.slice a2 l2 c2,.int .i64 x2,.bool m2,.slice b2 k2 d2,.int .i64 y2] 77)).alloc (.cells #[.int .i64 0,.bool false,.slice none 0 0,.int .i64 0,.bool false,.slice none 0 0,.int .i64 0] 77):=⟨_,rfl⟩
 have hK:Kept w X:=by rw[hX];exact(((qo0 w).alloc _ _).alloc _ _).alloc _ _
 have hXs:X.heap.size=w.heap.size+3:=by rw[hX];simp
 have hP0:P7 X (w.heap.size) (.int .i64 0) (.bool n1) (.slice a1 l1 c1) (.int .i64 x1) (.bool m1) (.slice b1 k1 d1) (.int .i64 y1):=by
  rw[hX]
  have:=(((P7.new (w) (.int .i64 0) (.bool n1) (.slice a1 l1 c1) (.int .i64 x1) (.bool m1) (.slice b1 k1 d1) (.int .i64 y1) 77).alloc #[.int .i64 0,.bool true,.slice a2 l2 c2,.int .i64 x2,.bool m2,.slice b2 k2 d2,.int .i64 y2] 77).alloc #[.int .i64 0,.bool false,.slice none 0 0,.int .i64 0,.bool false,.slice none 0 0,.int .i64 0] 77)
  simpa using this
 have hP1:P7 X (w.heap.size+1) (.int .i64 0) (.bool true) (.slice a2 l2 c2) (.int .i64 x2) (.bool m2) (.slice b2 k2 d2) (.int .i64 y2):=by
  rw[hX]
  have:=((P7.new (w.alloc (.cells #[.int .i64 0,.bool n1,.slice a1 l1 c1,.int .i64 x1,.bool m1,.slice b1 k1 d1,.int .i64 y1] 77)) (.int .i64 0) (.bool true) (.slice a2 l2 c2) (.int .i64 x2) (.bool m2) (.slice b2 k2 d2) (.int .i64 y2) 77).alloc #[.int .i64 0,.bool false,.slice none 0 0,.int .i64 0,.bool false,.slice none 0 0,.int .i64 0] 77)
  simpa using this
 have hP2:P7 X (w.heap.size+1+1) (.int .i64 0) (.bool false) (.slice none 0 0) (.int .i64 0) (.bool false) (.slice none 0 0) (.int .i64 0):=by
  rw[hX]
  have:=(P7.new ((w.alloc (.cells #[.int .i64 0,.bool n1,.slice a1 l1 c1,.int .i64 x1,.bool m1,.slice b1 k1 d1,.int .i64 y1] 77)).alloc (.cells #[.int .i64 0,.bool true,.slice a2 l2 c2,.int .i64 x2,.bool m2,.slice b2 k2 d2,.int .i64 y2] 77)) (.int .i64 0) (.bool false) (.slice none 0 0) (.int .i64 0) (.bool false) (.slice none 0 0) (.int .i64 0) 77)
  simpa using this
 obtain⟨B0,hB0⟩:∃B,B=w.heap.size:=⟨_,rfl⟩
 obtain⟨B1,hB1⟩:∃B,B=B0+1:=⟨_,rfl⟩
 obtain⟨B2,hB2⟩:∃B,B=B1+1:=⟨_,rfl⟩
 rw[←hB0]at hP0
 rw[←hB0,←hB1]at hP1
 rw[←hB0,←hB1,←hB2]at hP2
 have oB:Hid (w.heap.size≤B0∧B0<X.heap.size∧w.heap.size≤B1∧B1<X.heap.size∧w.heap.size≤B2∧B2<X.heap.size):=(show _∧_∧_∧_∧_∧_ from by omega)
 have oX:Hid (w.heap.size≤X.heap.size):=hK.below.size
 go_enter Tryz.func64,Tryz.ntmps64
 go_upto_region 1 with fail
 rw[←hX,←hB0,←hB1,←hB2]
 clear hX hXs hB0 hB1 hB2
 obtain⟨p0,p1,p2,p3,p4,p5,p6,pf⟩:=hP0.kept (qo0 X)
 obtain⟨q0,q1,q2,q3,q4,q5,q6,qf⟩:=hP1.kept (qo0 X)
 go_upto_region 6 with fail
 clear p0 p1 p2 p3 p4 p5 p6 pf q0 q1 q2 q3 q4 q5 q6 qf
 obtain⟨Y1,hY1⟩:∃Y,Y=X.alloc (.cells #[.bool n1,.slice a1 l1 c1,.int .i64 x1] 31):=⟨_,rfl⟩
 have kY1:Kept X Y1:=by rw[hY1];exact(qo0 X).alloc _ _
 have hN1:P3 Y1 X.heap.size (.bool n1) (.slice a1 l1 c1) (.int .i64 x1)∧(∀o,Y1.frozen? ⟨X.heap.size,o,none⟩=false):=by
  rw[hY1]
  exact⟨P3.new X _ _ _ _,fun o=>by simp[go_sem]⟩
 have hYs:Y1.heap.size=X.heap.size+1:=by rw[hY1];simp
 obtain⟨D1,hD1⟩:∃B,B=X.heap.size:=⟨_,rfl⟩
 rw[←hD1]at hN1
 rw[←hY1,←hD1]
 have oD1:Hid (X.heap.size≤D1∧D1<Y1.heap.size):=(show _∧_ from by omega)
 clear hY1 hD1 hYs
 obtain⟨q0,q1,q2,q3,q4,q5,q6,qf⟩:=hP1.kept kY1
 go_upto_region 7 with fail
 clear q0 q1 q2 q3 q4 q5 q6 qf
 obtain⟨Y,hY⟩:∃Y,Y=Y1.alloc (.cells #[.bool true,.slice a2 l2 c2,.int .i64 x2] 31):=⟨_,rfl⟩
 have kY':Kept Y1 Y:=by rw[hY];exact(qo0 Y1).alloc _ _
 have kY:=kY1.trans kY'
 have hN1:P3 Y D1 (.bool n1) (.slice a1 l1 c1) (.int .i64 x1)∧(∀o,Y.frozen? ⟨D1,o,none⟩=false):=⟨hN1.1.kept kY',fun o=>(kY'.frozen _).trans (hN1.2 o)⟩
 have hN2:P3 Y Y1.heap.size (.bool true) (.slice a2 l2 c2) (.int .i64 x2)∧(∀o,Y.frozen? ⟨Y1.heap.size,o,none⟩=false):=by
  rw[hY]
  exact⟨P3.new Y1 _ _ _ _,fun o=>by simp[go_sem]⟩
 obtain⟨D2,hD2⟩:∃B,B=Y1.heap.size:=⟨_,rfl⟩
 rw[←hD2]at hN2
 rw[←hY,←hD2]
 have oD:Hid (X.heap.size≤D1∧X.heap.size≤D2∧D1≠D2∧B2≠D1∧B2≠D2):=(show _∧_∧_∧_∧_ from by have:=oB.out;have:=oD1.out;omega)
 clear hY hD2 oD1 kY' kY1
 obtain⟨⟨p0,p1,p2⟩,pf⟩:=hN1
 obtain⟨⟨q0,q1,q2⟩,qf⟩:=hN2
 have hN1:=P3.mk p0 p1 p2
 have hN2:=P3.mk q0 q1 q2
 have HF1:Hid (∀o,Y.frozen? ⟨D1,o,none⟩=false):=pf
 have HF2:Hid (∀o,Y.frozen? ⟨D2,o,none⟩=false):=qf
 go_upto_region 9 with (first|(go_at_call 96;refine(KT1.out _).mono ?_;rintro e w1 ⟨rfl,k1⟩;have g0:=(hN1.kept k1).c0;have g1:=(hN1.kept k1).c1;have g2:=(hN1.kept k1).c2;have gf:∀o,w1.frozen? ⟨D1,o,none⟩=false:=fun o=>(k1.frozen _).trans (HF1.out o)))
 have hnn:=oD.out.2.2.1
 have hM2:=hN2.kept k1
 have f2:∀o,w1.frozen? ⟨D2,o,none⟩=false:=fun o=>(k1.frozen _).trans (HF2.out o)
 clear p0 p1 p2 pf q0 q1 q2 qf
 obtain⟨Z,hZ⟩:∃Z,Z=((w1.setCell ⟨D1,0,none⟩ (.bool ng1)).setCell ⟨D1,1,none⟩ (.slice a1 l1 c1)).setCell ⟨D1,2,none⟩ (.int .i64 x1):=⟨_,rfl⟩
 have kZ:Kept X Z:=by
  rw[hZ]
  exact(((kY.trans k1).setCell (p:=⟨D1,0,none⟩) oD.out.1 _).setCell (p:=⟨D1,1,none⟩) oD.out.1 _).setCell (p:=⟨D1,2,none⟩) oD.out.1 _
 have hA:P3 Z D1 (.bool ng1) (.slice a1 l1 c1) (.int .i64 x1):=by
  rw[hZ]
  exact⟨by simp[go_sem,g0,g1,g2],by simp[go_sem,g0,g1,g2],by simp[go_sem,g0,g1,g2]⟩
 have hB':P3 Z D2 (.bool true) (.slice a2 l2 c2) (.int .i64 x2):=by
  rw[hZ]
  obtain⟨q0,q1,q2⟩:=hM2
  exact⟨by simp[go_sem,q0,hnn,Ne.symm hnn],by simp[go_sem,q1,hnn,Ne.symm hnn],by simp[go_sem,q2,hnn,Ne.symm hnn]⟩
 have hFZ:∀o,Z.frozen? ⟨D2,o,none⟩=false:=fun o=>by rw[hZ];simp[World.frozen?_setCell,f2]
 rw[←hZ]
 clear hZ g0 g1 g2 gf f2 hM2 hN1 hN2
 obtain⟨q0,q1,q2⟩:=hB'
 have hB':=P3.mk q0 q1 q2
 have HFZ:Hid (∀o,Z.frozen? ⟨D2,o,none⟩=false):=hFZ
 clear hFZ
 go_upto_region 10 with (first|(go_at_call 96;refine(KT2.out _).mono ?_;rintro e w2 ⟨rfl,k2⟩;have g0:=(hB'.kept k2).c0;have g1:=(hB'.kept k2).c1;have g2:=(hB'.kept k2).c2;have gf:∀o,w2.frozen? ⟨D2,o,none⟩=false:=fun o=>(k2.frozen _).trans (HFZ.out o)))
 clear q0 q1 q2
 obtain⟨V,hV⟩:∃Z,Z=((w2.setCell ⟨D2,0,none⟩ (.bool ng2)).setCell ⟨D2,1,none⟩ (.slice a2 l2 c2)).setCell ⟨D2,2,none⟩ (.int .i64 x2):=⟨_,rfl⟩
 have kV:Kept X V:=by
  rw[hV]
  exact(((kZ.trans k2).setCell (p:=⟨D2,0,none⟩) oD.out.2.1 _).setCell (p:=⟨D2,1,none⟩) oD.out.2.1 _).setCell (p:=⟨D2,2,none⟩) oD.out.2.1 _
 have hB2:P3 V D2 (.bool ng2) (.slice a2 l2 c2) (.int .i64 x2):=by
  rw[hV]
  exact⟨by simp[go_sem,g0,g1,g2],by simp[go_sem,g0,g1,g2],by simp[go_sem,g0,g1,g2]⟩
 have hA2:P3 V D1 (.bool ng1) (.slice a1 l1 c1) (.int .i64 x1):=by
  rw[hV]
  obtain⟨q0,q1,q2⟩:=hA.kept k2
  exact⟨by simp[go_sem,q0,hnn,Ne.symm hnn],by simp[go_sem,q1,hnn,Ne.symm hnn],by simp[go_sem,q2,hnn,Ne.symm hnn]⟩
 rw[←hV]
 clear hV g0 g1 g2 gf hA hB' HFZ
 obtain⟨p0,p1,p2⟩:=hA2
 obtain⟨q0,q1,q2⟩:=hB2
 obtain⟨r0,r1,r2,r3,r4,r5,r6,rf⟩:=hP2.kept kV
 go_wp2_with fail
 exact qoz (v:=env 0 ng1 a1 l1 c1 x1 ng2 a2 l2 c2 x2) (by simp[results,Tryz.results64,go_sem,r0,r1,r2,r3,r4,r5,r6]) rfl ⟨V,B2,_,_,_,_,_,_,_,rfl,hK.trans kV,oB.out.2.2.2.2.1,rfl⟩
end Go.Proofs.YtaglkncdedeipaaGreatDoor
