/-  -/
import Derived.Test.YtaglkncdedeipaaGreatDoorWs27
import Derived.Test.YtaglkncdedeipaaGreatDoorWs13
namespace Go.Proofs.YtaglkncdedeipaaGreatDoor
open Go.ChangeShapes Go.WideShapes Go.ChangeAt Go.RowKit
set_option linter.unusedVariables false
set_option linter.unusedSimpArgs false
set_option maxHeartbeats 16000000
set_option maxRecDepth 100000
structure P7 (w:World) (b:Nat) (v0 v1 v2 v3 v4 v5 v6:Value):Prop where
 c0:w.cell? ⟨b,0,none⟩=some v0
 c1:w.cell? ⟨b,1,none⟩=some v1
 c2:w.cell? ⟨b,2,none⟩=some v2
 c3:w.cell? ⟨b,3,none⟩=some v3
 c4:w.cell? ⟨b,4,none⟩=some v4
 c5:w.cell? ⟨b,5,none⟩=some v5
 c6:w.cell? ⟨b,6,none⟩=some v6
 fz:∀o,w.frozen? ⟨b,o,none⟩=false
theorem P7.new (w:World)(v0 v1 v2 v3 v4 v5 v6:Value)(t:TypeId):P7 (w.alloc (.cells #[v0,v1,v2,v3,v4,v5,v6] t)) w.heap.size v0 v1 v2 v3 v4 v5 v6:=⟨by simp[go_sem],by simp[go_sem],by simp[go_sem],by simp[go_sem],by simp[go_sem],by simp[go_sem],by simp[go_sem],fun o=>by simp[go_sem]⟩
theorem P7.lt {w:World}{b:Nat}{v0 v1 v2 v3 v4 v5 v6:Value}(h:P7 w b v0 v1 v2 v3 v4 v5 v6):b<w.heap.size:=by
 have:=h.c0
 by_cases hb:b<w.heap.size
 ·exact hb
 ·have hg:w.heap[b]?=none:=by simp at hb ⊢;omega
  simp[World.cell?,hg]at this
theorem P7.kept {w w':World}{b:Nat}{v0 v1 v2 v3 v4 v5 v6:Value}(h:P7 w b v0 v1 v2 v3 v4 v5 v6)(k:Kept w w'):P7 w' b v0 v1 v2 v3 v4 v5 v6:=
 ⟨(k.below.cell (p:=⟨b,0,none⟩) h.lt).trans h.c0,(k.below.cell (p:=⟨b,1,none⟩) h.lt).trans h.c1,(k.below.cell (p:=⟨b,2,none⟩) h.lt).trans h.c2,(k.below.cell (p:=⟨b,3,none⟩) h.lt).trans h.c3,(k.below.cell (p:=⟨b,4,none⟩) h.lt).trans h.c4,(k.below.cell (p:=⟨b,5,none⟩) h.lt).trans h.c5,(k.below.cell (p:=⟨b,6,none⟩) h.lt).trans h.c6,fun o=>(k.frozen _).trans (h.fz o)⟩
theorem P7.alloc {w:World}{b:Nat}{v0 v1 v2 v3 v4 v5 v6:Value}(h:P7 w b v0 v1 v2 v3 v4 v5 v6)(c:Array Value)(t:TypeId):P7 (w.alloc (.cells c t)) b v0 v1 v2 v3 v4 v5 v6:=h.kept ((qia w).alloc c t)
abbrev Zu (w:World)(b:Nat)(v0 v1 v2 v3 v4 v5 v6:Value):World:=((((((w.setCell ⟨b,0,none⟩ v0).setCell ⟨b,1,none⟩ v1).setCell ⟨b,2,none⟩ v2).setCell ⟨b,3,none⟩ v3).setCell ⟨b,4,none⟩ v4).setCell ⟨b,5,none⟩ v5).setCell ⟨b,6,none⟩ v6
theorem P7.put {w:World}{b:Nat}{u0 u1 u2 u3 u4 u5 u6:Value}(h:P7 w b u0 u1 u2 u3 u4 u5 u6)(v0 v1 v2 v3 v4 v5 v6:Value):P7 (Zu w b v0 v1 v2 v3 v4 v5 v6) b v0 v1 v2 v3 v4 v5 v6:=by
 obtain⟨c0,c1,c2,c3,c4,c5,c6,fz⟩:=h
 exact⟨by simp[go_sem, *],by simp[go_sem, *],by simp[go_sem, *],by simp[go_sem, *],by simp[go_sem, *],by simp[go_sem, *],by simp[go_sem, *],fun o=>by simp[World.frozen?_setCell, *]⟩
theorem yb {w u:World}{b:Nat}(k:Kept w u)(h:w.heap.size≤b)(v0 v1 v2 v3 v4 v5 v6:Value):Kept w (Zu u b v0 v1 v2 v3 v4 v5 v6):=
 ((((((k.setCell (p:=⟨b,0,none⟩) h v0).setCell (p:=⟨b,1,none⟩) h v1).setCell (p:=⟨b,2,none⟩) h v2).setCell (p:=⟨b,3,none⟩) h v3).setCell (p:=⟨b,4,none⟩) h v4).setCell (p:=⟨b,5,none⟩) h v5).setCell (p:=⟨b,6,none⟩) h v6
theorem qdn {P:Nat→Prop}{w:World}{v:Value}{M:List Int}(h:RLp P w v M)(b:Nat)(hp:∀c,P c→c≠b)(v0 v1 v2 v3 v4 v5 v6:Value):RLp P (Zu w b v0 v1 v2 v3 v4 v5 v6) v M:=
 ((((((h.set ⟨b,0,none⟩ hp v0).set ⟨b,1,none⟩ hp v1).set ⟨b,2,none⟩ hp v2).set ⟨b,3,none⟩ hp v3).set ⟨b,4,none⟩ hp v4).set ⟨b,5,none⟩ hp v5).set ⟨b,6,none⟩ hp v6
abbrev env (i:Int)(n1:Bool)(a1:Option Addr)(l1 c1:Nat)(x1:Int)(n2:Bool)(a2:Option Addr)(l2 c2:Nat)(x2:Int):Value:=.agg #[.int .i64 i,.bool n1,.slice a1 l1 c1,.int .i64 x1,.bool n2,.slice a2 l2 c2,.int .i64 x2]
def EnAt (P:Nat→Prop)(w:World)(v:Value)(i:Int)(x y:Nm):Prop:=∃a1 c1 a2 c2,v=env i x.neg a1 x.mag.length c1 x.exp y.neg a2 y.mag.length c2 y.exp∧RLp P w (.slice a1 x.mag.length c1) x.mag∧RLp P w (.slice a2 y.mag.length c2) y.mag
theorem EnAt.kept {P:Nat→Prop}{w w':World}{v:Value}{i:Int}{x y:Nm}(h:EnAt P w v i x y)(k:Kept w w'):EnAt P w' v i x y:=by
 obtain⟨a1,c1,a2,c2,e,h1,h2⟩:=h
 exact⟨a1,c1,a2,c2,e,h1.kept k,h2.kept k⟩
theorem EnAt.imp {P Q:Nat→Prop}{w:World}{v:Value}{i:Int}{x y:Nm}(h:EnAt P w v i x y)(hpq:∀b,P b→Q b):EnAt Q w v i x y:=by
 obtain⟨a1,c1,a2,c2,e,h1,h2⟩:=h
 exact⟨a1,c1,a2,c2,e,h1.imp hpq,h2.imp hpq⟩
theorem EnAt.here {P:Nat→Prop}{w:World}{v:Value}{i:Int}{x y:Nm}(h:EnAt P w v i x y):EnAt (fun b=>P b∧b<w.heap.size) w v i x y:=by
 obtain⟨a1,c1,a2,c2,e,h1,h2⟩:=h
 exact⟨a1,c1,a2,c2,e,h1.here,h2.here⟩
theorem EnAt.put {P:Nat→Prop}{w:World}{v:Value}{i:Int}{x y:Nm}(h:EnAt P w v i x y)(b:Nat)(hp:∀c,P c→c≠b)(v0 v1 v2 v3 v4 v5 v6:Value):EnAt P (Zu w b v0 v1 v2 v3 v4 v5 v6) v i x y:=by
 obtain⟨a1,c1,a2,c2,e,h1,h2⟩:=h
 exact⟨a1,c1,a2,c2,e,qdn h1 b hp _ _ _ _ _ _ _,qdn h2 b hp _ _ _ _ _ _ _⟩
theorem EnAt.shape {P:Nat→Prop}{w:World}{v:Value}{i:Int}{x y:Nm}(h:EnAt P w v i x y):∃n1 a1 l1 c1 x1 n2 a2 l2 c2 x2,v=env i n1 a1 l1 c1 x1 n2 a2 l2 c2 x2:=by
 obtain⟨a1,c1,a2,c2,e,-⟩:=h
 exact⟨_,_,_,_,_,_,_,_,_,_,e⟩
theorem RNp.en {P:Nat→Prop}{w:World}{v1 v2:Value}{x y:Nm}(i:Int){n1 n2:Bool}{a1 a2:Option Addr}{l1 c1 l2 c2:Nat}{x1 x2:Int}(h1:RNp P w (.agg #[.bool n1,.slice a1 l1 c1,.int .i64 x1]) x)(h2:RNp P w (.agg #[.bool n2,.slice a2 l2 c2,.int .i64 x2]) y):EnAt P w (env i n1 a1 l1 c1 x1 n2 a2 l2 c2 x2) i x y:=by
 obtain⟨b1,d1,e1,r1⟩:=h1.shape
 obtain⟨b2,d2,e2,r2⟩:=h2.shape
 cases e1
 cases e2
 exact⟨_,_,_,_,rfl,r1,r2⟩
theorem EnAt.fst {P:Nat→Prop}{w:World}{i:Int}{x y:Nm}{n1 n2:Bool}{a1 a2:Option Addr}{l1 c1 l2 c2:Nat}{x1 x2:Int}(h:EnAt P w (env i n1 a1 l1 c1 x1 n2 a2 l2 c2 x2) i x y):RNp P w (.agg #[.bool n1,.slice a1 l1 c1,.int .i64 x1]) x∧RNp P w (.agg #[.bool n2,.slice a2 l2 c2,.int .i64 x2]) y:=by
 obtain⟨b1,d1,b2,d2,e,r1,r2⟩:=h
 cases e
 exact⟨⟨_,rfl,r1⟩,⟨_,rfl,r2⟩⟩
abbrev XY:Obj:=.cells #[.int .i64 0,.bool false,.slice none 0 0,.int .i64 0,.bool false,.slice none 0 0,.int .i64 0] 77
def oneN5:Nm:=⟨false,[1],0⟩
theorem qdo:nrm false 1 0=oneN5:=by
 unfold nrm oneN5
 rw[if_neg (by decide),show tzn 1=0 by decide,show digs (1/2^0)=[1] by decide,show wrap64 (0+((0:Nat):Int))=0 by unfold wrap64;omega]
theorem qg1 (w:World):Calls Tryz.prog 89 #[.int .i64 1] w fun e w'=>(∃r,e=.returned r∧RNp (qj w.heap.size) w' r oneN5)∧Kept w w':=by
 have:=Kn w 1 (by decide)
 rw[qdo]at this
 exact this
theorem JE (n1:Bool)(a1:Option Addr)(l1 c1:Nat)(x1:Int)(w:World):
  Calls Tryz.prog 67 #[.agg #[.bool n1,.slice a1 l1 c1,.int .i64 x1]] w fun e w'=>∃(n2:Bool) (a2:Option Addr) (l2 c2:Nat) (x2:Int) (u:World) (v0 v1 v2 v3 v4 v5 v6:Value),e=.returned (env 0 n1 a1 l1 c1 x1 n2 a2 l2 c2 x2)∧Kept w u∧RNp (qj (w.heap.size+2)) u (.agg #[.bool n2,.slice a2 l2 c2,.int .i64 x2]) oneN5∧w'=Zu u (w.heap.size+1) v0 v1 v2 v3 v4 v5 v6:=by
 obtain⟨X,hX⟩:∃X,X=(w.alloc (.cells #[.bool n1,.slice a1 l1 c1,.int .i64 x1] 31)).alloc XY:=⟨_,rfl⟩
 have hK:Kept w X:=by rw[hX];exact((qia w).alloc _ _).alloc _ _
 have hXs:X.heap.size=w.heap.size+2:=by rw[hX];simp
 have hP:P7 X (w.heap.size+1) (.int .i64 0) (.bool false) (.slice none 0 0) (.int .i64 0) (.bool false) (.slice none 0 0) (.int .i64 0):=by
  rw[hX]
  have:=P7.new (w.alloc (.cells #[.bool n1,.slice a1 l1 c1,.int .i64 x1] 31)) (.int .i64 0) (.bool false) (.slice none 0 0) (.int .i64 0) (.bool false) (.slice none 0 0) (.int .i64 0) 77
  simpa using this
 obtain⟨B,hB⟩:∃B,B=w.heap.size:=⟨_,rfl⟩
 obtain⟨C,hC⟩:∃B,B=w.heap.size+1:=⟨_,rfl⟩
 have HB:Hid (∀u,Kept X u→Kept X u∧u.cell? ⟨B,0,none⟩=some (.bool n1)∧u.cell? ⟨B,1,none⟩=some (.slice a1 l1 c1)∧u.cell? ⟨B,2,none⟩=some (.int .i64 x1)):=fun u k=>⟨k,(k.below.cell (by rw[hXs];dsimp only;omega)).trans (by rw[hX,hB];simp[go_sem]),(k.below.cell (by rw[hXs];dsimp only;omega)).trans (by rw[hX,hB];simp[go_sem]),(k.below.cell (by rw[hXs];dsimp only;omega)).trans (by rw[hX,hB];simp[go_sem])⟩
 have KW:Hid (∀u,Kept X u→Calls Tryz.prog 89 #[.int .i64 1] u fun e w'=>∃(n2:Bool) (a2:Option Addr) (l2 c2:Nat) (x2:Int),e=.returned (.agg #[.bool n2,.slice a2 l2 c2,.int .i64 x2])∧RNp (qj (w.heap.size+2)) w' (.agg #[.bool n2,.slice a2 l2 c2,.int .i64 x2]) oneN5∧Kept u w'):=fun u k=>by
  refine(qg1 u).mono ?_
  rintro e w' ⟨⟨r,rfl,hr⟩,k'⟩
  obtain⟨n2,a2,l2,c2,x2,rfl⟩:=hr.shape5
  exact⟨n2,a2,l2,c2,x2,rfl,hr.imp (fun b hb=>by have:=k.below.size;simp only[qj]at hb ⊢;omega),k'⟩
 rw[←hC]at hP
 rw[←hC]
 go_enter Tryz.func67,Tryz.ntmps67
 go_upto_region 1 with fail
 rw[←hX,←hC,←hB]
 clear hX hB hC hXs
 refine qZ [3] (fun u=>Kept X u∧u.cell? ⟨B,0,none⟩=some (.bool n1)∧u.cell? ⟨B,1,none⟩=some (.slice a1 l1 c1)∧u.cell? ⟨B,2,none⟩=some (.int .i64 x1)) (by kernel_rfl) (HB.out _ (qia X).drew) (fun hHeld=>?_)
 refine tkD (i:=0) (v:=?_) rfl hHeld ?_
 try simp only[zz]
 refine qN (i:=1) (by kernel_rfl) rfl (fun K hK9=>?_)
 go_simp
 go_wp2_with fail
 refine(KW.out _ hHeld.1).mono ?_
 rintro e u2 ⟨n2,a2,l2,c2,x2,rfl,hn2,k2⟩
 refine hK9.out _ _ (HB.out _ (hHeld.1.trans k2)) (fun hH2=>?_)
 clear hK9 K
 try simp only[zz]
 refine tkD (i:=2) (v:=?_) rfl hH2 ?_
 try simp only[zz]
 obtain⟨p0,p1,p2,p3,p4,p5,p6,pf⟩:=hP.kept hH2.1
 refine jx (i:=3) (by kernel_rfl) rfl rfl (fun K hK9=>?_)
 go_simp
 refine hK9.out _ _ ?_
 clear hK9 K
 try simp only[zz]
 refine zY (by kernel_rfl) ?_ _
 try simp only[zz]
 go_wp2_with fail
 exact qh9 (v:=env 0 n1 a1 l1 c1 x1 n2 a2 l2 c2 x2) (by simp[results,Tryz.results67,go_sem,p0,p1,p2,p3,p4,p5,p6]) rfl ⟨n2,a2,l2,c2,x2,u2,_,_,_,_,_,_,_,rfl,hK.trans hH2.1,hn2,rfl⟩
theorem xW (P:Nat→Prop)(w:World)(x:Nm)(v:Value)(h:RNp P w v x):Calls Tryz.prog 67 #[v] w fun e w'=>(∃r,e=.returned r∧EnAt (PL P w) w' r 0 x oneN5)∧Kept w w':=by
 obtain⟨a1,c1,rfl,hr⟩:=h.shape
 refine(JE _ a1 _ c1 _ w).mono ?_
 rintro e w' ⟨n2,a2,l2,c2,x2,u,v0,v1,v2,v3,v4,v5,v6,rfl,k,h2,rfl⟩
 obtain⟨b2,d2,e2,r2⟩:=h2.shape
 cases e2
 refine⟨⟨_,rfl,a1,c1,_,_,rfl,?_,?_⟩,yb k (by omega) _ _ _ _ _ _ _⟩
 ·exact(qdn (hr.here.kept k) _ (fun b hb=>by have:=hb.2;omega) _ _ _ _ _ _ _).imp (fun b hb=>.inl hb.1)
 ·exact(qdn r2 _ (fun b hb=>by simp only[qj]at hb;omega) _ _ _ _ _ _ _).imp (fun b hb=>.inr (by simp only[qj]at hb;omega))
theorem qdp (b n s:Int)(w:World)
  (KC:Hid (∀u,Calls Tryz.prog 72 #[.int .i64 b,.int .i64 n] u fun e w'=>e=.returned (.int .i64 3)∧Kept u w'))
  (KS:Hid (∀u,Calls Tryz.prog 88 #[.int .i64 b,.int .i64 n] u fun e w'=>e=.returned (.int .i64 s)∧Kept u w')):
  Calls Tryz.prog 52 #[.int .i64 b,.int .i64 n] w fun e w'=>(∃r,e=.returned r∧EnAt (qj w.heap.size) w' r s ⟨false,[],0⟩ oneN5)∧Kept w w':=by
 obtain⟨X,hX⟩:∃X,X=w.alloc XY:=⟨_,rfl⟩
 have hK:Kept w X:=by rw[hX];exact(qia w).alloc _ _
 have hXs:X.heap.size=w.heap.size+1:=by rw[hX];simp
 have hP:P7 X w.heap.size (.int .i64 0) (.bool false) (.slice none 0 0) (.int .i64 0) (.bool false) (.slice none 0 0) (.int .i64 0):=by rw[hX];exact P7.new w _ _ _ _ _ _ _ _
 obtain⟨C,hC⟩:∃B,B=w.heap.size:=⟨_,rfl⟩
 rw[←hC]at hP
 have KW:Hid (∀u,Kept X u→Calls Tryz.prog 89 #[.int .i64 1] u fun e w'=>∃(n2:Bool) (a2:Option Addr) (l2 c2:Nat) (x2:Int),e=.returned (.agg #[.bool n2,.slice a2 l2 c2,.int .i64 x2])∧RNp (qj (w.heap.size+1)) w' (.agg #[.bool n2,.slice a2 l2 c2,.int .i64 x2]) oneN5∧Kept u w'):=fun u k=>by
  refine(qg1 u).mono ?_
  rintro e w' ⟨⟨r,rfl,hr⟩,k'⟩
  obtain⟨n2,a2,l2,c2,x2,rfl⟩:=hr.shape5
  exact⟨n2,a2,l2,c2,x2,rfl,hr.imp (fun b hb=>by have:=k.below.size;simp only[qj]at hb ⊢;omega),k'⟩
 go_enter Tryz.func52,Tryz.ntmps52
 go_upto_region 1 with fail
 rw[←hX,←hC]
 have oC:Hid (w.heap.size≤C∧C<w.heap.size+1):=(show _∧_ from by omega)
 clear hX hXs hC
 go_wp2_with (first|(go_at_call 72;refine(KC.out _).mono ?_;rintro e w1 ⟨rfl,k1⟩)|(go_at_call 88;refine(KS.out _).mono ?_;rintro e w2 ⟨rfl,k2⟩)|(go_at_call 89;refine(KW.out _ (k1.trans k2)).mono ?_;rintro e w3 ⟨n2,a2,l2,c2,x2,rfl,hn2,k3⟩;obtain⟨p0,p1,p2,p3,p4,p5,p6,pf⟩:=hP.kept ((k1.trans k2).trans k3)))
 have kk:=hK.trans ((k1.trans k2).trans k3)
 refine qh9 (v:=env s false none 0 0 0 n2 a2 l2 c2 x2) (by simp[results,Tryz.results52,go_sem,p0,p1,p2,p3,p4,p5,p6]) rfl ⟨⟨_,rfl,?_⟩,yb kk oC.out.1 _ _ _ _ _ _ _⟩
 have h0:RNp (qj (w.heap.size+1)) w3 (.agg #[.bool false,.slice none 0 0,.int .i64 0]) ⟨false,[],0⟩:=⟨_,rfl,RLp.nil _ _⟩
 exact((h0.en (v1:=.bool true) (v2:=.bool true) s hn2).put C (fun c hc=>by have:=oC.out;simp only[qj]at hc;omega) _ _ _ _ _ _ _).imp (fun c hc=>by simp only[qj]at hc ⊢;omega)
theorem qdq (b n c:Int)(r:Nm)(hc3:(c==3)=false)(w:World)
  (KC:Hid (∀u,Calls Tryz.prog 72 #[.int .i64 b,.int .i64 n] u fun e w'=>e=.returned (.int .i64 c)∧Kept u w'))
  (KE:Hid (∀u,Calls Tryz.prog 75 #[.int .i64 b,.int .i64 n] u fun e w'=>(∃v,e=.returned v∧RNp (qj u.heap.size) w' v r)∧Kept u w')):
  Calls Tryz.prog 52 #[.int .i64 b,.int .i64 n] w fun e w'=>(∃r1,e=.returned r1∧EnAt (qj w.heap.size) w' r1 0 r oneN5)∧Kept w w':=by
 obtain⟨X,hX⟩:∃X,X=w.alloc XY:=⟨_,rfl⟩
 have hK:Kept w X:=by rw[hX];exact(qia w).alloc _ _
 have hXs:X.heap.size=w.heap.size+1:=by rw[hX];simp
 have hP:P7 X w.heap.size (.int .i64 0) (.bool false) (.slice none 0 0) (.int .i64 0) (.bool false) (.slice none 0 0) (.int .i64 0):=by rw[hX];exact P7.new w _ _ _ _ _ _ _ _
 obtain⟨C,hC⟩:∃B,B=w.heap.size:=⟨_,rfl⟩
 rw[←hC]at hP
 have KE':Hid (∀u,Kept X u→Calls Tryz.prog 75 #[.int .i64 b,.int .i64 n] u fun e w'=>∃v,e=.returned v∧RNp (qj (w.heap.size+1)) w' v r∧Kept u w'):=fun u k=>by
  refine(KE.out u).mono ?_
  rintro e w' ⟨⟨v,rfl,hr⟩,k'⟩
  exact⟨v,rfl,hr.imp (fun b hb=>by have:=k.below.size;simp only[qj]at hb ⊢;omega),k'⟩
 have KW:Hid (∀u v,Kept X u→RNp (qj (w.heap.size+1)) u v r→Calls Tryz.prog 67 #[v] u fun e w'=>∃(n1:Bool) (a1:Option Addr) (l1 c1:Nat) (x1:Int) (n2:Bool) (a2:Option Addr) (l2 c2:Nat) (x2:Int),e=.returned (env 0 n1 a1 l1 c1 x1 n2 a2 l2 c2 x2)∧EnAt (qj (w.heap.size+1)) w' (env 0 n1 a1 l1 c1 x1 n2 a2 l2 c2 x2) 0 r oneN5∧Kept u w'):=fun u v k h=>by
  refine(xW _ u r v h).mono ?_
  rintro e w' ⟨⟨q,rfl,hq⟩,k'⟩
  have hq2:=hq.imp (Q:=qj (w.heap.size+1)) (fun b hb=>by
   have:=k.below.size
   simp only[PL,qj]at hb ⊢
   omega)
  obtain⟨n1,a1,l1,c1,x1,n2,a2,l2,c2,x2,rfl⟩:=hq.shape
  exact⟨n1,a1,l1,c1,x1,n2,a2,l2,c2,x2,rfl,hq2,k'⟩
 clear KE
 go_enter Tryz.func52,Tryz.ntmps52
 go_upto_region 1 with fail
 rw[←hX,←hC]
 have oC:Hid (w.heap.size≤C∧C<w.heap.size+1):=(show _∧_ from by omega)
 clear hX hXs hC
 go_wp2_with (first|(go_at_call 72;refine(KC.out _).mono ?_;rintro e w1 ⟨rfl,k1⟩)|(go_at_call 75;refine(KE'.out _ k1).mono ?_;rintro e w2 ⟨v,rfl,hv,k2⟩)|(go_at_call 67;refine(KW.out _ _ (k1.trans k2) hv).mono ?_;rintro e w3 ⟨n1,a1,l1,c1,x1,n2,a2,l2,c2,x2,rfl,hE,k3⟩;obtain⟨p0,p1,p2,p3,p4,p5,p6,pf⟩:=hP.kept ((k1.trans k2).trans k3)))
 have kk:=hK.trans ((k1.trans k2).trans k3)
 exact qh9 (v:=env 0 n1 a1 l1 c1 x1 n2 a2 l2 c2 x2) (by simp[results,Tryz.results52,go_sem,p0,p1,p2,p3,p4,p5,p6]) rfl ⟨⟨_,rfl,(hE.put C (fun c hc=>by have:=oC.out;simp only[qj]at hc;omega) _ _ _ _ _ _ _).imp (fun c hc=>by simp only[qj]at hc ⊢;omega)⟩,yb kk oC.out.1 _ _ _ _ _ _ _⟩
end Go.Proofs.YtaglkncdedeipaaGreatDoor
