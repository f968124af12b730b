/-  -/
import Derived.Test.YtaglkncdedeipaaGreatDoorWt13
import Derived.Test.YtaglkncdedeipaaGreatDoorWt02
import Derived.Test.YtaglkncdedeipaaGreatDoorWt12
namespace Go.Proofs.YtaglkncdedeipaaGreatDoor
open Go.ChangeShapes Go.WideShapes Go.ChangeAt Go.RowKit
set_option linter.unusedVariables false
set_option linter.unusedSimpArgs false
set_option maxHeartbeats 16000000
set_option maxRecDepth 100000
theorem P7.other {w:World}{b:Nat}{v0 v1 v2 v3 v4 v5 v6:Value}(h:P7 w b v0 v1 v2 v3 v4 v5 v6)(c:Nat)(hc:c≠b)(u0 u1 u2 u3 u4 u5 u6:Value):P7 (xY w c u0 u1 u2 u3 u4 u5 u6) b v0 v1 v2 v3 v4 v5 v6:=by
 obtain⟨c0,c1,c2,c3,c4,c5,c6,fz⟩:=h
 have hb:¬b=c:=fun e=>hc e.symm
 exact⟨by simp[go_sem,hc,hb,c0],by simp[go_sem,hc,hb,c1],by simp[go_sem,hc,hb,c2],by simp[go_sem,hc,hb,c3],by simp[go_sem,hc,hb,c4],by simp[go_sem,hc,hb,c5],by simp[go_sem,hc,hb,c6],fun o=>by simp[World.frozen?_setCell,fz]⟩
structure A7 (w:World) (b o:Nat) (v0 v1 v2 v3 v4 v5 v6:Value):Prop where
 c0:w.cell? ⟨b,o,none⟩=some v0
 c1:w.cell? ⟨b,o+1,none⟩=some v1
 c2:w.cell? ⟨b,o+2,none⟩=some v2
 c3:w.cell? ⟨b,o+3,none⟩=some v3
 c4:w.cell? ⟨b,o+4,none⟩=some v4
 c5:w.cell? ⟨b,o+5,none⟩=some v5
 c6:w.cell? ⟨b,o+6,none⟩=some v6
theorem qmu (r:Nat→Int):0<1∧0<1∧(∀j,j<1→r 0≤r j)∧(∀j,j<1→r j≤r 0):=by
 refine⟨by omega,by omega,fun j hj=>?_,fun j hj=>?_⟩
 ·obtain rfl:j=0:=by omega
  exact Int.le_refl _
 ·obtain rfl:j=0:=by omega
  exact Int.le_refl _
theorem YU (a b:Int):(a<b→cz a b=-1)∧(a=b→cz a b=0)∧(b<a→cz a b=1):=by
 unfold cz
 refine⟨fun h=>?_,fun h=>?_,fun h=>?_⟩<;>(repeat' split)<;>omega
theorem YV (M:Nat)(hM:1≤M)(hM2:M≤100)(G o:Nat)(cap:Nat)(I:Nat→Int)(n:Nat→Bool)(a:Nat→Option Addr)(l c:Nat→Nat)(x:Nat→Int)(m:Nat→Bool)(b:Nat→Option Addr)(kk d:Nat→Nat)(y:Nat→Int)(r:Nat→Int)(w:World)
  (hA:Hid (∀u,Kept w u→∀j,j<M→A7 u G (o+j*7) (.int .i64 (I j)) (.bool (n j)) (.slice (a j) (l j) (c j)) (.int .i64 (x j)) (.bool (m j)) (.slice (b j) (kk j) (d j)) (.int .i64 (y j))))
  (KO:Hid (∀u p q,p<M→q<M→Kept w u→Calls Tryz.prog 53 #[env (I p) (n p) (a p) (l p) (c p) (x p) (m p) (b p) (kk p) (d p) (y p),env (I q) (n q) (a q) (l q) (c q) (x q) (m q) (b q) (kk q) (d q) (y q)] u fun e w'=>e=.returned (.int .i64 (cz (r p) (r q)))∧Kept u w')):
  Calls Tryz.prog 59 #[.slice (some ⟨G,o,none⟩) M cap] w fun e w'=>∃p q,(p<M∧q<M∧(∀j,j<M→r p≤r j)∧(∀j,j<M→r j≤r q))∧e=.returned (.tuple #[env (I p) (n p) (a p) (l p) (c p) (x p) (m p) (b p) (kk p) (d p) (y p),env (I q) (n q) (a q) (l q) (c q) (x q) (m q) (b q) (kk q) (d q) (y q)])∧Kept w w':=by
 obtain⟨X,hX⟩:∃X,X=(w.alloc (.cells #[.int .i64 0,.bool false,.slice none 0 0,.int .i64 0,.bool false,.slice none 0 0,.int .i64 0] 77)).alloc (.cells #[.int .i64 0,.bool false,.slice none 0 0,.int .i64 0,.bool false,.slice none 0 0,.int .i64 0] 77):=⟨_,rfl⟩
 have hK:Kept w X:=by rw[hX];exact((qo0 w).alloc _ _).alloc _ _
 have hXs:X.heap.size=w.heap.size+2:=by rw[hX];simp
 have hP0:P7 X (w.heap.size) (.int .i64 0) (.bool false) (.slice none 0 0) (.int .i64 0) (.bool false) (.slice none 0 0) (.int .i64 0):=by
  rw[hX]
  have:=((P7.new (w) (.int .i64 0) (.bool false) (.slice none 0 0) (.int .i64 0) (.bool false) (.slice none 0 0) (.int .i64 0) 77).alloc #[.int .i64 0,.bool false,.slice none 0 0,.int .i64 0,.bool false,.slice none 0 0,.int .i64 0] 77)
  simpa using this
 have hP1:P7 X (w.heap.size+1) (.int .i64 0) (.bool false) (.slice none 0 0) (.int .i64 0) (.bool false) (.slice none 0 0) (.int .i64 0):=by
  rw[hX]
  have:=(P7.new (w.alloc (.cells #[.int .i64 0,.bool false,.slice none 0 0,.int .i64 0,.bool false,.slice none 0 0,.int .i64 0] 77)) (.int .i64 0) (.bool false) (.slice none 0 0) (.int .i64 0) (.bool false) (.slice none 0 0) (.int .i64 0) 77)
  simpa using this
 obtain⟨B0,hB0⟩:∃B,B=w.heap.size:=⟨_,rfl⟩
 obtain⟨B1,hB1⟩:∃B,B=B0+1:=⟨_,rfl⟩
 rw[←hB0]at hP0
 rw[←hB0,←hB1]at hP1
 have oB:Hid (w.heap.size≤B0∧B0<X.heap.size∧w.heap.size≤B1∧B1<X.heap.size):=(show _∧_∧_∧_ from by omega)
 have oX:Hid (w.heap.size≤X.heap.size):=hK.below.size
 have oB01:Hid (B0≠B1):=(show _≠_ from by omega)
 have h0:=hA.out X hK 0 (by omega)
 rw[Nat.zero_mul,Nat.add_zero]at h0
 obtain⟨f0,f1,f2,f3,f4,f5,f6⟩:=h0
 have hM0:Hid (1≤M):=hM
 go_enter Tryz.func59,Tryz.ntmps59
 go_upto_region 1 with fail
 rw[←hX,←hB0,←hB1]
 clear hX hXs hB0 hB1
 have hlt:decide ((0:Int)<(M:Int))=true:=qos (by omega)
 have hM1:0<M:=hM
 go_upto_region 2 with fail
 obtain⟨X2,hX2⟩:∃Y,Y=X.alloc (.cells #[.int .i64 (I 0),.bool (n 0),.slice (a 0) (l 0) (c 0),.int .i64 (x 0),.bool (m 0),.slice (b 0) (kk 0) (d 0),.int .i64 (y 0)] 77):=⟨_,rfl⟩
 have kX2:Kept X X2:=by rw[hX2];exact(qo0 X).alloc _ _
 have hP2:P7 X2 X.heap.size (.int .i64 (I 0)) (.bool (n 0)) (.slice (a 0) (l 0) (c 0)) (.int .i64 (x 0)) (.bool (m 0)) (.slice (b 0) (kk 0) (d 0)) (.int .i64 (y 0)):=by rw[hX2];exact P7.new X _ _ _ _ _ _ _ _
 have hs2:X2.heap.size=X.heap.size+1:=by rw[hX2];simp
 obtain⟨B2,hB2⟩:∃B,B=X.heap.size:=⟨_,rfl⟩
 rw[←hB2]at hP2
 rw[←hX2,←hB2]
 have o2:Hid (B2=X.heap.size∧X2.heap.size=X.heap.size+1):=(show _∧_ from⟨hB2,hs2⟩)
 clear hX2 hs2 hB2 f0 f1 f2 f3 f4 f5 f6
 have h0:=hA.out X2 (hK.trans kX2) 0 (by omega)
 rw[Nat.zero_mul,Nat.add_zero]at h0
 obtain⟨f0,f1,f2,f3,f4,f5,f6⟩:=h0
 go_upto_region 3 with fail
 obtain⟨X3,hX3⟩:∃Y,Y=X2.alloc (.cells #[.int .i64 (I 0),.bool (n 0),.slice (a 0) (l 0) (c 0),.int .i64 (x 0),.bool (m 0),.slice (b 0) (kk 0) (d 0),.int .i64 (y 0)] 77):=⟨_,rfl⟩
 have kX3:Kept X2 X3:=by rw[hX3];exact(qo0 X2).alloc _ _
 have hP3:P7 X3 X2.heap.size (.int .i64 (I 0)) (.bool (n 0)) (.slice (a 0) (l 0) (c 0)) (.int .i64 (x 0)) (.bool (m 0)) (.slice (b 0) (kk 0) (d 0)) (.int .i64 (y 0)):=by rw[hX3];exact P7.new X2 _ _ _ _ _ _ _ _
 obtain⟨B3,hB3⟩:∃B,B=X2.heap.size:=⟨_,rfl⟩
 rw[←hB3]at hP3
 rw[←hX3,←hB3]
 have oo:Hid ((w.heap.size≤B0∧w.heap.size≤B1∧w.heap.size≤B2∧w.heap.size≤B3)∧(B2≠B0∧B2≠B1∧B2≠B3∧B3≠B0∧B3≠B1∧B3≠B2)):=(show(_∧_∧_∧_)∧(_∧_∧_∧_∧_∧_)from by have:=oB.out;have:=oX.out;have:=o2.out;omega)
 have oBB:Hid (B0≠B1):=fun e=>by
  have:=oB01.out
  omega
 have hP2:=hP2.kept kX3
 have hP0:=hP0.kept (kX2.trans kX3)
 have hP1:=hP1.kept (kX2.trans kX3)
 have hK3:=hK.trans (kX2.trans kX3)
 clear hX3 hB3 f0 f1 f2 f3 f4 f5 f6 o2 oX oB kX2 kX3 hK
 go_wp2_with fail
 go_loopw [6] (fun i wr=>∃(k p q:Nat),1≤k∧k≤M∧i=.int .i64 k∧(p<k∧q<k∧(∀j,j<k→r p≤r j)∧(∀j,j<k→r j≤r q))∧P7 wr B2 (.int .i64 (I p)) (.bool (n p)) (.slice (a p) (l p) (c p)) (.int .i64 (x p)) (.bool (m p)) (.slice (b p) (kk p) (d p)) (.int .i64 (y p))∧P7 wr B3 (.int .i64 (I q)) (.bool (n q)) (.slice (a q) (l q) (c q)) (.int .i64 (x q)) (.bool (m q)) (.slice (b q) (kk q) (d q)) (.int .i64 (y q))∧P7 wr B0 (.int .i64 0) (.bool false) (.slice none 0 0) (.int .i64 0) (.bool false) (.slice none 0 0) (.int .i64 0)∧P7 wr B1 (.int .i64 0) (.bool false) (.slice none 0 0) (.int .i64 0) (.bool false) (.slice none 0 0) (.int .i64 0)∧Kept w wr) (fun i _=>M-(intOf i).toNat)
 case atStart=>exact⟨1,0,0,qoo _,hM0.out,rfl,qmu r,hP2,hP3,hP0,hP1,hK3⟩
 case round=>
  clear hP0 hP1 hP2 hP3 hK3
  obtain⟨k,p,q,hk1,hk2,rfl,hpq,hP2,hP3,hP0,hP1,hK⟩:=hrel
  by_cases hkm:k<M
  ·obtain⟨hp,hq,hlo,hhi⟩:=hpq
   have HQ:Hid (p<k∧q<k∧(∀j,j<k→r p≤r j)∧(∀j,j<k→r j≤r q)):=⟨hp,hq,hlo,hhi⟩
   have HK1:Hid (∀u,Kept w u→Calls Tryz.prog 53 #[env (I k) (n k) (a k) (l k) (c k) (x k) (m k) (b k) (kk k) (d k) (y k),env (I p) (n p) (a p) (l p) (c p) (x p) (m p) (b p) (kk p) (d p) (y p)] u fun e w'=>e=.returned (.int .i64 (cz (r k) (r p)))∧Kept u w'):=fun u ku=>KO.out u k p hkm (by omega) ku
   have HK2:Hid (∀u,Kept w u→Calls Tryz.prog 53 #[env (I k) (n k) (a k) (l k) (c k) (x k) (m k) (b k) (kk k) (d k) (y k),env (I q) (n q) (a q) (l q) (c q) (x q) (m q) (b q) (kk q) (d q) (y q)] u fun e w'=>e=.returned (.int .i64 (cz (r k) (r q)))∧Kept u w'):=fun u ku=>KO.out u k q hkm (by omega) ku
   have HA:Hid (∀u,Kept w u→A7 u G (o+k*7) (.int .i64 (I k)) (.bool (n k)) (.slice (a k) (l k) (c k)) (.int .i64 (x k)) (.bool (m k)) (.slice (b k) (kk k) (d k)) (.int .i64 (y k))):=fun u ku=>hA.out u ku k hkm
   clear hp hq hlo hhi KO hA
   obtain⟨t1,ht1⟩:∃t,t=decide (cz (r k) (r p)<0):=⟨_,rfl⟩
   obtain⟨t2,ht2⟩:∃t,t=decide (0<cz (r k) (r q)):=⟨_,rfl⟩
   have HT:Hid ((t1=true→r k≤r p)∧(t1=false→r p≤r k)∧(t2=true→r q≤r k)∧(t2=false→r k≤r q)):=by
    have c1:=YU (r k) (r p)
    have c2:=YU (r k) (r q)
    refine(show _∧_∧_∧_ from⟨fun h=>?_,fun h=>?_,fun h=>?_,fun h=>?_⟩)
    ·rw[h]at ht1;have:=of_decide_eq_true ht1.symm;omega
    ·rw[h]at ht1;have:=of_decide_eq_false ht1.symm;omega
    ·rw[h]at ht2;have:=of_decide_eq_true ht2.symm;omega
    ·rw[h]at ht2;have:=of_decide_eq_false ht2.symm;omega
   have ht1':decide (cz (r k) (r p)<0)=t1:=ht1.symm
   have ht2':decide (cz (r k) (r q)>0)=t2:=ht2.symm
   clear ht1 ht2
   obtain⟨g1,hg1⟩:∃g,g=cz (r k) (r p):=⟨_,rfl⟩
   obtain⟨g2,hg2⟩:∃g,g=cz (r k) (r q):=⟨_,rfl⟩
   rw[←hg1]at HK1 ht1'
   rw[←hg2]at HK2 ht2'
   clear hg1 hg2
   have HR:Hid (∀(wr':World) (p' q':Nat),(p'=p∨p'=k)→(q'=q∨q'=k)→(p'=if t1=true then k else p)→(q'=if t2=true then k else q)→(p'<k+1∧q'<k+1∧(∀j,j<k+1→r p'≤r j)∧(∀j,j<k+1→r j≤r q'))):=fun wr' p' q' h1 h2 h3 h4=>by
    obtain⟨a1,a2,a3,a4⟩:=HQ.out
    obtain⟨b1,b2,b3,b4⟩:=HT.out
    refine⟨by omega,by omega,fun j hj=>?_,fun j hj=>?_⟩
    ·by_cases hjk:j=k
     ·subst hjk
      cases t1
      ·rw[h3];exact b2 rfl
      ·rw[h3];exact Int.le_refl _
     ·have:=a3 j (by omega)
      cases t1
      ·rw[h3];exact this
      ·rw[h3];have:=b1 rfl;exact Int.le_trans this (a3 j (by omega))
    ·by_cases hjk:j=k
     ·subst hjk
      cases t2
      ·rw[h4];exact b4 rfl
      ·rw[h4];exact Int.le_refl _
     ·have:=a4 j (by omega)
      cases t2
      ·rw[h4];exact this
      ·rw[h4];have:=b3 rfl;exact Int.le_trans (a4 j (by omega)) this
   clear HT HQ
   have HSe:Hid (∀u,Kept wr u→Kept wr u∧u.cell? ⟨B2,0,none⟩=some (.int .i64 (I p))∧u.cell? ⟨B2,1,none⟩=some (.bool (n p))∧u.cell? ⟨B2,2,none⟩=some (.slice (a p) (l p) (c p))∧u.cell? ⟨B2,3,none⟩=some (.int .i64 (x p))∧u.cell? ⟨B2,4,none⟩=some (.bool (m p))∧u.cell? ⟨B2,5,none⟩=some (.slice (b p) (kk p) (d p))∧u.cell? ⟨B2,6,none⟩=some (.int .i64 (y p))∧u.cell? ⟨G,o+k*7,none⟩=some (.int .i64 (I k))∧u.cell? ⟨G,o+k*7+1,none⟩=some (.bool (n k))∧u.cell? ⟨G,o+k*7+2,none⟩=some (.slice (a k) (l k) (c k))∧u.cell? ⟨G,o+k*7+3,none⟩=some (.int .i64 (x k))∧u.cell? ⟨G,o+k*7+4,none⟩=some (.bool (m k))∧u.cell? ⟨G,o+k*7+5,none⟩=some (.slice (b k) (kk k) (d k))∧u.cell? ⟨G,o+k*7+6,none⟩=some (.int .i64 (y k))):=fun u ku=>⟨ku,(hP2.kept ku).c0,(hP2.kept ku).c1,(hP2.kept ku).c2,(hP2.kept ku).c3,(hP2.kept ku).c4,(hP2.kept ku).c5,(hP2.kept ku).c6,(HA.out u (hK.trans ku)).c0,(HA.out u (hK.trans ku)).c1,(HA.out u (hK.trans ku)).c2,(HA.out u (hK.trans ku)).c3,(HA.out u (hK.trans ku)).c4,(HA.out u (hK.trans ku)).c5,(HA.out u (hK.trans ku)).c6⟩
   go_upto_region 6 with fail
   refine qm [] (fun u=>Kept wr u∧u.cell? ⟨B2,0,none⟩=some (.int .i64 (I p))∧u.cell? ⟨B2,1,none⟩=some (.bool (n p))∧u.cell? ⟨B2,2,none⟩=some (.slice (a p) (l p) (c p))∧u.cell? ⟨B2,3,none⟩=some (.int .i64 (x p))∧u.cell? ⟨B2,4,none⟩=some (.bool (m p))∧u.cell? ⟨B2,5,none⟩=some (.slice (b p) (kk p) (d p))∧u.cell? ⟨B2,6,none⟩=some (.int .i64 (y p))∧u.cell? ⟨G,o+k*7,none⟩=some (.int .i64 (I k))∧u.cell? ⟨G,o+k*7+1,none⟩=some (.bool (n k))∧u.cell? ⟨G,o+k*7+2,none⟩=some (.slice (a k) (l k) (c k))∧u.cell? ⟨G,o+k*7+3,none⟩=some (.int .i64 (x k))∧u.cell? ⟨G,o+k*7+4,none⟩=some (.bool (m k))∧u.cell? ⟨G,o+k*7+5,none⟩=some (.slice (b k) (kk k) (d k))∧u.cell? ⟨G,o+k*7+6,none⟩=some (.int .i64 (y k))) (by kernel_rfl) (HSe.out _ (qo0 wr).drew) (fun hHeld=>?_)
   refine tkD (i:=0) (v:=?_) rfl hHeld ?_
   try simp only[zz]
   refine tkD (i:=1) (v:=?_) rfl hHeld ?_
   try simp only[zz]
   refine tkD (i:=2) (v:=?_) rfl hHeld ?_
   try simp only[zz]
   refine tkD (i:=3) (v:=?_) rfl hHeld ?_
   try simp only[zz]
   refine tkD (i:=4) (v:=?_) rfl hHeld ?_
   try simp only[zz]
   refine qi (i:=5) (by kernel_rfl) rfl (fun K hK9=>?_)
   go_simp
   go_wp2_with fail
   refine(HK1.out _ (hK.trans hHeld.1)).mono ?_
   rintro e ue ⟨rfl,ke⟩
   refine hK9.out _ _ (HSe.out _ (hHeld.1.trans ke)) (fun hHe=>?_)
   clear hK9 K
   try simp only[zz]
   refine tkD (i:=6) (v:=?_) rfl hHe ?_
   try simp only[zz]
   refine qs (by kernel_rfl) ?_ _
   try simp only[zz]
   have ke:=hHe.1
   clear HSe hHe hHeld
   have hP2:=hP2.kept ke
   have hP3:=hP3.kept ke
   have hP0:=hP0.kept ke
   have hP1:=hP1.kept ke
   have hK:=hK.trans ke
   clear ke HK1
   cases t1
   ·skip
    have HSg:Hid (∀u,Kept ue u→Kept ue u∧u.cell? ⟨B3,0,none⟩=some (.int .i64 (I q))∧u.cell? ⟨B3,1,none⟩=some (.bool (n q))∧u.cell? ⟨B3,2,none⟩=some (.slice (a q) (l q) (c q))∧u.cell? ⟨B3,3,none⟩=some (.int .i64 (x q))∧u.cell? ⟨B3,4,none⟩=some (.bool (m q))∧u.cell? ⟨B3,5,none⟩=some (.slice (b q) (kk q) (d q))∧u.cell? ⟨B3,6,none⟩=some (.int .i64 (y q))∧u.cell? ⟨G,o+k*7,none⟩=some (.int .i64 (I k))∧u.cell? ⟨G,o+k*7+1,none⟩=some (.bool (n k))∧u.cell? ⟨G,o+k*7+2,none⟩=some (.slice (a k) (l k) (c k))∧u.cell? ⟨G,o+k*7+3,none⟩=some (.int .i64 (x k))∧u.cell? ⟨G,o+k*7+4,none⟩=some (.bool (m k))∧u.cell? ⟨G,o+k*7+5,none⟩=some (.slice (b k) (kk k) (d k))∧u.cell? ⟨G,o+k*7+6,none⟩=some (.int .i64 (y k))):=fun u ku=>⟨ku,(hP3.kept ku).c0,(hP3.kept ku).c1,(hP3.kept ku).c2,(hP3.kept ku).c3,(hP3.kept ku).c4,(hP3.kept ku).c5,(hP3.kept ku).c6,(HA.out u (hK.trans ku)).c0,(HA.out u (hK.trans ku)).c1,(HA.out u (hK.trans ku)).c2,(HA.out u (hK.trans ku)).c3,(HA.out u (hK.trans ku)).c4,(HA.out u (hK.trans ku)).c5,(HA.out u (hK.trans ku)).c6⟩
    go_upto_region 8 with fail
    refine qm [] (fun u=>Kept ue u∧u.cell? ⟨B3,0,none⟩=some (.int .i64 (I q))∧u.cell? ⟨B3,1,none⟩=some (.bool (n q))∧u.cell? ⟨B3,2,none⟩=some (.slice (a q) (l q) (c q))∧u.cell? ⟨B3,3,none⟩=some (.int .i64 (x q))∧u.cell? ⟨B3,4,none⟩=some (.bool (m q))∧u.cell? ⟨B3,5,none⟩=some (.slice (b q) (kk q) (d q))∧u.cell? ⟨B3,6,none⟩=some (.int .i64 (y q))∧u.cell? ⟨G,o+k*7,none⟩=some (.int .i64 (I k))∧u.cell? ⟨G,o+k*7+1,none⟩=some (.bool (n k))∧u.cell? ⟨G,o+k*7+2,none⟩=some (.slice (a k) (l k) (c k))∧u.cell? ⟨G,o+k*7+3,none⟩=some (.int .i64 (x k))∧u.cell? ⟨G,o+k*7+4,none⟩=some (.bool (m k))∧u.cell? ⟨G,o+k*7+5,none⟩=some (.slice (b k) (kk k) (d k))∧u.cell? ⟨G,o+k*7+6,none⟩=some (.int .i64 (y k))) (by kernel_rfl) (HSg.out _ (qo0 ue).drew) (fun hHeld=>?_)
    refine tkD (i:=0) (v:=?_) rfl hHeld ?_
    try simp only[zz]
    refine tkD (i:=1) (v:=?_) rfl hHeld ?_
    try simp only[zz]
    refine tkD (i:=2) (v:=?_) rfl hHeld ?_
    try simp only[zz]
    refine tkD (i:=3) (v:=?_) rfl hHeld ?_
    try simp only[zz]
    refine tkD (i:=4) (v:=?_) rfl hHeld ?_
    try simp only[zz]
    refine qi (i:=5) (by kernel_rfl) rfl (fun K hK9=>?_)
    go_simp
    go_wp2_with fail
    refine(HK2.out _ (hK.trans hHeld.1)).mono ?_
    rintro e ug ⟨rfl,kg⟩
    refine hK9.out _ _ (HSg.out _ (hHeld.1.trans kg)) (fun hHg=>?_)
    clear hK9 K
    try simp only[zz]
    refine tkD (i:=6) (v:=?_) rfl hHg ?_
    try simp only[zz]
    refine qs (by kernel_rfl) ?_ _
    try simp only[zz]
    have kg:=hHg.1
    clear HSg hHg hHeld
    have hP2:=hP2.kept kg
    have hP3:=hP3.kept kg
    have hP0:=hP0.kept kg
    have hP1:=hP1.kept kg
    have hK:=hK.trans kg
    clear kg HK2
    cases t2
    ·skip
     go_wp2_with fail
     go_roundw
     case rel=>exact⟨k+1,p,q,by omega,by omega,by go_num,HR.out wr p q (by simp) (by simp) (by simp) (by simp),hP2,hP3,hP0,hP1,hK⟩
     case measure=>simp[intOf];omega
    ·skip
     obtain⟨f0,f1,f2,f3,f4,f5,f6⟩:=HA.out _ hK
     obtain⟨h0,h1,h2,h3,h4,h5,h6,hf⟩:=hP3.kept (qo0 _)
     go_upto_region 5 with fail
     obtain⟨Z,hY⟩:∃Y,Y=((((((ug.setCell ⟨B3,0,none⟩ (.int .i64 (I k))).setCell ⟨B3,1,none⟩ (.bool (n k))).setCell ⟨B3,2,none⟩ (.slice (a k) (l k) (c k))).setCell ⟨B3,3,none⟩ (.int .i64 (x k))).setCell ⟨B3,4,none⟩ (.bool (m k))).setCell ⟨B3,5,none⟩ (.slice (b k) (kk k) (d k))).setCell ⟨B3,6,none⟩ (.int .i64 (y k)):=⟨_,rfl⟩
     have hn1:P7 Z B3 (.int .i64 (I k)) (.bool (n k)) (.slice (a k) (l k) (c k)) (.int .i64 (x k)) (.bool (m k)) (.slice (b k) (kk k) (d k)) (.int .i64 (y k)):=by rw[hY];exact hP3.put _ _ _ _ _ _ _
     have hn2:=hP2.other B3 oo.out.2.2.2.2.2.2 (.int .i64 (I k)) (.bool (n k)) (.slice (a k) (l k) (c k)) (.int .i64 (x k)) (.bool (m k)) (.slice (b k) (kk k) (d k)) (.int .i64 (y k))
     have hn3:=hP0.other B3 oo.out.2.2.2.2.1 (.int .i64 (I k)) (.bool (n k)) (.slice (a k) (l k) (c k)) (.int .i64 (x k)) (.bool (m k)) (.slice (b k) (kk k) (d k)) (.int .i64 (y k))
     have hn4:=hP1.other B3 oo.out.2.2.2.2.2.1 (.int .i64 (I k)) (.bool (n k)) (.slice (a k) (l k) (c k)) (.int .i64 (x k)) (.bool (m k)) (.slice (b k) (kk k) (d k)) (.int .i64 (y k))
     have hn5:=ze hK oo.out.1.2.2.2 (.int .i64 (I k)) (.bool (n k)) (.slice (a k) (l k) (c k)) (.int .i64 (x k)) (.bool (m k)) (.slice (b k) (kk k) (d k)) (.int .i64 (y k))
     unfold xY at hn2 hn3 hn4 hn5
     rw[←hY]at hn2 hn3 hn4 hn5
     rw[←hY]
     clear hY f0 f1 f2 f3 f4 f5 f6 h0 h1 h2 h3 h4 h5 h6 hf
     have hP3:=hn1
     have hP2:=hn2
     have hP0:=hn3
     have hP1:=hn4
     have hK:=hn5
     clear hn1 hn2 hn3 hn4 hn5
     go_wp2_with fail
     go_roundw
     case rel=>exact⟨k+1,p,k,by omega,by omega,by go_num,HR.out wr p k (by simp) (by simp) (by simp) (by simp),hP2,hP3,hP0,hP1,hK⟩
     case measure=>simp[intOf];omega
   ·skip
    obtain⟨f0,f1,f2,f3,f4,f5,f6⟩:=HA.out _ hK
    obtain⟨h0,h1,h2,h3,h4,h5,h6,hf⟩:=hP2.kept (qo0 _)
    go_upto_region 8 with fail
    obtain⟨Y,hY⟩:∃Y,Y=((((((ue.setCell ⟨B2,0,none⟩ (.int .i64 (I k))).setCell ⟨B2,1,none⟩ (.bool (n k))).setCell ⟨B2,2,none⟩ (.slice (a k) (l k) (c k))).setCell ⟨B2,3,none⟩ (.int .i64 (x k))).setCell ⟨B2,4,none⟩ (.bool (m k))).setCell ⟨B2,5,none⟩ (.slice (b k) (kk k) (d k))).setCell ⟨B2,6,none⟩ (.int .i64 (y k)):=⟨_,rfl⟩
    have hn1:P7 Y B2 (.int .i64 (I k)) (.bool (n k)) (.slice (a k) (l k) (c k)) (.int .i64 (x k)) (.bool (m k)) (.slice (b k) (kk k) (d k)) (.int .i64 (y k)):=by rw[hY];exact hP2.put _ _ _ _ _ _ _
    have hn2:=hP3.other B2 oo.out.2.2.2.1 (.int .i64 (I k)) (.bool (n k)) (.slice (a k) (l k) (c k)) (.int .i64 (x k)) (.bool (m k)) (.slice (b k) (kk k) (d k)) (.int .i64 (y k))
    have hn3:=hP0.other B2 oo.out.2.1 (.int .i64 (I k)) (.bool (n k)) (.slice (a k) (l k) (c k)) (.int .i64 (x k)) (.bool (m k)) (.slice (b k) (kk k) (d k)) (.int .i64 (y k))
    have hn4:=hP1.other B2 oo.out.2.2.1 (.int .i64 (I k)) (.bool (n k)) (.slice (a k) (l k) (c k)) (.int .i64 (x k)) (.bool (m k)) (.slice (b k) (kk k) (d k)) (.int .i64 (y k))
    have hn5:=ze hK oo.out.1.2.2.1 (.int .i64 (I k)) (.bool (n k)) (.slice (a k) (l k) (c k)) (.int .i64 (x k)) (.bool (m k)) (.slice (b k) (kk k) (d k)) (.int .i64 (y k))
    unfold xY at hn2 hn3 hn4 hn5
    rw[←hY]at hn2 hn3 hn4 hn5
    rw[←hY]
    clear hY f0 f1 f2 f3 f4 f5 f6 h0 h1 h2 h3 h4 h5 h6 hf
    have hP2:=hn1
    have hP3:=hn2
    have hP0:=hn3
    have hP1:=hn4
    have hK:=hn5
    clear hn1 hn2 hn3 hn4 hn5
    have HSg:Hid (∀u,Kept Y u→Kept Y u∧u.cell? ⟨B3,0,none⟩=some (.int .i64 (I q))∧u.cell? ⟨B3,1,none⟩=some (.bool (n q))∧u.cell? ⟨B3,2,none⟩=some (.slice (a q) (l q) (c q))∧u.cell? ⟨B3,3,none⟩=some (.int .i64 (x q))∧u.cell? ⟨B3,4,none⟩=some (.bool (m q))∧u.cell? ⟨B3,5,none⟩=some (.slice (b q) (kk q) (d q))∧u.cell? ⟨B3,6,none⟩=some (.int .i64 (y q))∧u.cell? ⟨G,o+k*7,none⟩=some (.int .i64 (I k))∧u.cell? ⟨G,o+k*7+1,none⟩=some (.bool (n k))∧u.cell? ⟨G,o+k*7+2,none⟩=some (.slice (a k) (l k) (c k))∧u.cell? ⟨G,o+k*7+3,none⟩=some (.int .i64 (x k))∧u.cell? ⟨G,o+k*7+4,none⟩=some (.bool (m k))∧u.cell? ⟨G,o+k*7+5,none⟩=some (.slice (b k) (kk k) (d k))∧u.cell? ⟨G,o+k*7+6,none⟩=some (.int .i64 (y k))):=fun u ku=>⟨ku,(hP3.kept ku).c0,(hP3.kept ku).c1,(hP3.kept ku).c2,(hP3.kept ku).c3,(hP3.kept ku).c4,(hP3.kept ku).c5,(hP3.kept ku).c6,(HA.out u (hK.trans ku)).c0,(HA.out u (hK.trans ku)).c1,(HA.out u (hK.trans ku)).c2,(HA.out u (hK.trans ku)).c3,(HA.out u (hK.trans ku)).c4,(HA.out u (hK.trans ku)).c5,(HA.out u (hK.trans ku)).c6⟩
    go_upto_region 8 with fail
    refine qm [] (fun u=>Kept Y u∧u.cell? ⟨B3,0,none⟩=some (.int .i64 (I q))∧u.cell? ⟨B3,1,none⟩=some (.bool (n q))∧u.cell? ⟨B3,2,none⟩=some (.slice (a q) (l q) (c q))∧u.cell? ⟨B3,3,none⟩=some (.int .i64 (x q))∧u.cell? ⟨B3,4,none⟩=some (.bool (m q))∧u.cell? ⟨B3,5,none⟩=some (.slice (b q) (kk q) (d q))∧u.cell? ⟨B3,6,none⟩=some (.int .i64 (y q))∧u.cell? ⟨G,o+k*7,none⟩=some (.int .i64 (I k))∧u.cell? ⟨G,o+k*7+1,none⟩=some (.bool (n k))∧u.cell? ⟨G,o+k*7+2,none⟩=some (.slice (a k) (l k) (c k))∧u.cell? ⟨G,o+k*7+3,none⟩=some (.int .i64 (x k))∧u.cell? ⟨G,o+k*7+4,none⟩=some (.bool (m k))∧u.cell? ⟨G,o+k*7+5,none⟩=some (.slice (b k) (kk k) (d k))∧u.cell? ⟨G,o+k*7+6,none⟩=some (.int .i64 (y k))) (by kernel_rfl) (HSg.out _ (qo0 Y).drew) (fun hHeld=>?_)
    refine tkD (i:=0) (v:=?_) rfl hHeld ?_
    try simp only[zz]
    refine tkD (i:=1) (v:=?_) rfl hHeld ?_
    try simp only[zz]
    refine tkD (i:=2) (v:=?_) rfl hHeld ?_
    try simp only[zz]
    refine tkD (i:=3) (v:=?_) rfl hHeld ?_
    try simp only[zz]
    refine tkD (i:=4) (v:=?_) rfl hHeld ?_
    try simp only[zz]
    refine qi (i:=5) (by kernel_rfl) rfl (fun K hK9=>?_)
    go_simp
    go_wp2_with fail
    refine(HK2.out _ (hK.trans hHeld.1)).mono ?_
    rintro e ug ⟨rfl,kg⟩
    refine hK9.out _ _ (HSg.out _ (hHeld.1.trans kg)) (fun hHg=>?_)
    clear hK9 K
    try simp only[zz]
    refine tkD (i:=6) (v:=?_) rfl hHg ?_
    try simp only[zz]
    refine qs (by kernel_rfl) ?_ _
    try simp only[zz]
    have kg:=hHg.1
    clear HSg hHg hHeld
    have hP2:=hP2.kept kg
    have hP3:=hP3.kept kg
    have hP0:=hP0.kept kg
    have hP1:=hP1.kept kg
    have hK:=hK.trans kg
    clear kg HK2
    cases t2
    ·skip
     go_wp2_with fail
     go_roundw
     case rel=>exact⟨k+1,k,q,by omega,by omega,by go_num,HR.out wr k q (by simp) (by simp) (by simp) (by simp),hP2,hP3,hP0,hP1,hK⟩
     case measure=>simp[intOf];omega
    ·skip
     obtain⟨f0,f1,f2,f3,f4,f5,f6⟩:=HA.out _ hK
     obtain⟨h0,h1,h2,h3,h4,h5,h6,hf⟩:=hP3.kept (qo0 _)
     go_upto_region 5 with fail
     obtain⟨Z,hY⟩:∃Y,Y=((((((ug.setCell ⟨B3,0,none⟩ (.int .i64 (I k))).setCell ⟨B3,1,none⟩ (.bool (n k))).setCell ⟨B3,2,none⟩ (.slice (a k) (l k) (c k))).setCell ⟨B3,3,none⟩ (.int .i64 (x k))).setCell ⟨B3,4,none⟩ (.bool (m k))).setCell ⟨B3,5,none⟩ (.slice (b k) (kk k) (d k))).setCell ⟨B3,6,none⟩ (.int .i64 (y k)):=⟨_,rfl⟩
     have hn1:P7 Z B3 (.int .i64 (I k)) (.bool (n k)) (.slice (a k) (l k) (c k)) (.int .i64 (x k)) (.bool (m k)) (.slice (b k) (kk k) (d k)) (.int .i64 (y k)):=by rw[hY];exact hP3.put _ _ _ _ _ _ _
     have hn2:=hP2.other B3 oo.out.2.2.2.2.2.2 (.int .i64 (I k)) (.bool (n k)) (.slice (a k) (l k) (c k)) (.int .i64 (x k)) (.bool (m k)) (.slice (b k) (kk k) (d k)) (.int .i64 (y k))
     have hn3:=hP0.other B3 oo.out.2.2.2.2.1 (.int .i64 (I k)) (.bool (n k)) (.slice (a k) (l k) (c k)) (.int .i64 (x k)) (.bool (m k)) (.slice (b k) (kk k) (d k)) (.int .i64 (y k))
     have hn4:=hP1.other B3 oo.out.2.2.2.2.2.1 (.int .i64 (I k)) (.bool (n k)) (.slice (a k) (l k) (c k)) (.int .i64 (x k)) (.bool (m k)) (.slice (b k) (kk k) (d k)) (.int .i64 (y k))
     have hn5:=ze hK oo.out.1.2.2.2 (.int .i64 (I k)) (.bool (n k)) (.slice (a k) (l k) (c k)) (.int .i64 (x k)) (.bool (m k)) (.slice (b k) (kk k) (d k)) (.int .i64 (y k))
     unfold xY at hn2 hn3 hn4 hn5
     rw[←hY]at hn2 hn3 hn4 hn5
     rw[←hY]
     clear hY f0 f1 f2 f3 f4 f5 f6 h0 h1 h2 h3 h4 h5 h6 hf
     have hP3:=hn1
     have hP2:=hn2
     have hP0:=hn3
     have hP1:=hn4
     have hK:=hn5
     clear hn1 hn2 hn3 hn4 hn5
     go_wp2_with fail
     go_roundw
     case rel=>exact⟨k+1,k,k,by omega,by omega,by go_num,HR.out wr k k (by simp) (by simp) (by simp) (by simp),hP2,hP3,hP0,hP1,hK⟩
     case measure=>simp[intOf];omega
  ·obtain rfl:k=M:=by omega
   have oq:=oo.out.2
   have hB01:=oBB.out
   obtain⟨e0,e1,e2,e3,e4,e5,e6,ef⟩:=hP2.kept (qo0 _)
   obtain⟨f0,f1,f2,f3,f4,f5,f6,ff⟩:=hP3.kept (qo0 _)
   obtain⟨g0,g1,g2,g3,g4,g5,g6,gf⟩:=hP0.kept (qo0 _)
   obtain⟨h0,h1,h2,h3,h4,h5,h6,hf⟩:=hP1.kept (qo0 _)
   have hNa:=hP0.put (.int .i64 (I p)) (.bool (n p)) (.slice (a p) (l p) (c p)) (.int .i64 (x p)) (.bool (m p)) (.slice (b p) (kk p) (d p)) (.int .i64 (y p))
   have hNb:=hNa.other B1 hB01.symm (.int .i64 (I q)) (.bool (n q)) (.slice (a q) (l q) (c q)) (.int .i64 (x q)) (.bool (m q)) (.slice (b q) (kk q) (d q)) (.int .i64 (y q))
   have hNc:=(hP1.other B0 hB01 (.int .i64 (I p)) (.bool (n p)) (.slice (a p) (l p) (c p)) (.int .i64 (x p)) (.bool (m p)) (.slice (b p) (kk p) (d p)) (.int .i64 (y p))).put (.int .i64 (I q)) (.bool (n q)) (.slice (a q) (l q) (c q)) (.int .i64 (x q)) (.bool (m q)) (.slice (b q) (kk q) (d q)) (.int .i64 (y q))
   clear hA KO
   go_upto_region 10 with fail
   go_region
   all_goals go_wp2_with fail
   obtain⟨Z,hZ⟩:∃Z,Z=((((((((((((((wr.setCell ⟨B0,0,none⟩ (.int .i64 (I p))).setCell ⟨B0,1,none⟩ (.bool (n p))).setCell ⟨B0,2,none⟩ (.slice (a p) (l p) (c p))).setCell ⟨B0,3,none⟩ (.int .i64 (x p))).setCell ⟨B0,4,none⟩ (.bool (m p))).setCell ⟨B0,5,none⟩ (.slice (b p) (kk p) (d p))).setCell ⟨B0,6,none⟩ (.int .i64 (y p))).setCell ⟨B1,0,none⟩ (.int .i64 (I q))).setCell ⟨B1,1,none⟩ (.bool (n q))).setCell ⟨B1,2,none⟩ (.slice (a q) (l q) (c q))).setCell ⟨B1,3,none⟩ (.int .i64 (x q))).setCell ⟨B1,4,none⟩ (.bool (m q))).setCell ⟨B1,5,none⟩ (.slice (b q) (kk q) (d q))).setCell ⟨B1,6,none⟩ (.int .i64 (y q))).drew:=⟨_,rfl⟩
   have kZ:Kept w Z:=by
    rw[hZ]
    exact(ze (ze hK oo.out.1.1 (.int .i64 (I p)) (.bool (n p)) (.slice (a p) (l p) (c p)) (.int .i64 (x p)) (.bool (m p)) (.slice (b p) (kk p) (d p)) (.int .i64 (y p))) oo.out.1.2.1 (.int .i64 (I q)) (.bool (n q)) (.slice (a q) (l q) (c q)) (.int .i64 (x q)) (.bool (m q)) (.slice (b q) (kk q) (d q)) (.int .i64 (y q))).drew
   have z1:P7 Z B0 (.int .i64 (I p)) (.bool (n p)) (.slice (a p) (l p) (c p)) (.int .i64 (x p)) (.bool (m p)) (.slice (b p) (kk p) (d p)) (.int .i64 (y p)):=by
    rw[hZ]
    exact hNb.kept (qo0 _).drew
   have z2:P7 Z B1 (.int .i64 (I q)) (.bool (n q)) (.slice (a q) (l q) (c q)) (.int .i64 (x q)) (.bool (m q)) (.slice (b q) (kk q) (d q)) (.int .i64 (y q)):=by
    rw[hZ]
    exact hNc.kept (qo0 _).drew
   rw[←hZ]
   clear hZ
   obtain⟨z10,z11,z12,z13,z14,z15,z16,z1f⟩:=z1
   obtain⟨z20,z21,z22,z23,z24,z25,z26,z2f⟩:=z2
   exact qoz (v:=.tuple #[env (I p) (n p) (a p) (l p) (c p) (x p) (m p) (b p) (kk p) (d p) (y p),env (I q) (n q) (a q) (l q) (c q) (x q) (m q) (b q) (kk q) (d q) (y q)]) (by simp[results,Tryz.results59,go_sem,z10,z11,z12,z13,z14,z15,z16,z20,z21,z22,z23,z24,z25,z26]) rfl ⟨p,q,hpq,rfl,kZ⟩
def NF (x:Option Value)(c:Nat):Prop:=∀b,x=some (.pointer (some ⟨b,0,none⟩))→c≠b
def NFs (x y:Option Value)(u:World)(c:Nat):Prop:=c<u.heap.size∧NF x c∧NF y c
def Fz (X u:World)(x:Option Value):Prop:=∀v,x=some v→∃b,v=.pointer (some ⟨b,0,none⟩)∧X.heap.size≤b∧P7 u b (.int .i64 0) (.bool false) (.slice none 0 0) (.int .i64 0) (.bool false) (.slice none 0 0) (.int .i64 0)
structure Stb (Y:(Nat→Prop)→World→Prop):Prop where
 imp:∀P P' u,(∀c,P c→P' c)→Y P u→Y P' u
 kept:∀P u u',Kept u u'→Y P u→Y P u'
structure JJ (X:World) (Y:(Nat→Prop)→World→Prop) (x y:Option Value) (u:World):Prop where
 k:Kept X u
 v:Y (NFs x y u) u
 f1:Fz X u x
 f2:Fz X u y
 ne:∀v,x=some v→y≠some v
theorem Fz.kept {X u u':World}{x:Option Value}(h:Fz X u x)(k:Kept u u'):Fz X u' x:=fun v hv=>by
 obtain⟨b,e,hb,hp⟩:=h v hv
 exact⟨b,e,hb,hp.kept k⟩
theorem Fz.lt {X u:World}{x:Option Value}(h:Fz X u x){b:Nat}(hb:x=some (.pointer (some ⟨b,0,none⟩))):b<u.heap.size:=by
 obtain⟨c,e,-,hp⟩:=h _ hb
 cases e
 exact hp.lt
theorem NFs.kept {x y:Option Value}{u u':World}{c:Nat}(h:NFs x y u c)(k:Kept u u'):NFs x y u' c:=⟨qok h.1 k.below.size,h.2⟩
theorem JJ.fresh {X:World}{Y:(Nat→Prop)→World→Prop}{x y:Option Value}{u u':World}(h:JJ X Y x y u){c:Nat}(h1:u.heap.size≤c)(h2:c<u'.heap.size):NFs x y u' c:=
 ⟨h2,fun b hb=>by have:=h.f1.lt hb;omega,fun b hb=>by have:=h.f2.lt hb;omega⟩
theorem JJ.next {X:World}{Y Y':(Nat→Prop)→World→Prop}{x y:Option Value}{u u':World}(h:JJ X Y x y u)(k:Kept u u')(hv:Y' (NFs x y u') u'):JJ X Y' x y u':=
 ⟨h.k.trans k,hv,h.f1.kept k,h.f2.kept k,h.ne⟩
theorem Fz.new {X u:World}(k:Kept X u)(t:TypeId):Fz X (u.alloc (.cells #[.int .i64 0,.bool false,.slice none 0 0,.int .i64 0,.bool false,.slice none 0 0,.int .i64 0] t)) (some (.pointer (some ⟨u.heap.size,0,none⟩))):=fun v hv=>by
 cases hv
 exact⟨_,rfl,k.below.size,P7.new u _ _ _ _ _ _ _ t⟩
theorem JJ.one {X:World}{Y:(Nat→Prop)→World→Prop}(sY:Stb Y){y:Option Value}{u:World}(h:JJ X Y none y u)(t:TypeId):JJ X Y (some (.pointer (some ⟨u.heap.size,0,none⟩))) y (u.alloc (.cells #[.int .i64 0,.bool false,.slice none 0 0,.int .i64 0,.bool false,.slice none 0 0,.int .i64 0] t)):=by
 have k:Kept u (u.alloc (.cells #[.int .i64 0,.bool false,.slice none 0 0,.int .i64 0,.bool false,.slice none 0 0,.int .i64 0] t)):=(qo0 u).alloc _ _
 refine⟨h.k.trans k,sY.kept _ _ _ k (sY.imp _ _ _ (fun c hc=>?_) h.v),Fz.new h.k t,h.f2.kept k,fun v hv hy=>?_⟩
 ·refine⟨qok hc.1 k.below.size,fun b hb=>?_,hc.2.2⟩
  cases hb
  exact Nat.ne_of_lt hc.1
 ·cases hv
  exact absurd (h.f2.lt hy) (Nat.lt_irrefl _)
theorem JJ.two {X:World}{Y:(Nat→Prop)→World→Prop}(sY:Stb Y){x:Option Value}{u:World}(h:JJ X Y x none u)(t:TypeId):JJ X Y x (some (.pointer (some ⟨u.heap.size,0,none⟩))) (u.alloc (.cells #[.int .i64 0,.bool false,.slice none 0 0,.int .i64 0,.bool false,.slice none 0 0,.int .i64 0] t)):=by
 have k:Kept u (u.alloc (.cells #[.int .i64 0,.bool false,.slice none 0 0,.int .i64 0,.bool false,.slice none 0 0,.int .i64 0] t)):=(qo0 u).alloc _ _
 refine⟨h.k.trans k,sY.kept _ _ _ k (sY.imp _ _ _ (fun c hc=>?_) h.v),h.f1.kept k,Fz.new h.k t,fun v hv hy=>?_⟩
 ·refine⟨qok hc.1 k.below.size,hc.2.1,fun b hb=>?_⟩
  cases hb
  exact Nat.ne_of_lt hc.1
 ·cases hy
  exact absurd (h.f1.lt hv) (Nat.lt_irrefl _)
theorem Xv {o:Oper}(ho:o.op=.alloc 77){a:Act}{w:World}{K:Act→World→Prop}{Q:Exit→Act→World→Prop}
  (h:K (a.put o.dst (.pointer (some ⟨w.heap.size,0,none⟩))) (w.alloc (.cells #[.int .i64 0,.bool false,.slice none 0 0,.int .i64 0,.bool false,.slice none 0 0,.int .i64 0] 77))):Oper.wp Tryz.prog o a w K Q:=by
 unfold Oper.wp execOp
 rw[ho]
 have e:(Instr.alloc 77 true (.tuple #[])).run Tryz.prog w=.ok (.pointer (some ⟨w.heap.size,0,none⟩)) (w.alloc (.cells #[.int .i64 0,.bool false,.slice none 0 0,.int .i64 0,.bool false,.slice none 0 0,.int .i64 0] 77)):=by go_simp
 simp only[go_sem,e,Oper.upon]
 exact h
theorem qG {ops:Array Oper}{Q:Exit→Act→World→Prop}{S:World→Prop}{i1 i2:Nat}{d1 d2:Tmp}{o1 o2:Oper}{X:World}{Y:(Nat→Prop)→World→Prop}(sY:Stb Y)(hS:∀u,Kept X u→S u)
  (h1:ops[i1]?=some o1) (h2:ops[i2]?=some o2) (e1:o1.op=.alloc 77∧o1.dst=some d1∧o1.guard=none) (e2:o2.op=.alloc 77∧o2.dst=some d2∧o2.guard=none):Flt Tryz.prog ops Q S i1 i2 d1 d2 (JJ X Y):=by
 refine⟨fun x y w h=>hS w h.k,fun K a y w hI h=>?_,fun K a x w hI h=>?_⟩
 ·refine wpOp_step h1 fun K' hK=>?_
  have hw:Region.wanted o1 (yielded ops a.tmps)=true:=by unfold Region.wanted;rw[e1.2.2]
  rw[if_pos hw]
  refine Xv e1.1 (hK _ _ ?_)
  rw[e1.2.1]
  exact h _ _ (hI.one sY _)
 ·refine wpOp_step h2 fun K' hK=>?_
  have hw:Region.wanted o2 (yielded ops a.tmps)=true:=by unfold Region.wanted;rw[e2.2.2]
  rw[if_pos hw]
  refine Xv e2.1 (hK _ _ ?_)
  rw[e2.2.1]
  exact h _ _ (hI.two sY _)
theorem QU {P:Program}{md:Region.Mode}{ops:Array Oper}{Q:Exit→Act→World→Prop}{S:World→Prop}{D:List Nat}{i1 i2:Nat}{d1 d2:Tmp}{fuel:Nat}{L:Array Bool}{a:Act}{I:Option Value→Option Value→World→Prop}{w:World}(hI:I none none w)(h:FL P md ops Q S D i1 i2 d1 d2 fuel L a I):zc P md ops Q S D (fuel+2) L a w:=h none none w hI
end Go.Proofs.YtaglkncdedeipaaGreatDoor
namespace Go.Proofs.YtaglkncdedeipaaGreatDoor
open Go.ChangeShapes Go.WideShapes Go.ChangeAt Go.RowKit Ieee
set_option linter.unusedVariables false
set_option linter.unusedSimpArgs false
set_option maxHeartbeats 16000000
set_option maxRecDepth 100000
abbrev sp2 (a b:Int):Value:=.agg #[.int .i64 a,.int .i64 b]
theorem P2.set {w:World}{b:Nat}{u v:Value}(h:P2 w b u v)(q o:Nat)(hq:q≠b)(x:Value):P2 (w.setCell ⟨q,o,none⟩ x) b u v:=by
 obtain⟨c0,c1,fz⟩:=h
 have h':b≠q:=fun e=>hq e.symm
 exact⟨by simp[go_sem, *],by simp[go_sem, *],fun o=>by simp[World.frozen?_setCell, *]⟩
theorem P2.alloc {w:World}{b:Nat}{u v:Value}(h:P2 w b u v)(c:Array Value)(t:TypeId):P2 (w.alloc (.cells c t)) b u v:=h.kept ((qo0 w).alloc c t)
theorem XN (a1 b1 a2 b2 n:Int)(x1 y1 x2 y2:Nat)(q1 q2:Int)(w:World)
  (KO:Hid (∀u a b x y q,(a=a1∧b=b1∧x=x1∧y=y1∧q=q1∨a=a2∧b=b2∧x=x2∧y=y2∧q=q2)→Calls Tryz.prog 66 #[sp2 a b,.int .i64 n] u fun e w'=>e=.returned (.tuple #[fv2 x y,.int .i64 q])∧Kept u w')):
  Calls Tryz.prog 45 #[sp2 a1 b1,sp2 a2 b2,.int .i64 n] w fun e w'=>e=.returned (if q1=0∧q2=0 then .tuple #[fv2 x1 y1,fv2 x2 y2,.int .i64 0]else .tuple #[zi,zi,.int .i64 (if q1=0 then q2 else q1)])∧Kept w w':=by
 obtain⟨X,hX⟩:∃X,X=(((w.alloc (.cells #[.int .i64 a1,.int .i64 b1] 23)).alloc (.cells #[.int .i64 a2,.int .i64 b2] 23)).alloc (.cells #[.float .f64 0,.float .f64 0] 68)).alloc (.cells #[.float .f64 0,.float .f64 0] 68):=⟨_,rfl⟩
 have hP1:P2 X w.heap.size (.int .i64 a1) (.int .i64 b1):=by
  rw[hX]
  exact(((P2.new w _ _ _).alloc _ _).alloc _ _).alloc _ _
 have hP2:P2 X (w.heap.size+1) (.int .i64 a2) (.int .i64 b2):=by
  rw[hX]
  have:=((P2.new (w.alloc (.cells #[.int .i64 a1,.int .i64 b1] 23)) (.int .i64 a2) (.int .i64 b2) 23).alloc #[.float .f64 0,.float .f64 0] 68).alloc #[.float .f64 0,.float .f64 0] 68
  simpa using this
 have hQ1:P2 X (w.heap.size+2) (.float .f64 0) (.float .f64 0):=by
  rw[hX]
  have:=(P2.new ((w.alloc (.cells #[.int .i64 a1,.int .i64 b1] 23)).alloc (.cells #[.int .i64 a2,.int .i64 b2] 23)) (.float .f64 0) (.float .f64 0) 68).alloc #[.float .f64 0,.float .f64 0] 68
  simpa using this
 have hQ2:P2 X (w.heap.size+3) (.float .f64 0) (.float .f64 0):=by
  rw[hX]
  have:=P2.new (((w.alloc (.cells #[.int .i64 a1,.int .i64 b1] 23)).alloc (.cells #[.int .i64 a2,.int .i64 b2] 23)).alloc (.cells #[.float .f64 0,.float .f64 0] 68)) (.float .f64 0) (.float .f64 0) 68
  simpa using this
 have hK:Kept w X:=by
  rw[hX]
  exact((((qo0 w).alloc _ _).alloc _ _).alloc _ _).alloc _ _
 have hs:Hid (X.heap.size=w.heap.size+4):=by rw[hX];simp[Hid]
 have hSF:=jx
 go_enter Tryz.func45,Tryz.ntmps45
 go_upto_region 1 with fail
 rw[←hX]
 clear hX
 obtain⟨H1,hH1⟩:∃H,H=w.heap.size+1:=⟨_,rfl⟩
 obtain⟨H2,hH2⟩:∃H,H=H1+1:=⟨_,rfl⟩
 obtain⟨H3,hH3⟩:∃H,H=H2+1:=⟨_,rfl⟩
 rw[←hH1,←hH2,←hH3]
 rw[←hH1]at hP2
 rw[show w.heap.size+2=H2 by omega]at hQ1
 rw[show w.heap.size+3=H3 by omega]at hQ2
 have n23:¬H2=H3:=by omega
 have n32:¬H3=H2:=by omega
 have o2:w.heap.size≤H2:=by omega
 have o3:w.heap.size≤H3:=by omega
 have l3:H3<X.heap.size:=by have:=hs.out;omega
 have l2:H2<X.heap.size:=by omega
 clear hH1 hH2 hH3 hs
 obtain⟨p10,p11,p1f⟩:=hP1
 go_upto_region 2 with (first|(go_at_call 66;refine(KO.out _ _ _ _ _ _ (.inl ⟨rfl,rfl,rfl,rfl,rfl⟩)).mono ?_;rintro e w1 ⟨rfl,k1⟩))
 have z1:=k1.below.size
 obtain⟨Y,hY⟩:∃Y,Y=w1.alloc (.cells #[.float .f64 x1,.float .f64 y1] 68):=⟨_,rfl⟩
 have hkY:Kept X Y:=by rw[hY];exact k1.alloc _ _
 have hPY:P2 Y w1.heap.size (.float .f64 x1) (.float .f64 y1):=by rw[hY];exact P2.new _ _ _ _
 rw[←hY]
 clear hY p10 p11 p1f
 obtain⟨B1,hB1⟩:∃B,B=w1.heap.size:=⟨_,rfl⟩
 rw[←hB1]at hPY ⊢
 have hB1':X.heap.size≤B1:=by omega
 clear hB1 z1 k1
 have kwY:=hK.trans hkY
 have r1:=hQ1.kept hkY
 have r2:=hQ2.kept hkY
 by_cases g1:q1=0
 ·subst g1
  obtain⟨p20,p21,p2f⟩:=hP2.kept hkY
  go_upto_region 5 with (first|(go_at_call 66;refine(KO.out _ _ _ _ _ _ (.inr ⟨rfl,rfl,rfl,rfl,rfl⟩)).mono ?_;rintro e w2 ⟨rfl,k2⟩))
  have z2:=k2.below.size
  obtain⟨Z,hZ⟩:∃Z,Z=w2.alloc (.cells #[.float .f64 x2,.float .f64 y2] 68):=⟨_,rfl⟩
  have hkZ:Kept Y Z:=by rw[hZ];exact k2.alloc _ _
  have hPZ:P2 Z w2.heap.size (.float .f64 x2) (.float .f64 y2):=by rw[hZ];exact P2.new _ _ _ _
  rw[←hZ]
  clear hZ p20 p21 p2f
  obtain⟨B2,hB2⟩:∃B,B=w2.heap.size:=⟨_,rfl⟩
  rw[←hB2]at hPZ ⊢
  have hB2':X.heap.size≤B2:=by have:=hkY.below.size;omega
  clear hB2 z2 k2
  have kwZ:=kwY.trans hkZ
  have s1:=r1.kept hkZ
  have s2:=r2.kept hkZ
  by_cases g2:q2=0
  ·subst g2
   have u1:¬B1=H2:=by omega
   have u2:¬B1=H3:=by omega
   have u3:¬H2=B1:=by omega
   have u4:¬H3=B1:=by omega
   have v1:¬B2=H2:=by omega
   have v2:¬B2=H3:=by omega
   have v3:¬H2=B2:=by omega
   have v4:¬H3=B2:=by omega
   obtain⟨m0,m1,mf⟩:=hPY.kept hkZ
   obtain⟨n0,n1,nf⟩:=hPZ
   have t1:=((s1.put (.float .f64 x1) (.float .f64 y1)).set H3 0 (by omega) (.float .f64 x2)).set H3 1 (by omega) (.float .f64 y2)
   have t2:=((s2.set H2 0 (by omega) (.float .f64 x1)).set H2 1 (by omega) (.float .f64 y1)).put (.float .f64 x2) (.float .f64 y2)
   have hkw:Kept w ((((Z.setCell ⟨H2,0,none⟩ (.float .f64 x1)).setCell ⟨H2,1,none⟩ (.float .f64 y1)).setCell ⟨H3,0,none⟩ (.float .f64 x2)).setCell ⟨H3,1,none⟩ (.float .f64 y2)):=(((kwZ.setCell o2 _).setCell o2 _).setCell o3 _).setCell o3 _
   obtain⟨a0,a1',af⟩:=s1
   obtain⟨c0,c1,cf⟩:=s2
   obtain⟨d0,d1,df⟩:=t1
   obtain⟨e0,e1,ef⟩:=t2
   clear hQ1 hQ2 r1 r2 hPY hP2 KO
   go_wp2_with fail
   go_region
   all_goals go_wp2_with fail
   all_goals exact qoz (v:=.tuple #[fv2 x1 y1,fv2 x2 y2,.int .i64 0]) (by simp[results,Tryz.results45,go_sem, *]) rfl ⟨by simp,by first|exact hkw|exact hkw.drew|(repeat' first|exact kwZ|refine Kept.drew ?_|refine Kept.setCell ?_ ?_ _|exact o2|exact o3)⟩
  ·have hq:(q2 != 0)=true:=by simpa using g2
   have t1:=((s1.put (.float .f64 0) (.float .f64 0)).set H3 0 (by omega) (.float .f64 0)).set H3 1 (by omega) (.float .f64 0)
   have t2:=((s2.set H2 0 (by omega) (.float .f64 0)).set H2 1 (by omega) (.float .f64 0)).put (.float .f64 0) (.float .f64 0)
   have hkw:Kept w ((((Z.setCell ⟨H2,0,none⟩ (.float .f64 0)).setCell ⟨H2,1,none⟩ (.float .f64 0)).setCell ⟨H3,0,none⟩ (.float .f64 0)).setCell ⟨H3,1,none⟩ (.float .f64 0)):=(((kwZ.setCell o2 _).setCell o2 _).setCell o3 _).setCell o3 _
   obtain⟨a0,a1',af⟩:=s1
   obtain⟨c0,c1,cf⟩:=s2
   obtain⟨d0,d1,df⟩:=t1
   obtain⟨e0,e1,ef⟩:=t2
   clear hQ1 hQ2 r1 r2 hPY hP2 KO
   go_wp2_with fail
   exact qoz (v:=.tuple #[zi,zi,.int .i64 q2]) (by simp[results,Tryz.results45,go_sem, *]) rfl ⟨by simp[g2],hkw⟩
 ·have hq:(q1 != 0)=true:=by simpa using g1
  have t1:=((r1.put (.float .f64 0) (.float .f64 0)).set H3 0 (by omega) (.float .f64 0)).set H3 1 (by omega) (.float .f64 0)
  have t2:=((r2.set H2 0 (by omega) (.float .f64 0)).set H2 1 (by omega) (.float .f64 0)).put (.float .f64 0) (.float .f64 0)
  have hkw:Kept w ((((Y.setCell ⟨H2,0,none⟩ (.float .f64 0)).setCell ⟨H2,1,none⟩ (.float .f64 0)).setCell ⟨H3,0,none⟩ (.float .f64 0)).setCell ⟨H3,1,none⟩ (.float .f64 0)):=(((kwY.setCell o2 _).setCell o2 _).setCell o3 _).setCell o3 _
  obtain⟨a0,a1',af⟩:=r1
  obtain⟨c0,c1,cf⟩:=r2
  obtain⟨d0,d1,df⟩:=t1
  obtain⟨e0,e1,ef⟩:=t2
  clear hQ1 hQ2 hPY hP2 KO
  go_wp2_with fail
  exact qoz (v:=.tuple #[zi,zi,.int .i64 q1]) (by simp[results,Tryz.results45,go_sem, *]) rfl ⟨by simp[g1],hkw⟩
theorem yQ (x y:Nat)(n q:Int)(hq:(q != 0)=true)(w:World):Calls Tryz.prog 46 #[fv2 x y,.int .i64 n,.int .i64 q] w fun e w'=>e=.returned (.tuple #[sp2 0 0,.int .i64 q])∧Kept w w':=by
 go_enter Tryz.func46,Tryz.ntmps46
 go_wp2_with fail
 refine qoz (v:=.tuple #[sp2 0 0,.int .i64 q]) (by simp[results,Tryz.results46,go_sem]) rfl ⟨rfl,?_⟩
 (repeat' first|exact qo0 _|refine Kept.setCell ?_ ?_ _|refine Kept.alloc ?_ _ _|(simp;done)|(simp<;>omega))
theorem vC {n:Int}{x y:Nat}{k j:Int}(hx:Fl n x k)(hy:Fl n y j)(w:World):Calls Tryz.prog 46 #[fv2 x y,.int .i64 n,.int .i64 0] w fun e w'=>e=.returned (.tuple #[sp2 (pz n k) (pz n j),.int .i64 0])∧Kept w w':=by
 obtain⟨X,hX⟩:∃X,X=(w.alloc (.cells #[.float .f64 x,.float .f64 y] 68)).alloc (.cells #[.int .i64 0,.int .i64 0] 23):=⟨_,rfl⟩
 have hP:P2 X w.heap.size (.float .f64 x) (.float .f64 y):=by
  rw[hX]
  exact(P2.new w _ _ _).alloc _ _
 have hQ:P2 X (w.heap.size+1) (.int .i64 0) (.int .i64 0):=by
  rw[hX]
  have:=P2.new (w.alloc (.cells #[.float .f64 x,.float .f64 y] 68)) (.int .i64 0) (.int .i64 0) 23
  simpa using this
 have hK:Kept w X:=by
  rw[hX]
  exact((qo0 w).alloc _ _).alloc _ _
 have kd:Kept X X.drew:=(qo0 X).drew
 have HS:Hid (∀u,Kept X u→u.cell? ⟨w.heap.size,0,none⟩=some (.float .f64 x)∧u.cell? ⟨w.heap.size,1,none⟩=some (.float .f64 y)):=fun u k=>⟨(hP.kept k).c0,(hP.kept k).c1⟩
 have KP:Hid (∀u z p,(z=x∧p=pz n k∨z=y∧p=pz n j)→Kept X u→Calls Tryz.prog 76 #[.float .f64 z,.int .i64 n] u fun e w'=>e=.returned (.int .i64 p)∧Kept X w'∧Kept u w'):=fun u z p h kk=>by
  rcases h with ⟨rfl,rfl⟩|⟨rfl,rfl⟩
  ·refine(Q5 hx u).mono ?_
   rintro e w' ⟨rfl,k'⟩
   exact⟨rfl,kk.trans k',k'⟩
  ·refine(Q5 hy u).mono ?_
   rintro e w' ⟨rfl,k'⟩
   exact⟨rfl,kk.trans k',k'⟩
 clear hx hy
 generalize pz n k=p at *
 generalize pz n j=q at *
 obtain⟨H1,hH1⟩:∃H,H=w.heap.size+1:=⟨_,rfl⟩
 rw[←hH1]at hQ
 have o1:w.heap.size≤H1:=by omega
 have n1:¬H1=w.heap.size:=by omega
 have n2:¬w.heap.size=H1:=by omega
 have HQ:Hid (∀u,Kept X u→u.cell? ⟨H1,0,none⟩=some (.int .i64 0)∧u.cell? ⟨H1,1,none⟩=some (.int .i64 0)∧∀o,u.frozen? ⟨H1,o,none⟩=false):=fun u k=>⟨(hQ.kept k).c0,(hQ.kept k).c1,(hQ.kept k).fz⟩
 go_enter Tryz.func46,Tryz.ntmps46
 go_upto_region 1 with fail
 rw[←hX,←hH1]
 clear hX hH1
 go_upto_region 3 with fail
 refine qo1 (S:=fun u=>u.cell? ⟨w.heap.size,0,none⟩=some (.float .f64 x)∧u.cell? ⟨w.heap.size,1,none⟩=some (.float .f64 y)) (by kernel_rfl) (HS.out _ kd) (fun hHeld=>?_)
 refine tk (i:=0) (v:=?_) rfl ?_
 simp only[zz]
 refine tk (i:=1) (v:=?_) rfl ?_
 simp only[zz]
 refine tk (i:=2) (v:=?_) rfl ?_
 simp only[zz]
 refine tk (i:=4) (v:=?_) rfl ?_
 simp only[zz]
 refine tk (i:=5) (v:=?_) rfl ?_
 simp only[zz]
 refine tk (i:=6) (v:=?_) rfl ?_
 simp only[zz]
 refine qoy (rs:=[3]) (by kernel_rfl) (by simp) ?_
 refine qow rfl (fun K hK9=>?_) qox
 go_simp
 go_wp2_with fail
 refine(KP.out _ _ _ (.inl ⟨rfl,rfl⟩) kd).mono ?_
 rintro e u1 ⟨rfl,k1,j1⟩
 have e1:=HS.out _ k1
 refine hK9.out _ _ e1 (fun hHeld1=>?_)
 clear hK9 K
 refine qoy (rs:=[7]) (by kernel_rfl) (by simp) ?_
 refine qow rfl (fun K hK9=>?_) qox
 go_simp
 go_wp2_with fail
 refine(KP.out _ _ _ (.inr ⟨rfl,rfl⟩) k1).mono ?_
 rintro e u2 ⟨rfl,k2,j2⟩
 have e2:=HS.out _ k2
 refine hK9.out _ _ e2 (fun hHeld2=>?_)
 clear hK9 K
 refine tk (i:=8) (v:=?_) rfl ?_
 simp only[zz]
 obtain⟨c0,c1,cf⟩:=HQ.out _ k2
 refine qoy (rs:=[9]) (by kernel_rfl) (by simp) ?_
 refine qow rfl (fun K hK9=>?_) qox
 go_simp
 have e3:=((hP.kept k2).set H1 0 n1 (.int .i64 p)).set H1 1 n1 (.int .i64 q)
 refine hK9.out _ _ ⟨e3.c0,e3.c1⟩ (fun hHeld3=>?_)
 clear hK9 K
 refine tk (i:=10) (v:=?_) rfl ?_
 simp only[zz]
 refine qo2 (by kernel_rfl) ?_ _
 go_wp2_with fail
 have hz:=(P2.mk c0 c1 cf).put (.int .i64 p) (.int .i64 q)
 obtain⟨d0,d1,df⟩:=hz
 exact qoz (v:=.tuple #[sp2 p q,.int .i64 0]) (by simp[results,Tryz.results46,go_sem,d0,d1]) rfl ⟨rfl,((hK.trans k2).setCell o1 _).setCell o1 _⟩
theorem qfh (x:Nat)(w:World):Calls Tryz.prog 56 #[.float .f64 x] w fun e w'=>e=.returned (fv2 x x)∧Kept w w':=by
 have hSF:=jx
 go_enter Tryz.func56,Tryz.ntmps56
 go_wp2_with fail
 refine qoz (v:=fv2 x x) (by simp[results,Tryz.results56,go_sem]) rfl ⟨rfl,?_⟩
 (repeat' first|exact qo0 _|refine Kept.setCell ?_ ?_ _|refine Kept.alloc ?_ _ _|(simp;done)|(simp<;>omega))
theorem Qs (b n:Int)(hn:n=64∨n=32)(hi:qj b n=true)(h1:RB b):fin b n=decide (¬(qc b n=(ifn n:Int)∨qc b n=-(ifn n:Int))):=by
 have hc:cls b n≠4:=by
  unfold qj at hi
  rw[qor]at hi
  exact hi.2
 unfold fin
 rw[Bool.eq_iff_iff,qor,qor]
 rcases hn with rfl|rfl
 ·have hm:=(xl b).1 hi
  have i1:(ifn 64:Int)=9218868437227405312:=by decide
  rw[Kv,i1]
  unfold cls zX
  simp only[if_pos]
  unfold RB at h1
  split<;>(repeat' split)<;>simp<;>omega
 ·have hm:=(xo b).1 hi
  have i1:(ifn 32:Int)=2139095040:=by decide
  rw[Qr,i1]
  unfold cls zX
  rw[if_neg (by decide:¬(32:Int)=64),if_pos rfl,if_pos hm.1]
  split<;>(repeat' split)<;>simp<;>omega
end Go.Proofs.YtaglkncdedeipaaGreatDoor
