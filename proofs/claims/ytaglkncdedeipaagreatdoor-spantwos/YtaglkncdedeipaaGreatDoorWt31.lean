/-  -/
import Derived.Test.YtaglkncdedeipaaGreatDoorWt30
namespace Go.Proofs.YtaglkncdedeipaaGreatDoor
open Go.ChangeShapes Go.WideShapes Go.ChangeAt Go.RowKit
set_option linter.unusedVariables false
set_option linter.unusedSimpArgs false
set_option maxHeartbeats 16000000
set_option maxRecDepth 100000
theorem Y0 (n way i:Int)(x:Nm):-(ifn n:Int)≤Tk n way i x∧Tk n way i x≤(ifn n:Int):=by
 have:=xd n way x
 unfold Tk
 (repeat' split)<;>omega
theorem qkl (n way s T:Int)(hn:n=64∨n=32)(hs:s<qk n)(i j:Int)(x y:Nm)(hx:vld x=true)(hy:vld y=true)(gx:x.mag≠[]→s≤x.exp)(gy:y.mag≠[]→s≤y.exp)(bx:-T<vz s x∧vz s x<T)(hby:-T<vz s y∧vz s y<T)(h:Rh T s i x≤Rh T s j y):Tk n way i x≤Tk n way j y:=by
 have rx:=Y0 n way i x
 have ry:=Y0 n way j y
 unfold Rh at h
 by_cases i1:0<i
 ·rw[if_pos i1]at h
  by_cases j1:0<j
  ·unfold Tk;rw[if_pos i1,if_pos j1];exact Int.le_refl _
  ·rw[if_neg j1]at h
   by_cases j2:j<0
   ·rw[if_pos j2]at h;omega
   ·rw[if_neg j2]at h;omega
 ·by_cases i2:i<0
  ·have:Tk n way i x=-(ifn n:Int):=by unfold Tk;rw[if_neg i1,if_pos i2]
   omega
  ·rw[if_neg i1,if_neg i2]at h
   by_cases j1:0<j
   ·have:Tk n way j y=(ifn n:Int):=by unfold Tk;rw[if_pos j1]
    omega
   ·rw[if_neg j1]at h
    by_cases j2:j<0
    ·rw[if_pos j2]at h;omega
    ·rw[if_neg j2]at h
     unfold Tk
     rw[if_neg i1,if_neg i2,if_neg j1,if_neg j2]
     exact qh7 n way hn s hs x y hx hy gx gy h
theorem qkm (n b c:Int)(hb:RB b∧qj b n=true)(hc:RB c∧qj c n=true)(h1:-(ifn n:Int)<qc b n∧qc b n<(ifn n:Int))(h2:-(ifn n:Int)<qc c n∧qc c n<(ifn n:Int))(r:Nm)(hr:cfm (kvz n (-1074) (qc b n)*kvz n (-1074) (qc c n)) (-2148)=some r):tms (ql b n) (ql c n)=r∧vld (tms (ql b n) (ql c n))=true:=by
 have hn:=qv b n hb.2
 obtain⟨p1,q1⟩:=vM n b hb h1
 obtain⟨p2,q2⟩:=vM n c hc h2
 obtain⟨l1,z1⟩:=zr b n hn hb.1 p1
 obtain⟨l2,z2⟩:=zr c n hn hc.1 p2
 rw[q1,q2]
 have e:=VT (-1075) 5000 (by decide) (by decide) (by decide) _ _ l1 l2
 rw[z1,z2]at e
 have ez:kvz n (-1074) (qc b n)*2*(kvz n (-1074) (qc c n)*2)=kvz n (-1074) (qc b n)*kvz n (-1074) (qc c n)*2^2:=by
  rw[Int.mul_assoc,Int.mul_comm 2 (kvz n (-1074) (qc c n)*2),Int.mul_assoc,←Int.mul_assoc]
  rfl
 rw[ez]at e
 have hs:=jA (kvz n (-1074) (qc b n)*kvz n (-1074) (qc c n)) 2 (-1075+-1075)
 have e2:Jn (ofN b n) (ofN c n)=some r:=e.trans (hs.trans hr)
 rw[qdq _ _ l1.ok l2.ok]at e2
 by_cases hv:vld (tms (ofN b n) (ofN c n))=true
 ·rw[if_pos hv]at e2
  cases e2
  exact⟨rfl,hv⟩
 ·rw[if_neg hv]at e2
  cases e2
theorem Xx (n way:Int):kyN n way ⟨false,[],0⟩=0:=by
 unfold kyN mgN
 simp
theorem jN (n way b c K:Int)(hb:RB b∧qj b n=true)(hc:RB c∧qj c n=true)(h:Prk n way (qc b n) (qc c n) K):Tk n way (itm n b c) (xtm n b c)=K∧vld (xtm n b c)=true∧(itm n b c=-1∨itm n b c=0∨itm n b c=1):=by
 have hn:=qv b n hb.2
 have k1:=zG b n hb.2 hb.1.1 hb.1.2
 have k2:=zG c n hc.2 hc.1.1 hc.1.2
 have i1:=jm n _ hn k1
 have i2:=jm n _ hn k2
 have hp:(0:Int)<(ifn n:Int):=by rcases hn with rfl|rfl<;>decide
 have v0:vld ⟨false,[],0⟩=true:=by decide
 unfold itm xtm
 by_cases h0:qc b n=0∨qc c n=0
 ·rw[if_pos h0,if_pos (.inl h0)]
  refine⟨?_,v0,.inr (.inl rfl)⟩
  rw[Zo,Xx]
  rcases h with ⟨-,h⟩|⟨a,b',-⟩|⟨a,b',-⟩
  ·exact h.symm
  ·exact absurd h0 (fun h=>h.elim a b')
  ·exact absurd h0 (fun h=>h.elim a b')
 ·rw [if_neg h0]
  by_cases hi:iK n b≠0∨iK n c≠0
  ·rw[if_pos hi,if_pos (.inr hi)]
   have hj:(qc b n=(ifn n:Int)∨qc b n=-(ifn n:Int))∨(qc c n=(ifn n:Int)∨qc c n=-(ifn n:Int)):=by
    rcases hi with h|h
    ·have:¬(-(ifn n:Int)<qc b n∧qc b n<(ifn n:Int)):=fun e=>h (i1.2 e)
     left;omega
    ·have:¬(-(ifn n:Int)<qc c n∧qc c n<(ifn n:Int)):=fun e=>h (i2.2 e)
     right;omega
   have hK:K=(if (decide (qc b n<0)^^decide (qc c n<0))=true then -(ifn n:Int)else (ifn n:Int)):=by
    rcases h with ⟨h,-⟩|⟨-,-,-,h⟩|⟨-,-,a,b',-⟩
    ·exact absurd h h0
    ·exact h
    ·exfalso;omega
   rw[hK]
   unfold Tk
   rcases xZ (qc b n)with ⟨p,q⟩|⟨p,q⟩|⟨p,q⟩<;>rcases xZ (qc c n)with ⟨r,s⟩|⟨r,s⟩|⟨r,s⟩<;>rw[q,s]
   ·refine⟨?_,v0,by decide⟩
    rw[qos p,qos r];rfl
   ·exact absurd (.inr r) h0
   ·refine⟨?_,v0,by decide⟩
    rw[qos p,qot (by omega)];rfl
   ·exact absurd (.inl p) h0
   ·exact absurd (.inl p) h0
   ·exact absurd (.inl p) h0
   ·refine⟨?_,v0,by decide⟩
    rw[qot (by omega),qos r];rfl
   ·exact absurd (.inr r) h0
   ·refine⟨?_,v0,by decide⟩
    rw[qot (by omega),qot (by omega)];rfl
  ·rw[if_neg hi,if_neg (fun h=>h.elim h0 hi)]
   have h1:iK n b=0:=by rcases Decidable.em (iK n b=0)with h|h;exact h;exact absurd (.inl h) hi
   have h2:iK n c=0:=by rcases Decidable.em (iK n c=0)with h|h;exact h;exact absurd (.inr h) hi
   have f1:=i1.1 h1
   have f2:=i2.1 h2
   rcases h with ⟨h,-⟩|⟨-,-,h,-⟩|⟨-,-,-,-,r,hr,hK⟩
   ·exact absurd h h0
   ·exfalso;omega
   ·obtain⟨e,v⟩:=qkm n b c hb hc f1 f2 r hr
    refine⟨?_,v,.inr (.inl rfl)⟩
    rw[Zo,e,hK]
theorem qhv (n way:Int)(r k:Nat→Int)(p:Nat)(hp:p<4)(hr:∀j,j<4→r p≤r j)(hm:∀i j,i<4→j<4→r i≤r j→k i≤k j):k p=min (min (min (k 0) (k 1)) (k 2)) (k 3):=by
 have a0:=hm p 0 hp (by decide) (hr 0 (by decide))
 have a1:=hm p 1 hp (by decide) (hr 1 (by decide))
 have a2:=hm p 2 hp (by decide) (hr 2 (by decide))
 have a3:=hm p 3 hp (by decide) (hr 3 (by decide))
 rcases(show p=0∨p=1∨p=2∨p=3 by omega)with rfl|rfl|rfl|rfl<;>omega
theorem ql3 (n way:Int)(r k:Nat→Int)(p:Nat)(hp:p<4)(hr:∀j,j<4→r j≤r p)(hm:∀i j,i<4→j<4→r i≤r j→k i≤k j):k p=max (max (max (k 0) (k 1)) (k 2)) (k 3):=by
 have a0:=hm 0 p (by decide) hp (hr 0 (by decide))
 have a1:=hm 1 p (by decide) hp (hr 1 (by decide))
 have a2:=hm 2 p (by decide) hp (hr 2 (by decide))
 have a3:=hm 3 p (by decide) hp (hr 3 (by decide))
 rcases(show p=0∨p=1∨p=2∨p=3 by omega)with rfl|rfl|rfl|rfl<;>omega
def TL (n way K:Int)(P:Nat→Prop)(u:World)(v:Value):Prop:=∃i x,EnAt P u v i x oneN5∧(i=-1∨i=0∨i=1)∧vld x=true∧Tk n way i x=K
theorem qhw (n way K:Int):Stv (TL n way K):=by
 refine⟨fun P P' u v h g=>?_,fun P u u' v k g=>?_,fun P u v b hb g v0 v1 v2 v3 v4 v5 v6=>?_,fun P u v g=>?_⟩
 ·obtain⟨i,x,e,r⟩:=g
  exact⟨i,x,e.imp h,r⟩
 ·obtain⟨i,x,e,r⟩:=g
  exact⟨i,x,e.kept k,r⟩
 ·obtain⟨i,x,e,r⟩:=g
  exact⟨i,x,e.put b hb v0 v1 v2 v3 v4 v5 v6,r⟩
 ·obtain⟨i,x,e,r⟩:=g
  obtain⟨n1,a1,l1,c1,y1,m1,b1,k1,d1,z1,e⟩:=e.shape
  exact⟨_,_,_,_,_,_,_,_,_,_,_,e⟩
def fr4 {α:Type}(a b c d:α)(j:Nat):α:=if j=0 then a else if j=1 then b else if j=2 then c else d
theorem Zq {α:Type}{Q:Nat→α→Prop}{a b c d:α}(h0:Q 0 a)(h1:Q 1 b)(h2:Q 2 c)(h3:Q 3 d)(j:Nat)(hj:j<4):Q j (fr4 a b c d j):=by
 rcases(show j=0∨j=1∨j=2∨j=3 by omega)with rfl|rfl|rfl|rfl<;>assumption
theorem qkn (n:Int)(hn:n=64∨n=32)(v:Nat→Value)(i:Nat→Int)(x:Nat→Nm)(P:Nat→Prop)(u:World)(G:Nat)(hi:∀j,j<4→(i j=-1∨i j=0∨i j=1))(hx:∀j,j<4→vld (x j)=true)(he:∀j,j<4→EnAt P u (v j) (i j) (x j) oneN5)(hA:∀j,j<4→AV u G (j*7) (v j)):
  Calls Tryz.prog 59 #[.slice (some ⟨G,0,none⟩) 4 4] u fun e w'=>∃vl vh,e=.returned (.tuple #[vl,vh])∧TL n 1 (min (min (min (Tk n 1 (i 0) (x 0)) (Tk n 1 (i 1) (x 1))) (Tk n 1 (i 2) (x 2))) (Tk n 1 (i 3) (x 3))) P w' vl∧TL n 2 (max (max (max (Tk n 2 (i 0) (x 0)) (Tk n 2 (i 1) (x 1))) (Tk n 2 (i 2) (x 2))) (Tk n 2 (i 3) (x 3))) P w' vh∧Kept u w':=by
 obtain⟨s,hs⟩:∃s:Int,s=min (min (min (x 0).exp (x 1).exp) (min (x 2).exp (x 3).exp)) (-2000):=⟨_,rfl⟩
 have hsl:s<qk n:=by
  have:qk 64=-1074:=rfl
  have:qk 32=-149:=rfl
  rcases hn with rfl|rfl<;>omega
 have hse:∀j,j<4→s≤(x j).exp:=fun j hj=>by
  rcases(show j=0∨j=1∨j=2∨j=3 by omega)with rfl|rfl|rfl|rfl<;>omega
 obtain⟨T,hT⟩:∃T:Int,T=(vz s (x 0)).natAbs+(vz s (x 1)).natAbs+(vz s (x 2)).natAbs+(vz s (x 3)).natAbs+1:=⟨_,rfl⟩
 have hb:∀j,j<4→-T<vz s (x j)∧vz s (x j)<T:=fun j hj=>by
  rcases(show j=0∨j=1∨j=2∨j=3 by omega)with rfl|rfl|rfl|rfl<;>omega
 have hm:∀way a b,a<4→b<4→Rh T s (i a) (x a)≤Rh T s (i b) (x b)→Tk n way (i a) (x a)≤Tk n way (i b) (x b):=fun way a b ha hb' h=>qkl n way s T hn hsl _ _ _ _ (hx a ha) (hx b hb') (fun _=>hse a ha) (fun _=>hse b hb') (hb a ha) (hb b hb') h
 refine(kG 4 (by decide) (by decide) G 4 v (fun j=>Rh T s (i j) (x j)) u hA (fun w p q hp hq k=>?_)).mono ?_
 ·exact qcy P _ _ _ _ _ _ s T (hi p hp) (hi q hq) (hx p hp) (hx q hq) (fun _=>hse p hp) (fun _=>hse q hq) (hb p hp) (hb q hq) w ((he p hp).kept k) ((he q hq).kept k)
 ·rintro e w' ⟨p,q,⟨hp,hq,hl,hh⟩,rfl,k⟩
  refine⟨_,_,rfl,⟨i p,x p,(he p hp).kept k,hi p hp,hx p hp,?_⟩,⟨i q,x q,(he q hq).kept k,hi q hq,hx q hq,?_⟩,k⟩
  ·exact qhv n 1 (fun j=>Rh T s (i j) (x j)) (fun j=>Tk n 1 (i j) (x j)) p hp hl (hm 1)
  ·exact ql3 n 2 (fun j=>Rh T s (i j) (x j)) (fun j=>Tk n 2 (i j) (x j)) q hq hh (hm 2)
theorem qc2 (a1 b1 a2 b2 n d0 d1 d2 d3 u0 u1 u2 u3:Int)(s1:RB a1∧qj a1 n=true)(s2:RB b1∧qj b1 n=true)(s3:RB a2∧qj a2 n=true)(s4:RB b2∧qj b2 n=true)
  (hd:Prk n 1 (qc a1 n) (qc a2 n) d0∧Prk n 1 (qc a1 n) (qc b2 n) d1∧Prk n 1 (qc b1 n) (qc a2 n) d2∧Prk n 1 (qc b1 n) (qc b2 n) d3) (hu:Prk n 2 (qc a1 n) (qc a2 n) u0∧Prk n 2 (qc a1 n) (qc b2 n) u1∧Prk n 2 (qc b1 n) (qc a2 n) u2∧Prk n 2 (qc b1 n) (qc b2 n) u3) (w:World):
  Calls Tryz.prog 22 #[.agg #[.int .i64 a1,.int .i64 b1],.agg #[.int .i64 a2,.int .i64 b2],.int .i64 n] w fun e w'=>e=.returned (.agg #[.int .i64 (pz n (min (min (min d0 d1) d2) d3)),.int .i64 (pz n (max (max (max u0 u1) u2) u3))])∧Kept w w':=by
 have hn:=qv a1 n s1.2
 have hall:=yi (fun b=>RB b∧qj b n=true) a1 b1 a2 b2 s1 s2 s3 s4
 obtain⟨e0,f0,g0⟩:=jN n 1 a1 a2 d0 s1 s3 hd.1
 obtain⟨e1,f1,g1⟩:=jN n 1 a1 b2 d1 s1 s4 hd.2.1
 obtain⟨e2,f2,g2⟩:=jN n 1 b1 a2 d2 s2 s3 hd.2.2.1
 obtain⟨e3,f3,g3⟩:=jN n 1 b1 b2 d3 s2 s4 hd.2.2.2
 have h0:=(jN n 2 a1 a2 u0 s1 s3 hu.1).1
 have h1:=(jN n 2 a1 b2 u1 s1 s4 hu.2.1).1
 have h2:=(jN n 2 b1 a2 u2 s2 s3 hu.2.2.1).1
 have h3:=(jN n 2 b1 b2 u3 s2 s4 hu.2.2.2).1
 refine VG a1 b1 a2 b2 n _ _ (iK n) (fun b=>ql b n) (itm n) (xtm n) (fun _ _=>oneN5) (TL n 1 (min (min (min d0 d1) d2) d3)) (TL n 2 (max (max (max u0 u1) u2) u3)) (qhw _ _ _) (qhw _ _ _) w (fun u b hb _=>kO5 n b (hall b hb) u) (fun u b c v1 v2 P hbc _ q1 q2=>?_) (fun u v1 v2 v3 v4 P G _ q1 q2 q3 q4 r1 r2 r3 r4=>?_) (fun u v1 v2 _ q1 q2=>?_)
 ·exact qbp n b c (hall b (by rcases hbc.1 with h|h<;>simp[h])) (hall c (by rcases hbc.2 with h|h<;>simp[h])) P v1 v2 u q1 q2
 ·have:=qkn n hn (fr4 v1 v2 v3 v4) (fr4 (itm n a1 a2) (itm n a1 b2) (itm n b1 a2) (itm n b1 b2)) (fr4 (xtm n a1 a2) (xtm n a1 b2) (xtm n b1 a2) (xtm n b1 b2)) P u G (Zq (Q:=fun _ i=>i=-1∨i=0∨i=1) g0 g1 g2 g3) (Zq (Q:=fun _ x=>vld x=true) f0 f1 f2 f3) (fun j hj=>by
   rcases(show j=0∨j=1∨j=2∨j=3 by omega)with rfl|rfl|rfl|rfl
   ·exact q1
   ·exact q2
   ·exact q3
   ·exact q4) (Zq (Q:=fun j v=>AV u G (j*7) v) r1 r2 r3 r4)
  rw[show(min (min (min d0 d1) d2) d3)=_ from by rw[←e0,←e1,←e2,←e3],show(max (max (max u0 u1) u2) u3)=_ from by rw[←h0,←h1,←h2,←h3]]
  exact this
 ·obtain⟨i1,x1,w1,p1,l1,t1⟩:=q1
  obtain⟨i2,x2,w2,p2,l2,t2⟩:=q2
  have:=VF n hn i1 i2 x1 x2 p1 p2 l1 l2 v1 v2 u w1 w2
  rw[t1,t2]at this
  exact this
theorem qe3 (s1 s2 t1 t2 n z1 z2:Int)(iE:Int→Int)(xE:Int→Nm)(iT:Int→Int→Int)(xT yT:Int→Int→Nm)(Lw Hw:(Nat→Prop)→World→Value→Prop)(sL:Stv Lw)(sH:Stv Hw)(w:World)
  (KO:Hid (∀u b,(b=s1∨b=s2∨b=t1∨b=t2)→Kept w u→Calls Tryz.prog 52 #[.int .i64 b,.int .i64 n] u fun e w'=>∃v,e=.returned v∧EN iE xE b (qn u.heap.size) w' v∧Kept u w'))
  (KT:Hid (∀u b c v1 v2 P,((b=s1∨b=s2)∧(c=t1∨c=t2))→Kept w u→EN iE xE b P u v1→EN iE xE c P u v2→Calls Tryz.prog 64 #[v1,v2] u fun e w'=>∃v,e=.returned v∧EnAt (PL P u) w' v (iT b c) (xT b c) (yT b c)∧Kept u w'))
  (KU:Hid (∀u v1 v2 v3 v4 P G,Kept w u→EnAt P u v1 (iT s1 t1) (xT s1 t1) (yT s1 t1)→EnAt P u v2 (iT s1 t2) (xT s1 t2) (yT s1 t2)→EnAt P u v3 (iT s2 t1) (xT s2 t1) (yT s2 t1)→EnAt P u v4 (iT s2 t2) (xT s2 t2) (yT s2 t2)→AV u G 0 v1→AV u G 7 v2→AV u G 14 v3→AV u G 21 v4→Calls Tryz.prog 59 #[.slice (some ⟨G,0,none⟩) 4 4] u fun e w'=>∃vl vh,e=.returned (.tuple #[vl,vh])∧Lw P w' vl∧Hw P w' vh∧Kept u w'))
  (KM:Hid (∀u v1 v2,Kept w u→Lw Top u v1→Hw Top u v2→Calls Tryz.prog 60 #[v1,v2,.int .i64 n] u fun e w'=>e=.returned (.agg #[.int .i64 z1,.int .i64 z2])∧Kept u w')):
  Calls Tryz.prog 25 #[.agg #[.int .i64 s1,.int .i64 s2],.agg #[.int .i64 t1,.int .i64 t2],.int .i64 n] w fun e w'=>e=.returned (.agg #[.int .i64 z1,.int .i64 z2])∧Kept w w':=by
 obtain⟨X,hX⟩:∃X,X=((w.alloc (.cells #[.int .i64 s1,.int .i64 s2] 23)).alloc (.cells #[.int .i64 t1,.int .i64 t2] 23)).alloc (.cells #[.int .i64 0,.int .i64 0] 23):=⟨_,rfl⟩
 have hK:Kept w X:=by rw[hX];exact(((qo0 w).alloc _ _).alloc _ _).alloc _ _
 have hXs:X.heap.size=w.heap.size+3:=by rw[hX];simp
 have hP0:P2 X (w.heap.size) (.int .i64 s1) (.int .i64 s2):=by
  rw[hX]
  have:=(((P2.new (w) (.int .i64 s1) (.int .i64 s2) 23).alloc #[.int .i64 t1,.int .i64 t2] 23).alloc #[.int .i64 0,.int .i64 0] 23)
  simpa using this
 have hP1:P2 X (w.heap.size+1) (.int .i64 t1) (.int .i64 t2):=by
  rw[hX]
  have:=((P2.new (w.alloc (.cells #[.int .i64 s1,.int .i64 s2] 23)) (.int .i64 t1) (.int .i64 t2) 23).alloc #[.int .i64 0,.int .i64 0] 23)
  simpa using this
 have hP2:P2 X (w.heap.size+1+1) (.int .i64 0) (.int .i64 0):=by
  rw[hX]
  have:=(P2.new ((w.alloc (.cells #[.int .i64 s1,.int .i64 s2] 23)).alloc (.cells #[.int .i64 t1,.int .i64 t2] 23)) (.int .i64 0) (.int .i64 0) 23)
  simpa using this
 obtain⟨B0,hB0⟩:∃B,B=w.heap.size:=⟨_,rfl⟩
 obtain⟨B1,hB1⟩:∃B,B=B0+1:=⟨_,rfl⟩
 obtain⟨B2,hB2⟩:∃B,B=B1+1:=⟨_,rfl⟩
 rw[←hB0]at hP0
 rw[←hB0,←hB1]at hP1
 rw[←hB0,←hB1,←hB2]at hP2
 have oB:Hid (w.heap.size≤B0∧B0<X.heap.size∧w.heap.size≤B1∧B1<X.heap.size∧w.heap.size≤B2∧B2<X.heap.size):=(show _∧_∧_∧_∧_∧_ from by omega)
 have oX:Hid (w.heap.size≤X.heap.size):=hK.below.size
 go_enter Tryz.func25,Tryz.ntmps25
 go_upto_region 1 with fail
 rw[←hX,←hB0,←hB1,←hB2]
 clear hX hXs hB0 hB1 hB2
 have kXX:=qo0 X
 obtain⟨p0,p1,pf⟩:=hP0.kept kXX
 go_wp2_with fail
 refine(KO.out _ _ (.inl rfl) (hK.trans kXX)).mono ?_
 rintro e wj ⟨v,rfl,g,k⟩
 clear p0 p1 pf
 obtain⟨ne,ae,le,ce,xe,me,be,ke,de,ye,rfl⟩:=g.shape
 replace g:=g.here.imp (fun c hc=>(show c<wj.heap.size from hc.2))
 have kq:=((qo0 wj).alloc #[.int .i64 (iE s1),.bool ne,.slice ae le ce,.int .i64 xe,.bool me,.slice be ke de,.int .i64 ye] 77)
 have kB:=k.trans kq
 have gB:=g.kept kq
 have rB:=P7.new wj (.int .i64 (iE s1)) (.bool ne) (.slice ae le ce) (.int .i64 xe) (.bool me) (.slice be ke de) (.int .i64 ye) 77
 go_upto_region 2 with fail
 obtain⟨U1,hU⟩:∃Z,Z=wj.alloc (.cells #[.int .i64 (iE s1),.bool ne,.slice ae le ce,.int .i64 xe,.bool me,.slice be ke de,.int .i64 ye] 77):=⟨_,rfl⟩
 rw[←hU]at kq kB gB rB
 rw[←hU]
 obtain⟨D1,hD⟩:∃Z,Z=wj.heap.size:=⟨_,rfl⟩
 rw[←hD]at gB rB
 rw[←hD]
 replace gB:=gB.here.imp (fun c hc=>(show c<U1.heap.size from hc.2))
 have kXU1:=kXX.trans kB
 have kU1:=kB
 have gU1:=gB
 have rU1:=rB
 clear hU hD kq g k kB gB rB wj
 obtain⟨p0,p1,pf⟩:=hP0.kept kXU1
 go_wp2_with fail
 refine(KO.out _ _ (.inr (.inl rfl)) (hK.trans kXU1)).mono ?_
 rintro e wj ⟨v,rfl,g,k⟩
 clear p0 p1 pf
 obtain⟨nf,af,lf,cf,xf,mf,bf,kf,df,yf,rfl⟩:=g.shape
 replace g:=g.here.imp (fun c hc=>(show c<wj.heap.size from hc.2))
 have kq:=((qo0 wj).alloc #[.int .i64 (iE s2),.bool nf,.slice af lf cf,.int .i64 xf,.bool mf,.slice bf kf df,.int .i64 yf] 77)
 have kB:=k.trans kq
 have gB:=g.kept kq
 have rB:=P7.new wj (.int .i64 (iE s2)) (.bool nf) (.slice af lf cf) (.int .i64 xf) (.bool mf) (.slice bf kf df) (.int .i64 yf) 77
 go_upto_region 3 with fail
 obtain⟨U2,hU⟩:∃Z,Z=wj.alloc (.cells #[.int .i64 (iE s2),.bool nf,.slice af lf cf,.int .i64 xf,.bool mf,.slice bf kf df,.int .i64 yf] 77):=⟨_,rfl⟩
 rw[←hU]at kq kB gB rB
 rw[←hU]
 obtain⟨D2,hD⟩:∃Z,Z=wj.heap.size:=⟨_,rfl⟩
 rw[←hD]at gB rB
 rw[←hD]
 replace gB:=gB.here.imp (fun c hc=>(show c<U2.heap.size from hc.2))
 have kXU2:=kXU1.trans kB
 have kU2:=kB
 have gU2:=gB
 have rU2:=rB
 clear hU hD kq g k kB gB rB wj
 obtain⟨p0,p1,pf⟩:=hP1.kept kXU2
 go_wp2_with fail
 refine(KO.out _ _ (.inr (.inr (.inl rfl))) (hK.trans kXU2)).mono ?_
 rintro e wj ⟨v,rfl,g,k⟩
 clear p0 p1 pf
 obtain⟨ng,ag,lg,cg,xg,mg,bg,kg,dg,yg,rfl⟩:=g.shape
 replace g:=g.here.imp (fun c hc=>(show c<wj.heap.size from hc.2))
 have kq:=((qo0 wj).alloc #[.int .i64 (iE t1),.bool ng,.slice ag lg cg,.int .i64 xg,.bool mg,.slice bg kg dg,.int .i64 yg] 77)
 have kB:=k.trans kq
 have gB:=g.kept kq
 have rB:=P7.new wj (.int .i64 (iE t1)) (.bool ng) (.slice ag lg cg) (.int .i64 xg) (.bool mg) (.slice bg kg dg) (.int .i64 yg) 77
 go_upto_region 4 with fail
 obtain⟨U3,hU⟩:∃Z,Z=wj.alloc (.cells #[.int .i64 (iE t1),.bool ng,.slice ag lg cg,.int .i64 xg,.bool mg,.slice bg kg dg,.int .i64 yg] 77):=⟨_,rfl⟩
 rw[←hU]at kq kB gB rB
 rw[←hU]
 obtain⟨D3,hD⟩:∃Z,Z=wj.heap.size:=⟨_,rfl⟩
 rw[←hD]at gB rB
 rw[←hD]
 replace gB:=gB.here.imp (fun c hc=>(show c<U3.heap.size from hc.2))
 have kXU3:=kXU2.trans kB
 have kU3:=kB
 have gU3:=gB
 have rU3:=rB
 clear hU hD kq g k kB gB rB wj
 obtain⟨p0,p1,pf⟩:=hP1.kept kXU3
 go_wp2_with fail
 refine(KO.out _ _ (.inr (.inr (.inr rfl))) (hK.trans kXU3)).mono ?_
 rintro e wj ⟨v,rfl,g,k⟩
 clear p0 p1 pf
 obtain⟨nj,aj,lj,cj,xj,mj,bj,kj,dj,yj,rfl⟩:=g.shape
 replace g:=g.here.imp (fun c hc=>(show c<wj.heap.size from hc.2))
 have kq:=((qo0 wj).alloc #[.int .i64 (iE t2),.bool nj,.slice aj lj cj,.int .i64 xj,.bool mj,.slice bj kj dj,.int .i64 yj] 77)
 have kB:=k.trans kq
 have gB:=g.kept kq
 have rB:=P7.new wj (.int .i64 (iE t2)) (.bool nj) (.slice aj lj cj) (.int .i64 xj) (.bool mj) (.slice bj kj dj) (.int .i64 yj) 77
 go_upto_region 5 with fail
 obtain⟨U4,hU⟩:∃Z,Z=wj.alloc (.cells #[.int .i64 (iE t2),.bool nj,.slice aj lj cj,.int .i64 xj,.bool mj,.slice bj kj dj,.int .i64 yj] 77):=⟨_,rfl⟩
 rw[←hU]at kq kB gB rB
 rw[←hU]
 obtain⟨D4,hD⟩:∃Z,Z=wj.heap.size:=⟨_,rfl⟩
 rw[←hD]at gB rB
 rw[←hD]
 replace gB:=gB.here.imp (fun c hc=>(show c<U4.heap.size from hc.2))
 have kXU4:=kXU3.trans kB
 have kU4:=kB
 have gU4:=gB
 have rU4:=rB
 clear hU hD kq g k kB gB rB wj
 have R1:=rU1.kept (kU2.trans (kU3.trans kU4))
 have R2:=rU2.kept (kU3.trans kU4)
 have R3:=rU3.kept kU4
 have R4:=rU4
 have G1:=(gU1.kept (kU2.trans (kU3.trans kU4))).imp (fun c hc=>(show c<U4.heap.size from qok hc (kU2.trans (kU3.trans kU4)).below.size))
 have G2:=(gU2.kept (kU3.trans kU4)).imp (fun c hc=>(show c<U4.heap.size from qok hc (kU3.trans kU4).below.size))
 have G3:=(gU3.kept kU4).imp (fun c hc=>(show c<U4.heap.size from qok hc kU4.below.size))
 have G4:=gU4
 clear rU1 rU2 rU3 rU4 gU1 gU2 gU3 gU4 kU1 kU2 kU3 kU4
 refine qm [] (fun u=>Kept U4 u) (by kernel_rfl) ((qo0 U4).drew) (fun hHeld=>?_)
 have hSS:∀u,Kept U4 u→Kept U4 u:=fun u k=>k
 refine qz (i:=0) (v:=?_) rfl (by kernel_rfl) (by kernel_rfl) (by kernel_rfl) (by kernel_rfl) (fun _ _ _ h=>h) (Or.inl ⟨by rfl,?hyb0⟩) hHeld ?_
 case hyb0=>(intro w hSw;(try dsimp only at hSw);obtain⟨rr0,rr1,rr2,rr3,rr4,rr5,rr6,rrf⟩:=R1.kept hSw;go_simp;try (with_reducible rfl))
 try simp only[zz]
 refine qz (i:=1) (v:=?_) rfl (by kernel_rfl) (by kernel_rfl) (by kernel_rfl) (by kernel_rfl) (fun _ _ _ h=>h) (Or.inl ⟨by rfl,?hyb1⟩) hHeld ?_
 case hyb1=>(intro w hSw;(try dsimp only at hSw);obtain⟨rr0,rr1,rr2,rr3,rr4,rr5,rr6,rrf⟩:=R3.kept hSw;go_simp;try (with_reducible rfl))
 try simp only[zz]
 refine qz (i:=3) (v:=?_) rfl (by kernel_rfl) (by kernel_rfl) (by kernel_rfl) (by kernel_rfl) (fun _ _ _ h=>h) (Or.inl ⟨by rfl,?hyb3⟩) hHeld ?_
 case hyb3=>(intro w hSw;(try dsimp only at hSw);obtain⟨rr0,rr1,rr2,rr3,rr4,rr5,rr6,rrf⟩:=R1.kept hSw;go_simp;try (with_reducible rfl))
 try simp only[zz]
 refine qz (i:=4) (v:=?_) rfl (by kernel_rfl) (by kernel_rfl) (by kernel_rfl) (by kernel_rfl) (fun _ _ _ h=>h) (Or.inl ⟨by rfl,?hyb4⟩) hHeld ?_
 case hyb4=>(intro w hSw;(try dsimp only at hSw);obtain⟨rr0,rr1,rr2,rr3,rr4,rr5,rr6,rrf⟩:=R4.kept hSw;go_simp;try (with_reducible rfl))
 try simp only[zz]
 refine qz (i:=6) (v:=?_) rfl (by kernel_rfl) (by kernel_rfl) (by kernel_rfl) (by kernel_rfl) (fun _ _ _ h=>h) (Or.inl ⟨by rfl,?hyb6⟩) hHeld ?_
 case hyb6=>(intro w hSw;(try dsimp only at hSw);obtain⟨rr0,rr1,rr2,rr3,rr4,rr5,rr6,rrf⟩:=R2.kept hSw;go_simp;try (with_reducible rfl))
 try simp only[zz]
 refine qz (i:=7) (v:=?_) rfl (by kernel_rfl) (by kernel_rfl) (by kernel_rfl) (by kernel_rfl) (fun _ _ _ h=>h) (Or.inl ⟨by rfl,?hyb7⟩) hHeld ?_
 case hyb7=>(intro w hSw;(try dsimp only at hSw);obtain⟨rr0,rr1,rr2,rr3,rr4,rr5,rr6,rrf⟩:=R3.kept hSw;go_simp;try (with_reducible rfl))
 try simp only[zz]
 refine qz (i:=9) (v:=?_) rfl (by kernel_rfl) (by kernel_rfl) (by kernel_rfl) (by kernel_rfl) (fun _ _ _ h=>h) (Or.inl ⟨by rfl,?hyb9⟩) hHeld ?_
 case hyb9=>(intro w hSw;(try dsimp only at hSw);obtain⟨rr0,rr1,rr2,rr3,rr4,rr5,rr6,rrf⟩:=R2.kept hSw;go_simp;try (with_reducible rfl))
 try simp only[zz]
 refine qz (i:=10) (v:=?_) rfl (by kernel_rfl) (by kernel_rfl) (by kernel_rfl) (by kernel_rfl) (fun _ _ _ h=>h) (Or.inl ⟨by rfl,?hyb10⟩) hHeld ?_
 case hyb10=>(intro w hSw;(try dsimp only at hSw);obtain⟨rr0,rr1,rr2,rr3,rr4,rr5,rr6,rrf⟩:=R4.kept hSw;go_simp;try (with_reducible rfl))
 try simp only[zz]
 refine QU (i1:=17) (i2:=18) (d1:=11) (d2:=12) (I:=JJ U4 (fun _ _=>True)) (JJ.start hHeld) ?_
 refine qE (c:=2) (I':=fun v1=>JJ U4 (fun P u=>EnAt P u v1 (iT s1 t1) (xT s1 t1) (yT s1 t1))) rfl (by kernel_rfl) rfl rfl (qG xQ hSS rfl rfl ⟨rfl,rfl,rfl⟩ ⟨rfl,rfl,rfl⟩) (fun v x y w h=>hSS w h.k) (fun xF yF uF hJ K hK9=>?_) (fun v1=>?_)
 ·rcases xF with _|xF<;>rcases yF with _|yF
  all_goals (
   (try simp only[fpt,zz])
   go_simp
   go_wp2_with fail
   refine(KT.out _ _ _ _ _ _ ⟨.inl rfl,.inl rfl⟩ ((hK.trans kXU4).trans hJ.k) (G1.kept hJ.k) (G3.kept hJ.k)).mono ?_
   rintro e u1 ⟨v,rfl,g,k⟩
   exact hK9.out _ _ _ (by first|rfl|(simp only[fpt,zz])) (hJ.next k (g.here.imp fun c hc=>hc.1.elim (fun hc1=>hJ.old hc1 hc.2) fun hc1=>hJ.fresh hc1 hc.2))
  )
 try simp only[zz]
 refine qE (c:=5) (I':=fun v2=>JJ U4 (fun P u=>EnAt P u v1 (iT s1 t1) (xT s1 t1) (yT s1 t1)∧EnAt P u v2 (iT s1 t2) (xT s1 t2) (yT s1 t2))) rfl (by kernel_rfl) rfl rfl (qG (zb _ _ _ _) hSS rfl rfl ⟨rfl,rfl,rfl⟩ ⟨rfl,rfl,rfl⟩) (fun v x y w h=>hSS w h.k) (fun xF yF uF hJ K hK9=>?_) (fun v2=>?_)
 ·rcases xF with _|xF<;>rcases yF with _|yF
  all_goals (
   (try simp only[fpt,zz])
   go_simp
   go_wp2_with fail
   refine(KT.out _ _ _ _ _ _ ⟨.inl rfl,.inr rfl⟩ ((hK.trans kXU4).trans hJ.k) (G1.kept hJ.k) (G4.kept hJ.k)).mono ?_
   rintro e u1 ⟨v,rfl,g,k⟩
   exact hK9.out _ _ _ (by first|rfl|(simp only[fpt,zz])) (hJ.next k ⟨((hJ.v.kept k).imp fun c hc=>hc.kept k),(g.here.imp fun c hc=>hc.1.elim (fun hc1=>hJ.old hc1 hc.2) fun hc1=>hJ.fresh hc1 hc.2)⟩)
  )
 try simp only[zz]
 refine qE (c:=8) (I':=fun v3=>JJ U4 (fun P u=>EnAt P u v1 (iT s1 t1) (xT s1 t1) (yT s1 t1)∧EnAt P u v2 (iT s1 t2) (xT s1 t2) (yT s1 t2)∧EnAt P u v3 (iT s2 t1) (xT s2 t1) (yT s2 t1))) rfl (by kernel_rfl) rfl rfl (qG ((zb _ _ _ _).and (zb _ _ _ _)) hSS rfl rfl ⟨rfl,rfl,rfl⟩ ⟨rfl,rfl,rfl⟩) (fun v x y w h=>hSS w h.k) (fun xF yF uF hJ K hK9=>?_) (fun v3=>?_)
 ·rcases xF with _|xF<;>rcases yF with _|yF
  all_goals (
   (try simp only[fpt,zz])
   go_simp
   go_wp2_with fail
   refine(KT.out _ _ _ _ _ _ ⟨.inr rfl,.inl rfl⟩ ((hK.trans kXU4).trans hJ.k) (G2.kept hJ.k) (G3.kept hJ.k)).mono ?_
   rintro e u1 ⟨v,rfl,g,k⟩
   exact hK9.out _ _ _ (by first|rfl|(simp only[fpt,zz])) (hJ.next k ⟨((hJ.v.1.kept k).imp fun c hc=>hc.kept k),((hJ.v.2.kept k).imp fun c hc=>hc.kept k),(g.here.imp fun c hc=>hc.1.elim (fun hc1=>hJ.old hc1 hc.2) fun hc1=>hJ.fresh hc1 hc.2)⟩)
  )
 try simp only[zz]
 refine qE (c:=11) (I':=fun v4=>JJ U4 (fun P u=>EnAt P u v1 (iT s1 t1) (xT s1 t1) (yT s1 t1)∧EnAt P u v2 (iT s1 t2) (xT s1 t2) (yT s1 t2)∧EnAt P u v3 (iT s2 t1) (xT s2 t1) (yT s2 t1)∧EnAt P u v4 (iT s2 t2) (xT s2 t2) (yT s2 t2))) rfl (by kernel_rfl) rfl rfl (qG ((zb _ _ _ _).and ((zb _ _ _ _).and (zb _ _ _ _))) hSS rfl rfl ⟨rfl,rfl,rfl⟩ ⟨rfl,rfl,rfl⟩) (fun v x y w h=>hSS w h.k) (fun xF yF uF hJ K hK9=>?_) (fun v4=>?_)
 ·rcases xF with _|xF<;>rcases yF with _|yF
  all_goals (
   (try simp only[fpt,zz])
   go_simp
   go_wp2_with fail
   refine(KT.out _ _ _ _ _ _ ⟨.inr rfl,.inr rfl⟩ ((hK.trans kXU4).trans hJ.k) (G2.kept hJ.k) (G4.kept hJ.k)).mono ?_
   rintro e u1 ⟨v,rfl,g,k⟩
   exact hK9.out _ _ _ (by first|rfl|(simp only[fpt,zz])) (hJ.next k ⟨((hJ.v.1.kept k).imp fun c hc=>hc.kept k),((hJ.v.2.1.kept k).imp fun c hc=>hc.kept k),((hJ.v.2.2.kept k).imp fun c hc=>hc.kept k),(g.here.imp fun c hc=>hc.1.elim (fun hc1=>hJ.old hc1 hc.2) fun hc1=>hJ.fresh hc1 hc.2)⟩)
  )
 try simp only[zz]
 refine qE (c:=12) (I':=fun v x y w=>∃G,v=.slice (some ⟨G,0,none⟩) 4 4∧JJ U4 (fun P u=>(EnAt P u v1 (iT s1 t1) (xT s1 t1) (yT s1 t1)∧EnAt P u v2 (iT s1 t2) (xT s1 t2) (yT s1 t2)∧EnAt P u v3 (iT s2 t1) (xT s2 t1) (yT s2 t1)∧EnAt P u v4 (iT s2 t2) (xT s2 t2) (yT s2 t2))∧AV u G 0 v1∧AV u G 7 v2∧AV u G 14 v3∧AV u G 21 v4) x y w) rfl (by kernel_rfl) rfl rfl (qG ((zb _ _ _ _).and ((zb _ _ _ _).and ((zb _ _ _ _).and (zb _ _ _ _)))) hSS rfl rfl ⟨rfl,rfl,rfl⟩ ⟨rfl,rfl,rfl⟩) (fun v x y w h=>h.elim fun _ h=>hSS w h.2.k) (fun xF yF uF hJ K hK9=>?_) (jM fun G=>?_)
 ·obtain⟨ea,eb,ec,ed⟩:=hJ.v
  obtain⟨np,ap,lp,cp,xp,mp,bp,kp,dp,yp,rfl⟩:=ea.shape
  obtain⟨nq,aq,lq,cq,xq,mq,bq,kq,dq,yq,rfl⟩:=eb.shape
  obtain⟨nr,ar,lr,cr,xr,mr,br,kr,dr,yr,rfl⟩:=ec.shape
  obtain⟨nu,au,lu,cu,xu,mu,bu,ku,du,yu,rfl⟩:=ed.shape
  rcases xF with _|xF<;>rcases yF with _|yF
  all_goals (
   (try simp only[fpt,zz])
   go_simp
   exact hK9.out _ _ _ (by first|rfl|(simp only[fpt,zz])) ⟨_,rfl,hJ.next ((qo0 uF).alloc _ _) ⟨⟨(ea.kept ((qo0 uF).alloc _ _)).imp fun c hc=>hc.kept ((qo0 uF).alloc _ _),(eb.kept ((qo0 uF).alloc _ _)).imp fun c hc=>hc.kept ((qo0 uF).alloc _ _),(ec.kept ((qo0 uF).alloc _ _)).imp fun c hc=>hc.kept ((qo0 uF).alloc _ _),(ed.kept ((qo0 uF).alloc _ _)).imp fun c hc=>hc.kept ((qo0 uF).alloc _ _)⟩,qnt _ _ _ _ _ _ _ _ _ _ _ _ _ _ _ _ _ _ _ _ _ _ _ _ _ _ _ _ _ _ _ _ _ _ _ _ _ _ _ _ _ _ _ _ _ _⟩⟩
  )
 try simp only[zz]
 refine qE (c:=13) (I':=fun v x y w=>∃vl vh,v=.tuple #[vl,vh]∧JJ U4 (fun P u=>Lw P u vl∧Hw P u vh) x y w) rfl (by kernel_rfl) rfl rfl (qG (((zb _ _ _ _).and ((zb _ _ _ _).and ((zb _ _ _ _).and (zb _ _ _ _)))).and ((zK _ _ _).and ((zK _ _ _).and ((zK _ _ _).and (zK _ _ _))))) hSS rfl rfl ⟨rfl,rfl,rfl⟩ ⟨rfl,rfl,rfl⟩) (fun v x y w h=>h.elim fun _ h=>h.elim fun _ h=>hSS w h.2.k) (fun xF yF uF hJ K hK9=>?_) (jL fun vl vh=>?_)
 ·rcases xF with _|xF<;>rcases yF with _|yF
  all_goals (
   (try simp only[fpt,zz])
   go_simp
   go_wp2_with fail
   refine(KU.out _ _ _ _ _ _ _ ((hK.trans kXU4).trans hJ.k) hJ.v.1.1 hJ.v.1.2.1 hJ.v.1.2.2.1 hJ.v.1.2.2.2 hJ.v.2.1 hJ.v.2.2.1 hJ.v.2.2.2.1 hJ.v.2.2.2.2).mono ?_
   rintro e u1 ⟨vl,vh,rfl,gl,gh,k⟩
   exact hK9.out _ _ _ (by first|rfl|(simp only[fpt,zz])) ⟨vl,vh,rfl,hJ.next k ⟨sL.imp _ _ _ _ (fun c hc=>hc.kept k) gl,sH.imp _ _ _ _ (fun c hc=>hc.kept k) gh⟩⟩
  )
 try simp only[zz]
 refine qY (i:=14) (v:=.tuple #[vl,vh]) rfl (by kernel_rfl) (by kernel_rfl) rfl rfl (fun _ _ _ h=>h) (fun x y w h=>hSS w h.k) (fun xF yF=>?_) ?_
 ·rcases xF with _|xF<;>rcases yF with _|yF<;>exact Or.inl ⟨by rfl,by(intro w hSw;simp only[fpt,zz];go_simp;try (with_reducible rfl))⟩
 try simp only[zz]
 refine qY (i:=15) (v:=vl) rfl (by kernel_rfl) (by kernel_rfl) rfl rfl (fun _ _ _ h=>h) (fun x y w h=>hSS w h.k) (fun xF yF=>?_) ?_
 ·rcases xF with _|xF<;>rcases yF with _|yF<;>exact Or.inl ⟨by rfl,by(intro w hSw;simp only[fpt,zz];go_simp;try (with_reducible rfl))⟩
 try simp only[zz]
 refine qY (i:=16) (v:=vh) rfl (by kernel_rfl) (by kernel_rfl) rfl rfl (fun _ _ _ h=>h) (fun x y w h=>hSS w h.k) (fun xF yF=>?_) ?_
 ·rcases xF with _|xF<;>rcases yF with _|yF<;>exact Or.inl ⟨by rfl,by(intro w hSw;simp only[fpt,zz];go_simp;try (with_reducible rfl))⟩
 try simp only[zz]
 refine yB (by kernel_rfl) rfl rfl (qG ((sL.stb _).and (sH.stb _)) hSS rfl rfl ⟨rfl,rfl,rfl⟩ ⟨rfl,rfl,rfl⟩) (fun xF yF uF hJ=>?_)
 obtain⟨C0,rfl,oC0,p1⟩:=hJ.f1 _ rfl
 obtain⟨C1,rfl,oC1,p2⟩:=hJ.f2 _ rfl
 have hne:C0≠C1:=fun e=>hJ.ne _ rfl (by rw[e])
 obtain⟨gl,gh⟩:=hJ.v
 have kU:=hJ.k
 replace gl:=sL.imp _ _ _ _ (fun c hc=>(show c≠C0∧c≠C1 from⟨hc.2.1 _ rfl,hc.2.2 _ rfl⟩)) gl
 replace gh:=sH.imp _ _ _ _ (fun c hc=>(show c≠C0∧c≠C1 from⟨hc.2.1 _ rfl,hc.2.2 _ rfl⟩)) gh
 clear hJ
 obtain⟨ip,np,ap,lp,cp,xp,mp,bp,kp,dp,yp,rfl⟩:=sL.shape _ _ _ gl
 obtain⟨iq,nq,aq,lq,cq,xq,mq,bq,kq,dq,yq,rfl⟩:=sH.shape _ _ _ gh
 try simp only[zz]
 have p2b:=p2.other C0 hne (.int .i64 ip) (.bool np) (.slice ap lp cp) (.int .i64 xp) (.bool mp) (.slice bp kp dp) (.int .i64 yp)
 have p1b:=p1.put (.int .i64 ip) (.bool np) (.slice ap lp cp) (.int .i64 xp) (.bool mp) (.slice bp kp dp) (.int .i64 yp)
 have kV:=ze kU oC0 (.int .i64 ip) (.bool np) (.slice ap lp cp) (.int .i64 xp) (.bool mp) (.slice bp kp dp) (.int .i64 yp)
 obtain⟨rr0,rr1,rr2,rr3,rr4,rr5,rr6,rrf⟩:=p1
 refine qi (i:=19) (by kernel_rfl) rfl (fun K hK9=>?_)
 go_simp
 refine hK9.out _ _ (hSS _ kV) (fun hH=>?_)
 clear hK9 K
 try simp only[zz]
 clear rr0 rr1 rr2 rr3 rr4 rr5 rr6 rrf
 obtain⟨V,hV⟩:∃Z,Z=(((((((uF).setCell ⟨C0,0,none⟩ (.int .i64 ip)).setCell ⟨C0,1,none⟩ (.bool np)).setCell ⟨C0,2,none⟩ (.slice ap lp cp)).setCell ⟨C0,3,none⟩ (.int .i64 xp)).setCell ⟨C0,4,none⟩ (.bool mp)).setCell ⟨C0,5,none⟩ (.slice bp kp dp)).setCell ⟨C0,6,none⟩ (.int .i64 yp):=⟨_,rfl⟩
 have glV:Lw (fun c=>c≠C0∧c≠C1) V (env ip np ap lp cp xp mp bp kp dp yp):=by rw[hV];exact sL.put _ _ _ C0 (fun c h=>h.1) gl _ _ _ _ _ _ _
 have ghV:Hw (fun c=>c≠C0∧c≠C1) V (env iq nq aq lq cq xq mq bq kq dq yq):=by rw[hV];exact sH.put _ _ _ C0 (fun c h=>h.1) gh _ _ _ _ _ _ _
 rw[←hV]
 change P7 ((((((((uF).setCell ⟨C0,0,none⟩ (.int .i64 ip)).setCell ⟨C0,1,none⟩ (.bool np)).setCell ⟨C0,2,none⟩ (.slice ap lp cp)).setCell ⟨C0,3,none⟩ (.int .i64 xp)).setCell ⟨C0,4,none⟩ (.bool mp)).setCell ⟨C0,5,none⟩ (.slice bp kp dp)).setCell ⟨C0,6,none⟩ (.int .i64 yp)) _ _ _ _ _ _ _ _ at p2b
 change P7 ((((((((uF).setCell ⟨C0,0,none⟩ (.int .i64 ip)).setCell ⟨C0,1,none⟩ (.bool np)).setCell ⟨C0,2,none⟩ (.slice ap lp cp)).setCell ⟨C0,3,none⟩ (.int .i64 xp)).setCell ⟨C0,4,none⟩ (.bool mp)).setCell ⟨C0,5,none⟩ (.slice bp kp dp)).setCell ⟨C0,6,none⟩ (.int .i64 yp)) _ _ _ _ _ _ _ _ at p1b
 change Kept _ ((((((((uF).setCell ⟨C0,0,none⟩ (.int .i64 ip)).setCell ⟨C0,1,none⟩ (.bool np)).setCell ⟨C0,2,none⟩ (.slice ap lp cp)).setCell ⟨C0,3,none⟩ (.int .i64 xp)).setCell ⟨C0,4,none⟩ (.bool mp)).setCell ⟨C0,5,none⟩ (.slice bp kp dp)).setCell ⟨C0,6,none⟩ (.int .i64 yp))at kV
 rw[←hV]at p2b p1b kV
 clear hV gl gh hH p2
 have p1c:=p1b.other C1 (Ne.symm hne) (.int .i64 iq) (.bool nq) (.slice aq lq cq) (.int .i64 xq) (.bool mq) (.slice bq kq dq) (.int .i64 yq)
 have p2c:=p2b.put (.int .i64 iq) (.bool nq) (.slice aq lq cq) (.int .i64 xq) (.bool mq) (.slice bq kq dq) (.int .i64 yq)
 have kW:=ze kV oC1 (.int .i64 iq) (.bool nq) (.slice aq lq cq) (.int .i64 xq) (.bool mq) (.slice bq kq dq) (.int .i64 yq)
 obtain⟨rr0,rr1,rr2,rr3,rr4,rr5,rr6,rrf⟩:=p2b
 refine qi (i:=20) (by kernel_rfl) rfl (fun K hK9=>?_)
 go_simp
 refine hK9.out _ _ (hSS _ kW) (fun hH=>?_)
 clear hK9 K
 try simp only[zz]
 clear rr0 rr1 rr2 rr3 rr4 rr5 rr6 rrf
 obtain⟨W,hV⟩:∃Z,Z=(((((((V).setCell ⟨C1,0,none⟩ (.int .i64 iq)).setCell ⟨C1,1,none⟩ (.bool nq)).setCell ⟨C1,2,none⟩ (.slice aq lq cq)).setCell ⟨C1,3,none⟩ (.int .i64 xq)).setCell ⟨C1,4,none⟩ (.bool mq)).setCell ⟨C1,5,none⟩ (.slice bq kq dq)).setCell ⟨C1,6,none⟩ (.int .i64 yq):=⟨_,rfl⟩
 have eC0:Lw Top W (env ip np ap lp cp xp mp bp kp dp yp):=by rw[hV];exact sL.imp _ _ _ _ (fun _ _=>trivial) (sL.put _ _ _ C1 (fun c h=>h.2) glV _ _ _ _ _ _ _)
 have eC1:Hw Top W (env iq nq aq lq cq xq mq bq kq dq yq):=by rw[hV];exact sH.imp _ _ _ _ (fun _ _=>trivial) (sH.put _ _ _ C1 (fun c h=>h.2) ghV _ _ _ _ _ _ _)
 rw[←hV]
 change P7 ((((((((V).setCell ⟨C1,0,none⟩ (.int .i64 iq)).setCell ⟨C1,1,none⟩ (.bool nq)).setCell ⟨C1,2,none⟩ (.slice aq lq cq)).setCell ⟨C1,3,none⟩ (.int .i64 xq)).setCell ⟨C1,4,none⟩ (.bool mq)).setCell ⟨C1,5,none⟩ (.slice bq kq dq)).setCell ⟨C1,6,none⟩ (.int .i64 yq)) _ _ _ _ _ _ _ _ at p2c
 change P7 ((((((((V).setCell ⟨C1,0,none⟩ (.int .i64 iq)).setCell ⟨C1,1,none⟩ (.bool nq)).setCell ⟨C1,2,none⟩ (.slice aq lq cq)).setCell ⟨C1,3,none⟩ (.int .i64 xq)).setCell ⟨C1,4,none⟩ (.bool mq)).setCell ⟨C1,5,none⟩ (.slice bq kq dq)).setCell ⟨C1,6,none⟩ (.int .i64 yq)) _ _ _ _ _ _ _ _ at p1c
 change Kept _ ((((((((V).setCell ⟨C1,0,none⟩ (.int .i64 iq)).setCell ⟨C1,1,none⟩ (.bool nq)).setCell ⟨C1,2,none⟩ (.slice aq lq cq)).setCell ⟨C1,3,none⟩ (.int .i64 xq)).setCell ⟨C1,4,none⟩ (.bool mq)).setCell ⟨C1,5,none⟩ (.slice bq kq dq)).setCell ⟨C1,6,none⟩ (.int .i64 yq))at kW
 rw[←hV]at p2c p1c kW
 clear hV glV ghV hH kU kV p1b uF V
 have q0:=p1c
 have q1:=p2c
 have kU4W:=kW
 clear p1c p2c kW
 refine qs (by kernel_rfl) ?_ _
 try simp only[zz]
 go_upto_region 6 with fail
 obtain⟨q00,q01,q02,q03,q04,q05,q06,q0f⟩:=q0
 obtain⟨q10,q11,q12,q13,q14,q15,q16,q1f⟩:=q1
 go_wp2_with fail
 refine(KM.out _ _ _ (hK.trans (kXU4.trans kU4W)) eC0 eC1).mono ?_
 rintro e w3 ⟨rfl,k3⟩
 obtain⟨p0,p1,pf⟩:=hP2.kept (kXU4.trans (kU4W.trans k3))
 go_wp2_with fail
 exact qoz (v:=.agg #[.int .i64 z1,.int .i64 z2]) (by simp[results,Tryz.results25,go_sem,p0,p1]) rfl ⟨rfl,((hK.trans (kXU4.trans (kU4W.trans k3))).setCell (p:=⟨B2,0,none⟩) oB.out.2.2.2.2.1 _).setCell (p:=⟨B2,1,none⟩) oB.out.2.2.2.2.1 _⟩
def iby (n b c:Int):Int:=if iK n c≠0 then 0 else if iK n b≠0 then iK n b*sgk (qc c n)else 0
def xby (n b c:Int):Nm:=if iK n c≠0∨iK n b≠0 then ⟨false,[],0⟩else if (ql c n).neg=true then trn (ql b n)else ql b n
def yby (n b c:Int):Nm:=if iK n c≠0∨iK n b≠0 then oneN5 else if (ql c n).neg=true then trn (ql c n)else ql c n
theorem qkr (n b c:Int)(hb:RB b∧qj b n=true)(hc:RB c∧qj c n=true)(P:Nat→Prop)(v1 v2:Value)(u:World)(e1:EnAt P u v1 (iK n b) (ql b n) oneN5)(e2:EnAt P u v2 (iK n c) (ql c n) oneN5):
  Calls Tryz.prog 64 #[v1,v2] u fun e w'=>∃r,e=.returned r∧EnAt (PL P u) w' r (iby n b c) (xby n b c) (yby n b c)∧Kept u w':=by
 have S2:=Jd n c hc P u v2 e2
 have g1:=EnAt.here e1
 have g2:=EnAt.here e2
 unfold iby xby yby
 by_cases h2:iK n c=0
 ·rw [if_neg (not_not_intro h2)]
  by_cases h1:iK n b=0
  ·have hh:¬(iK n c≠0∨iK n b≠0):=fun h=>h.elim (fun h=>h h2) (fun h=>h h1)
   rw[if_neg (not_not_intro h1),if_neg hh,if_neg hh]
   rw[h1]at e1 g1
   rw[h2]at e2 g2
   obtain⟨a1,c1,a2,c2,rfl,-,-⟩:=e1
   obtain⟨b1,d1,b2,d2,rfl,-,-⟩:=e2
   obtain⟨a1',c1',a2',c2',e,q1,q2⟩:=g1
   cases e
   obtain⟨b1',d1',b2',d2',e,r1,r2⟩:=g2
   cases e
   by_cases hng:(ql c n).neg=true
   ·rw[if_pos hng,if_pos hng]
    rw[hng]
    refine(qkg (ql b n).neg a1 (ql b n).mag.length c1 (ql b n).exp oneN5.neg a2 oneN5.mag.length c2 oneN5.exp b1 (ql c n).mag.length d1 (ql c n).exp oneN5.neg b2 oneN5.mag.length d2 oneN5.exp _ _ u (fun u=>vL _ a1 _ c1 _ u) (fun u=>vL _ b1 _ d1 _ u)).mono ?_
    rintro e w' ⟨u',C,v0,v1,v2,v3,v4,v5,v6,rfl,k,hC,rfl⟩
    refine⟨_,rfl,⟨a1,c1,b1,d1,?_,?_,?_⟩,ze k hC _ _ _ _ _ _ _⟩
    ·unfold trn
     rw[hng]
    ·exact(JY (q1.kept k) C (fun c hc=>by have:=hc.2;omega) _ _ _ _ _ _ _).imp (fun _ h=>.inl h.1)
    ·exact(JY (r1.kept k) C (fun c hc=>by have:=hc.2;omega) _ _ _ _ _ _ _).imp (fun _ h=>.inl h.1)
   ·have hng':(ql c n).neg=false:=by simpa using hng
    rw[if_neg hng,if_neg hng]
    rw[hng']
    refine(qkf (ql b n).neg a1 (ql b n).mag.length c1 (ql b n).exp oneN5.neg a2 oneN5.mag.length c2 oneN5.exp b1 (ql c n).mag.length d1 (ql c n).exp oneN5.neg b2 oneN5.mag.length d2 oneN5.exp true true u).mono ?_
    rintro e w' ⟨u',C,v0,v1,v2,v3,v4,v5,v6,rfl,k,hC,rfl⟩
    refine⟨_,rfl,⟨a1,c1,b1,d1,?_,?_,?_⟩,ze k hC _ _ _ _ _ _ _⟩
    ·rw[hng']
    ·exact(JY (q1.kept k) C (fun c hc=>by have:=hc.2;omega) _ _ _ _ _ _ _).imp (fun _ h=>.inl h.1)
    ·exact(JY (r1.kept k) C (fun c hc=>by have:=hc.2;omega) _ _ _ _ _ _ _).imp (fun _ h=>.inl h.1)
  ·rw[if_pos h1,if_pos (.inr h1),if_pos (.inr h1)]
   obtain⟨n1,a1,l1,c1,y1,m1,b1,k1,d1,z1,rfl⟩:=EnAt.shape e1
   obtain⟨n2,a2,l2,c2,y2,m2,b2,k2,d2,z2,rfl⟩:=EnAt.shape e2
   rw[h2]at S2 ⊢
   have hw:IntKind.i64.wrap (iK n b*sgk (qc c n))=iK n b*sgk (qc c n):=by
    rcases jl n (qc b n)with h|h|h<;>rcases xZ (qc c n)with ⟨-,q⟩|⟨-,q⟩|⟨-,q⟩<;>(show IntKind.i64.wrap (qR n (qc b n)*sgk (qc c n))=qR n (qc b n)*sgk (qc c n))<;>rw[h,q]<;>decide
   refine(qke (iK n b) n1 a1 l1 c1 y1 m1 b1 k1 d1 z1 n2 a2 l2 c2 y2 m2 b2 k2 d2 z2 (by simpa using h1) _ _ hw u S2).mono ?_
   rintro e w' ⟨u',C,v,v0,v1,v2,v3,v4,v5,v6,rfl,g,k,hC,rfl⟩
   exact⟨v,rfl,(g.put C (fun c hc=>by omega) _ _ _ _ _ _ _).imp fun c hc=>.inr (by omega),ze k hC _ _ _ _ _ _ _⟩
 ·rw[if_pos h2,if_pos (.inl h2),if_pos (.inl h2)]
  obtain⟨n1,a1,l1,c1,y1,m1,b1,k1,d1,z1,rfl⟩:=EnAt.shape e1
  obtain⟨n2,a2,l2,c2,y2,m2,b2,k2,d2,z2,rfl⟩:=EnAt.shape e2
  refine(qkd (iK n b) n1 a1 l1 c1 y1 m1 b1 k1 d1 z1 (iK n c) n2 a2 l2 c2 y2 m2 b2 k2 d2 z2 (by simpa using h2) u).mono ?_
  rintro e w' ⟨u',C,v,v0,v1,v2,v3,v4,v5,v6,rfl,g,k,hC,rfl⟩
  exact⟨v,rfl,(g.put C (fun c hc=>by omega) _ _ _ _ _ _ _).imp fun c hc=>.inr (by omega),ze k hC _ _ _ _ _ _ _⟩
theorem QI (n p:Int)(hn:n=64∨n=32)(hc:cls p n<3)(hne:(ofN p n).mag≠[]):bl (nv (ofN p n).mag)≤53∧(ofN p n).mag.length≤2:=by
 have hz:qI p n≠0:=fun h=>hne (by rw[(vN p n h).2])
 have e:=(VK p n hn hc hz).2
 have hb53:=(Jf p n hn hc).2
 obtain⟨v,hv⟩:∃v,v=(qI p n).toNat:=⟨_,rfl⟩
 rw[←hv]at e hb53
 have hnv:nv (ofN p n).mag=v/2^tzn v:=by rw[e];exact qQ _
 have hle:v/2^tzn v≤v:=Nat.div_le_self _ _
 have hbl:bl (nv (ofN p n).mag)≤53:=by
  rw[hnv]
  exact zg _ _ (Nat.lt_of_le_of_lt hle (qok (Z0 v) (qom (by decide) hb53)))
 refine⟨hbl,?_⟩
 obtain⟨-,hD⟩:=ya _ _ _ (vA p n hn hc).1
 have hlast:=qab _ (vA p n hn hc).1 hne
 have:=(VR (ofN p n).mag hD hne hlast).1
 omega
theorem qe4 (n:Int)(hn:n=64∨n=32)(A U:Nat)(xa xb:Int)(ha:-1075≤xa)(hb:-1075≤xb)(k Q H F:Nat)(od hf rt:Bool)(h:Cutz (cbn n) (2^(qk n- -1300).toNat*(U*2^(xb- -1300).toNat)) (A*2^(xa-2*-1300).toNat) k Q H F od hf rt):
  ∃Q' H',Cutz (cbn n) (2^(qk n-(-5000000)).toNat*(U*2^(xb-(-5000000)).toNat)) (A*2^(xa-2*(-5000000)).toNat) k Q' H' F od hf rt:=by
 have hkl:(-1074:Int)≤qk n:=by rcases hn with rfl|rfl<;>decide
 obtain⟨N,hN⟩:∃N:Nat,N=4998700:=⟨_,rfl⟩
 have h1:(qk n-(-5000000)).toNat=(qk n- -1300).toNat+N:=by omega
 have h2:(xb-(-5000000)).toNat=(xb- -1300).toNat+N:=by omega
 have h3:(xa-2*(-5000000)).toNat=(xa-2*-1300).toNat+(N+N):=by omega
 rw[h1,h2,h3,qol,qol,qol,qol]
 have hp:0<2^N:=qoj N
 have:=qbk (Nat.mul_pos hp hp) h
 clear h1 h2 h3 hN
 generalize 2^N=B at *
 generalize 2^(qk n- -1300).toNat=C at *
 generalize 2^(xb- -1300).toNat=E at *
 generalize 2^(xa-2*-1300).toNat=G at *
 have e1:C*B*(U*(E*B))=C*(U*E)*(B*B):=by ac_rfl
 have e2:A*(G*(B*B))=A*G*(B*B):=by ac_rfl
 rw[e1,e2]
 exact⟨_,_,this⟩
theorem qhy (n way:Int)(hw:way=1∨way=2)(b c:Int)(hb:RB b∧qj b n=true)(hc:RB c∧qj c n=true)(bk:-(ifn n:Int)<qc b n∧qc b n<(ifn n:Int))(bj:-(ifn n:Int)<qc c n∧qc c n<(ifn n:Int))(hj0:qc c n≠0):
  ∃K,((way=1→Qd n (qZ n (qc b n) (qc c n)) (qW n (qc c n)) K)∧(way=2→Qd n (-qZ n (qc b n) (qc c n)) (qW n (qc c n)) (-K)))∧∀(P:Nat→Prop) (v:Value) (w:World),EnAt P w v 0 (xby n b c) (yby n b c)→Calls Tryz.prog 93 #[v,.int .i64 n,.int .i64 way] w fun e w'=>e=.returned (.int .i64 (pz n K))∧Kept w w':=by
 have hn:=qv b n hb.2
 have hw':way=0∨way=1∨way=2:=.inr hw
 have i1:=(jm n _ hn (by omega)).2 bk
 have i2:=(jm n _ hn (by omega)).2 bj
 have hh:¬(iK n c≠0∨iK n b≠0):=fun h=>h.elim (fun h=>h i2) (fun h=>h i1)
 obtain⟨e0,e1,e2,e3,e4,e5,e6,e7,e8,hk,h6,h7⟩:=qcw n hn
 have KO:Hid (∀u,Calls Tryz.prog 86 #[.int .i64 n] u fun e w'=>e=.returned (.tuple #[.agg #[.int .i64 e0,.int .i64 e1,.int .i64 e2,.int .i64 e3,.int .i64 e4,.int .i64 e5,.int .i64 e6,.int .i64 e7,.int .i64 e8],.bool true])∧Kept u w'):=fun u=>by
  have:=qat n hn u
  rw[hk]at this
  exact this
 have hjs:=jp n (-1300) (qc c n) hn
 have hks:=jp n (-2600) (qc b n) hn
 have va2:=(xy n b (-2600) (by decide) hb.1 hb.2).1 i1
 have vb2:=(xy n c (-1300) (by decide) hc.1 hc.2).1 i2
 obtain⟨okA,loA⟩:=zh n b hb.1 hb.2
 obtain⟨okB,loB⟩:=zh n c hc.1 hc.2
 obtain⟨pA,qA'⟩:=vM n b hb bk
 obtain⟨pB,qB'⟩:=vM n c hc bj
 have bitsA:(ql b n).mag≠[]→bl (nv (ql b n).mag)≤53∧(ql b n).mag.length≤2:=fun h=>by rw[qA']at h ⊢;exact QI n b hn pA h
 have bitsB:(ql c n).mag≠[]→bl (nv (ql c n).mag)≤53∧(ql c n).mag.length≤2:=fun h=>by rw[qB']at h ⊢;exact QI n c hn pB h
 unfold xby yby
 rw[if_neg hh,if_neg hh]
 generalize qc b n=k at *
 generalize qc c n=j at *
 generalize ql b n=a at *
 generalize ql c n=d at *
 have hkl:(-1074:Int)≤qk n:=by rcases hn with rfl|rfl<;>decide
 have sgA:=jb (-2600) a okA
 have sgB:=jb (-1300) d okB
 rw[va2]at sgA
 rw[vb2]at sgB
 have hbm:d.mag≠[]:=fun h=>by
  have:=(sgB.2.2 h).2
  omega
 have hbn:d.neg=decide (j<0):=by
  cases hb:d.neg
  ·have:=sgB.2.1 hb
   symm;rw[decide_eq_false_iff_not];omega
  ·have:=sgB.1 hb
   symm;rw[qor];omega
 have hUa:qW n j=((nv d.mag*2^(d.exp- -1300).toNat:Nat):Int):=by
  rw[←jo (-1300) d,vb2]
  unfold qW
  split<;>omega
 have hUp:0<nv d.mag*2^(d.exp- -1300).toNat:=by
  have:0<qW n j:=by unfold qW;split<;>omega
  omega
 have hpos:=jw n
 have hdl:¬d.mag.length=0:=fun h=>hbm (List.eq_nil_of_length_eq_zero h)
 obtain⟨y,hy,ym,ye,yn,yv⟩:∃y:Nm,(if d.neg=true then trn d else d)=y∧y.mag=d.mag∧y.exp=d.exp∧y.neg=false∧vld y=true:=by
  by_cases hng:d.neg=true
  ·rw[if_pos hng]
   refine⟨_,rfl,rfl,rfl,?_,?_⟩
   ·show(if d.mag.length=0 then d.neg else !d.neg)=false
    rw[if_neg hdl,hng];rfl
   ·rw[kK d hbm];exact VV d.neg d.mag d.exp okB hbm
  ·rw[if_neg hng]
   exact⟨_,rfl,rfl,rfl,by simpa using hng,okB⟩
 rw[hy]
 by_cases hk0:k=0
 ·have ham:a.mag=[]:=by
   apply Classical.not_not.1
   intro hne
   have:=Jp (-2600) a.neg a.mag a.exp hne okA
   have h2:=jo (-2600) a
   rw[va2]at h2
   have:=hks.2.2.1 hk0
   omega
  have hx:(if d.neg=true then trn a else a)=a:=by
   split
   ·exact vQ a ham
   ·rfl
  have hz0:qZ n k j=0:=by
   unfold qZ
   rw[hks.2.2.1 hk0]
   simp
  have q0:Qd n 0 (qW n j) 0:=by
   refine⟨by omega,by omega,fun _=>?_,fun _=>?_⟩
   ·rw[yt];simp
   ·have h1:=(jp n (-1300) (0+1) hn).1.1 (by decide)
    rw[hUa]
    exact Int.mul_pos h1 (by omega)
  refine⟨0,⟨fun _=>by rw[hz0];exact q0,fun _=>by rw[hz0];exact q0⟩,fun P v w he=>?_⟩
  rw[hx]at he
  obtain⟨a1,c1,a2,c2,rfl,r1,r2⟩:=he
  have hp0:pz n 0=0:=by rcases hn with rfl|rfl<;>decide
  rw[hp0,ham]
  exact VA n way _ _ _ _ _ _ _ _ _ _ e0 e1 e2 e3 e4 e5 e6 e7 e8 _ w KO (fun u k=>VC n way hn _ _ _ _ _ _ _ _ _ _ 0 false u (fun u' _=>Xa (knd n) e0 e1 e2 e3 e4 e5 e6 e7 e8 hk _ _ _ _ _ _ _ _ _ _ u'))
 ·have ham:a.mag≠[]:=fun h=>by
   have:=(sgA.2.2 h).2
   omega
  have hal:¬a.mag.length=0:=fun h=>ham (List.eq_nil_of_length_eq_zero h)
  have han:a.neg=decide (k<0):=by
   cases ha:a.neg
   ·have:=sgA.2.1 ha
    symm;rw[decide_eq_false_iff_not];omega
   ·have:=sgA.1 ha
    symm;rw[qor];omega
  obtain⟨x,hx,xm,xe,xn,xv⟩:∃x:Nm,(if d.neg=true then trn a else a)=x∧x.mag=a.mag∧x.exp=a.exp∧x.neg=(a.neg != d.neg)∧vld x=true:=by
   by_cases hng:d.neg=true
   ·rw[if_pos hng]
    refine⟨_,rfl,rfl,rfl,?_,?_⟩
    ·show(if a.mag.length=0 then a.neg else !a.neg)=_
     rw[if_neg hal,hng];cases a.neg<;>rfl
    ·rw[kK a ham];exact VV a.neg a.mag a.exp okA ham
   ·rw[if_neg hng]
    have:d.neg=false:=by simpa using hng
    exact⟨_,rfl,rfl,rfl,by rw[this];cases a.neg<;>rfl,okA⟩
  rw[hx]
  have hA1:=loA ham
  have hB1:=loB hbm
  obtain⟨B53,L2⟩:=bitsB hbm
  obtain⟨A53,LA2⟩:=bitsA ham
  obtain⟨kk,Q,H,F,od,hf,rt,hC,-⟩:=Xr n hn a d okA okB ham hbm (-1300) (by omega) (by omega) (by omega) (by unfold qex;omega) (by omega)
  obtain⟨Q',H',hCd⟩:=qe4 n hn _ _ _ _ hA1 hB1 _ _ _ _ _ _ _ hC
  have hVe:(2:Int)*-1300=-2600:=by decide
  rw[hVe]at hC
  have hVp:0<nv a.mag*2^(a.exp- -2600).toNat:=by
   have h2:=jo (-2600) a
   rw[va2]at h2
   omega
  have hVa:∀(g:Bool),g=(a.neg != d.neg)→qZ n k j=if g=true then -((nv a.mag*2^(a.exp- -2600).toNat:Nat):Int)else ((nv a.mag*2^(a.exp- -2600).toNat:Nat):Int):=fun g hg=>by
   rw[←jo (-2600) a,va2,hg,han,hbn]
   unfold qZ
   by_cases h1:k<0<;>by_cases h2:j<0<;>simp[h1,h2]<;>omega
  have qd1:=qcv n hn (a.neg != d.neg) _ _ kk Q H F od hf rt hUp hVp hC
  have qd2:=qcv n hn (!(a.neg != d.neg)) _ _ kk Q H F od hf rt hUp hVp hC
  have hm:=(yY 2 (.inr (.inr rfl)) (a.neg != d.neg) (ifn n) F od hf rt).1
  rw[show mir 2=1 by decide]at hm
  rw[hm]at qd2
  have hVg:=hVa _ rfl
  have sxy:(x.neg != y.neg)=(a.neg != d.neg):=by rw[yn,xn];cases (a.neg != d.neg)<;>rfl
  have hT:∀(P:Nat→Prop) (v:Value) (w:World),EnAt P w v 0 x y→Calls Tryz.prog 93 #[v,.int .i64 n,.int .i64 way] w fun e w'=>e=.returned (.int .i64 (pz n (kyz (a.neg != d.neg) (mgz way (a.neg != d.neg) (ifn n) F od hf rt))))∧Kept w w':=fun P v w he=>by
   obtain⟨a1,c1,a2,c2,rfl,r1,r2⟩:=he
   refine VA n way _ _ _ _ _ _ _ _ _ _ e0 e1 e2 e3 e4 e5 e6 e7 e8 _ w KO (fun u ku=>?_)
   refine VC n way hn _ _ _ _ _ _ _ _ _ _ _ (odz way (a.neg != d.neg) (ifn n) F od hf rt) u (fun u' k'=>?_)
   have:=Xu n way hn hw' x y xv yv (by rw[xm];exact ham) (by rw[ym];exact hbm) kk Q' H' F od hf rt (by rw[xm,ym,xe,ye];exact hCd) _ _ u' (r1.rl.kept (ku.trans k')) (r2.rl.kept (ku.trans k'))
   rw[sxy]at this
   exact this
  generalize hg:(a.neg != d.neg)=g at *
  have hkn:∀m:Nat,kyz (!g) m=-kyz g m:=fun m=>by cases g<;>simp[kyz]
  rw[hkn]at qd2
  rcases hw with rfl|rfl
  ·refine⟨_,⟨fun _=>?_,fun h=>by cases h⟩,hT⟩
   rw[hVg,hUa]
   exact⟨qd1.low,qd1.high,fun h=>(qd1.fin h).1,qd1.nxt⟩
  ·refine⟨_,⟨fun h=>(by cases h),fun _=>?_⟩,hT⟩
   have e:-qZ n k j=if (!g)=true then -((nv a.mag*2^(a.exp- -2600).toNat:Nat):Int)else ((nv a.mag*2^(a.exp- -2600).toNat:Nat):Int):=by
    rw[hVg]
    cases g<;>simp
   rw[e,hUa]
   exact⟨qd2.low,qd2.high,fun h=>(qd2.fin h).1,qd2.nxt⟩
end Go.Proofs.YtaglkncdedeipaaGreatDoor
