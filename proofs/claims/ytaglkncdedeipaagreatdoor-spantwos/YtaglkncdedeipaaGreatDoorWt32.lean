/-  -/
import Derived.Test.YtaglkncdedeipaaGreatDoorWt31
import Derived.Test.YtaglkncdedeipaaGreatDoorWt18
import Derived.Test.YtaglkncdedeipaaGreatDoorWt25
import Derived.Test.YtaglkncdedeipaaGreatDoorWt30
import Derived.Test.YtaglkncdedeipaaGreatDoorWt27
import Derived.Test.YtaglkncdedeipaaGreatDoorWt01
import Derived.Test.YtaglkncdedeipaaGreatDoorWt19
namespace Go.Proofs.YtaglkncdedeipaaGreatDoor
open Go.ChangeShapes Go.WideShapes Go.ChangeAt Go.RowKit
set_option linter.unusedVariables false
set_option linter.unusedSimpArgs false
set_option maxHeartbeats 16000000
set_option maxRecDepth 100000
theorem qhz (a b:Nm)(ha:Lies (-1075) 5000 a)(hb:Lies (-1075) 5000 b):vld (tms a b)=true∧((tms a b).mag≠[]→-2150≤(tms a b).exp)∧vz (-2150) (tms a b)=vz (-1075) a*vz (-1075) b:=by
 obtain⟨N,hN⟩:∃N:Nat,N=5000:=⟨_,rfl⟩
 have e:=VT (-1075) 5000 (by decide) (by decide) (by decide) a b ha hb
 have l1:=ha.lt
 have l2:=hb.lt
 rw[←hN]at l1 l2
 have hz:(vz (-1075) a*vz (-1075) b).natAbs<2^(N+N):=by
  rw[Int.natAbs_mul,qol]
  exact Nat.mul_lt_mul_of_lt_of_le l1 (Nat.le_of_lt l2) (qoj N)
 obtain⟨r,hr,hL,hv⟩:=xC (-2150) (N+N) (by omega) (by decide) (by decide) _ hz
 have e2:Jn a b=some r:=e.trans hr
 rw[qdq _ _ ha.ok hb.ok]at e2
 by_cases hv':vld (tms a b)=true
 ·rw[if_pos hv']at e2
  cases e2
  exact⟨hv',hL.low,hv⟩
 ·rw[if_neg hv']at e2
  cases e2
def Rq (T i X:Int):Int:=if 0<i then T else if i<0 then -T else X
theorem qh0 (P:Nat→Prop)(v1 v2:Value)(i1 i2:Int)(x1 y1 x2 y2:Nm)(T X1 X2:Int)(hi1:i1=-1∨i1=0∨i1=1)(hi2:i2=-1∨i2=0∨i2=1)(l1:Lies (-1075) 5000 x1)(m1:Lies (-1075) 5000 y1)(l2:Lies (-1075) 5000 x2)(m2:Lies (-1075) 5000 y2)(b1:-T<X1∧X1<T)(b2:-T<X2∧X2<T)
  (hX:cz X1 X2=cz (vz (-1075) x1*vz (-1075) y2) (vz (-1075) x2*vz (-1075) y1)) (w:World) (e1:EnAt P w v1 i1 x1 y1) (e2:EnAt P w v2 i2 x2 y2):Calls Tryz.prog 53 #[v1,v2] w fun e w'=>e=.returned (.int .i64 (cz (Rq T i1 X1) (Rq T i2 X2)))∧Kept w w':=by
 obtain⟨a1,c1,a2,c2,rfl,r1,r2⟩:=e1
 obtain⟨a3,c3,a4,c4,rfl,r3,r4⟩:=e2
 obtain⟨t1,f1,z1⟩:=qhz x1 y2 l1 m2
 obtain⟨t2,f2,z2⟩:=qhz x2 y1 l2 m1
 by_cases hne:i1=i2
 ·subst hne
  by_cases h0:i1=0
  ·subst h0
   have er:cz (Rq T 0 X1) (Rq T 0 X2)=cz (vz (-2150) (tms x1 y2)) (vz (-2150) (tms x2 y1)):=by
    rw[z1,z2,←hX]
    unfold Rq
    rw[if_neg (by decide),if_neg (by decide),if_neg (by decide),if_neg (by decide)]
   rw[er]
   refine Ja _ _ _ _ _ _ _ _ _ _ _ _ _ _ _ _ _ _ _ _ _ (fun u v=>RNp (PL P w) u v (tms x1 y2)) (fun u v=>RNp (PL P w) u v (tms x2 y1)) w (fun u u' v h k=>h.kept k) (fun u k=>?_) (fun u k=>?_) (fun u v1 v2 g1 g2=>?_)
   ·refine(vE P u x1 y2 _ _ ⟨_,rfl,r1.kept k⟩ ⟨_,rfl,r4.kept k⟩ l1.ok m2.ok).mono ?_
    rintro e w' ⟨⟨v,rfl,hv⟩,kk⟩
    exact⟨v,rfl,hv.imp (fun c hc=>hc.elim .inl (fun g=>.inr (qou k.below.size g))),kk⟩
   ·refine(vE P u x2 y1 _ _ ⟨_,rfl,r3.kept k⟩ ⟨_,rfl,r2.kept k⟩ l2.ok m1.ok).mono ?_
    rintro e w' ⟨⟨v,rfl,hv⟩,kk⟩
    exact⟨v,rfl,hv.imp (fun c hc=>hc.elim .inl (fun g=>.inr (qou k.below.size g))),kk⟩
   ·exact JD _ u _ _ v1 v2 g1 g2 t1 t2 _ (qi3 (-2150) _ _ t1 t2 f1 f2)
  ·have er:cz (Rq T i1 X1) (Rq T i1 X2)=0:=by
    have:Rq T i1 X1=Rq T i1 X2:=by
     unfold Rq
     (repeat' split)<;>first|rfl|omega
    rw[this]
    exact(zQ _ _).2.1 rfl
   rw[er]
   exact Z9 _ _ _ _ _ _ _ _ _ _ _ _ _ _ _ _ _ _ _ _ i1 (by simpa using h0) w
 ·refine Xt i1 _ _ _ _ _ _ _ _ _ _ i2 _ _ _ _ _ _ _ _ _ _ (by simpa using hne) _ ?_ w
  obtain⟨q1,q2,q3⟩:=zQ (Rq T i1 X1) (Rq T i2 X2)
  clear hX z1 z2
  unfold Rq at *
  rcases hi1 with rfl|rfl|rfl<;>rcases hi2 with rfl|rfl|rfl<;>simp at * <;>first|(apply q1;omega)|(apply q3;omega)
theorem Zr {x1 y1 x2 y2 X1 X2 D:Int}(h1:0<y1)(h2:0<y2)(hD:0<D)(e1:X1*y1=x1*D)(e2:X2*y2=x2*D):X1≤X2↔x1*y2≤x2*y1:=by
 have hp:0<y1*y2:=Int.mul_pos h1 h2
 have f1:X1*(y1*y2)=x1*y2*D:=by rw[←Int.mul_assoc,e1,Int.mul_assoc,Int.mul_comm D,←Int.mul_assoc]
 have f2:X2*(y1*y2)=x2*y1*D:=by rw[Int.mul_comm y1,←Int.mul_assoc,e2,Int.mul_assoc,Int.mul_comm D,←Int.mul_assoc]
 constructor
 ·intro h
  have:=Int.mul_le_mul_of_nonneg_right h (Int.le_of_lt hp)
  rw[f1,f2]at this
  exact Int.le_of_mul_le_mul_right this hD
 ·intro h
  have:=Int.mul_le_mul_of_nonneg_right h (Int.le_of_lt hD)
  rw[←f1,←f2]at this
  exact Int.le_of_mul_le_mul_right this hp
theorem qnu {a b c d:Int}(h1:a≤b↔c≤d)(h2:b≤a↔d≤c):cz a b=cz c d:=by
 obtain⟨p1,p2,p3⟩:=zQ a b
 obtain⟨q1,q2,q3⟩:=zQ c d
 rcases Int.lt_trichotomy a b with h|h|h
 ·rw[p1 h,q1 (by omega)]
 ·rw[p2 h,q2 (by omega)]
 ·rw[p3 h,q3 (by omega)]
theorem qks {x1 y1 x2 y2 X1 X2 D:Int}(h1:0<y1)(h2:0<y2)(hD:0<D)(e1:X1*y1=x1*D)(e2:X2*y2=x2*D):cz X1 X2=cz (x1*y2) (x2*y1):=qnu (Zr h1 h2 hD e1 e2) (Zr h2 h1 hD e2 e1)
theorem VH (s:Int)(a:Nm):vz s (trn a)=-vz s a:=by
 by_cases h:a.mag=[]
 ·rw[vQ a h]
  obtain⟨g,L,x⟩:=a
  simp only at h
  subst h
  rw[zM]
  rfl
 ·have hl:¬a.mag.length=0:=fun e=>h (List.eq_nil_of_length_eq_zero e)
  unfold trn vz sg
  dsimp only
  rw[if_neg hl]
  cases a.neg<;>simp
theorem qkt (a:Nm)(h:vld a=true):vld (trn a)=true:=by
 by_cases hm:a.mag=[]
 ·rw[vQ a hm];exact h
 ·rw[kK a hm];exact VV a.neg a.mag a.exp h hm
theorem Y4 {s:Int}{B:Nat}{a:Nm}(h:Lies s B a):Lies s B (trn a):=⟨qkt a h.ok,h.low,by rw[VH,Int.natAbs_neg];exact h.lt⟩
theorem QW:Lies (-1075) 5000 ⟨false,[],0⟩:=by
 obtain⟨N,hN⟩:∃N:Nat,N=5000:=⟨_,rfl⟩
 rw[←hN]
 exact⟨by decide,fun h=>absurd rfl h,by rw[zM];exact qoj N⟩
theorem VI (s:Int):vz s oneN5=((2^(0-s).toNat:Nat):Int):=by
 have h1:nv oneN5.mag=1:=by decide
 have h2:oneN5.neg=false:=rfl
 have h3:oneN5.exp=0:=rfl
 unfold vz sg
 rw[h1,h2,h3]
 simp
theorem Xy:Lies (-1075) 5000 oneN5:=by
 obtain⟨N,hN⟩:∃N:Nat,N=5000:=⟨_,rfl⟩
 rw[←hN]
 refine⟨VD,fun _=>by decide,?_⟩
 rw[VI,Int.natAbs_natCast]
 exact Nat.pow_lt_pow_right (by decide) (show(0-(-1075:Int)).toNat<N by rw[hN];decide)
theorem Xz (n b:Int)(hb:RB b∧qj b n=true)(h:-(ifn n:Int)<qc b n∧qc b n<(ifn n:Int)):Lies (-1075) 5000 (ql b n):=by
 obtain⟨p,q⟩:=vM n b hb h
 rw[q]
 exact(zr b n (qv b n hb.2) hb.1 p).1
theorem qku (n b:Int)(hb:RB b∧qj b n=true)(h:-(ifn n:Int)<qc b n∧qc b n<(ifn n:Int)):((ql b n).neg=true↔qc b n<0):=by
 have hn:=qv b n hb.2
 have i1:=(jm n _ hn (by omega)).2 h
 have v:=(xy n b (-1075) (by decide) hb.1 hb.2).1 i1
 have s:=jb (-1075) (ql b n) (zh n b hb.1 hb.2).1
 have k:=jp n (-1075) (qc b n) hn
 rw[v]at s
 cases hg:(ql b n).neg
 ·have:=s.2.1 hg
  constructor
  ·intro h;cases h
  ·intro h;have:=k.2.1.1 h;omega
 ·have:=s.1 hg
  constructor
  ·intro _;exact k.2.1.2 this
  ·intro _;rfl
structure By (n way i:Int) (x y:Nm) (K:Int):Prop where
 lx:Lies (-1075) 5000 x
 ly:Lies (-1075) 5000 y
 pos:0<vz (-1075) y
 is:(i=1∧K=(ifn n:Int))∨(i=-1∧K=-(ifn n:Int))∨(i=0∧(way=1→Qd n (vz (-2600) x) (vz (-1300) y) K)∧(way=2→Qd n (-vz (-2600) x) (vz (-1300) y) (-K)))
 told:∀(P:Nat→Prop) (v:Value) (w:World),EnAt P w v i x y→Calls Tryz.prog 93 #[v,.int .i64 n,.int .i64 way] w fun e w'=>e=.returned (.int .i64 (pz n K))∧Kept w w'
theorem qc3 {n Z U d e:Int}(hn:n=64∨n=32)(h:Qd n Z U d)(g:Qd n Z U e)(p:0<U):d=e:=by
 have a:=qdl hn h g p p (Int.le_refl _)
 have b:=qdl hn g h p p (Int.le_refl _)
 omega
theorem yl (n way:Int)(hw:way=1∨way=2)(b c K:Int)(hb:RB b∧qj b n=true)(hc:RB c∧qj c n=true)(hc0:qc c n≠0)(h:Qrk n way (qc b n) (qc c n) K):By n way (iby n b c) (xby n b c) (yby n b c) K:=by
 have hn:=qv b n hb.2
 have hw':way=0∨way=1∨way=2:=.inr hw
 have k1:=zG b n hb.2 hb.1.1 hb.1.2
 have k2:=zG c n hc.2 hc.1.1 hc.1.2
 have i1:=jm n _ hn k1
 have i2:=jm n _ hn k2
 have hp:(0:Int)<(ifn n:Int):=by rcases hn with rfl|rfl<;>decide
 have one_pos:0<vz (-1075) oneN5:=by
  rw[VI]
  have:=qoj (0-(-1075:Int)).toNat
  omega
 have v0:vld ⟨false,[],0⟩=true:=by decide
 by_cases h2:iK n c=0
 ·have f2:=i2.1 h2
  by_cases h1:iK n b=0
  ·have f1:=i1.1 h1
   obtain⟨K',hq,hT⟩:=qhy n way hw b c hb hc f1 f2 hc0
   have hI:iby n b c=0:=by unfold iby;rw[if_neg (not_not_intro h2),if_neg (not_not_intro h1)]
   have hh:¬(iK n c≠0∨iK n b≠0):=fun h=>h.elim (fun h=>h h2) (fun h=>h h1)
   have lb:=Xz n b hb f1
   have lc:=Xz n c hc f2
   have gc:=qku n c hc f2
   have va:=(xy n b (-2600) (by decide) hb.1 hb.2).1 h1
   have vb:=(xy n c (-1300) (by decide) hc.1 hc.2).1 h2
   have vb':=(xy n c (-1075) (by decide) hc.1 hc.2).1 h2
   have sc:=jp n (-1300) (qc c n) hn
   have sc':=jp n (-1075) (qc c n) hn
   have qWp:0<qW n (qc c n):=by unfold qW;split<;>omega
   have hKK:K'=K:=by
    rcases h with ⟨h,-⟩|⟨-,h,-⟩|⟨-,-,q1,q2⟩
    ·omega
    ·omega
    ·rcases hw with rfl|rfl
     ·exact qc3 hn (hq.1 rfl) (q1 rfl) qWp
     ·have:=qc3 hn (hq.2 rfl) (q2 rfl) qWp
      omega
   subst hKK
   have ex:vz (-2600) (xby n b c)=qZ n (qc b n) (qc c n):=by
    unfold xby qZ
    rw[if_neg hh]
    by_cases hg:(ql c n).neg=true
    ·rw[if_pos hg,if_pos (gc.1 hg),VH,va]
    ·rw[if_neg hg,if_neg (fun e=>hg (gc.2 e)),va]
   have ey:vz (-1300) (yby n b c)=qW n (qc c n):=by
    unfold yby qW
    rw[if_neg hh]
    by_cases hg:(ql c n).neg=true
    ·rw[if_pos hg,if_pos (gc.1 hg),VH,vb]
    ·rw[if_neg hg,if_neg (fun e=>hg (gc.2 e)),vb]
   have ep:0<vz (-1075) (yby n b c):=by
    unfold yby
    rw[if_neg hh]
    by_cases hg:(ql c n).neg=true
    ·have:=gc.1 hg
     rw[if_pos hg,VH,vb']
     omega
    ·have:¬qc c n<0:=fun e=>hg (gc.2 e)
     rw[if_neg hg,vb']
     omega
   refine⟨?_,?_,ep,.inr (.inr ⟨hI,by rw[ex,ey];exact hq.1,by rw[ex,ey];exact hq.2⟩),fun P v w he=>hT P v w (by rw[hI]at he;exact he)⟩
   ·unfold xby
    rw[if_neg hh]
    split
    ·exact Y4 lb
    ·exact lb
   ·unfold yby
    rw[if_neg hh]
    split
    ·exact Y4 lc
    ·exact lc
  ·have f1:¬(-(ifn n:Int)<qc b n∧qc b n<(ifn n:Int)):=fun e=>h1 (i1.2 e)
   have hX:xby n b c=⟨false,[],0⟩:=by unfold xby;rw[if_pos (.inr h1)]
   have hY:yby n b c=oneN5:=by unfold yby;rw[if_pos (.inr h1)]
   have hI:iby n b c=qR n (qc b n)*sgk (qc c n):=by unfold iby;rw[if_neg (not_not_intro h2),if_pos h1]
   have hK:K=(if (decide (qc b n<0)^^decide (qc c n<0))=true then -(ifn n:Int)else (ifn n:Int)):=by
    rcases h with ⟨h,-⟩|⟨-,-,h⟩|⟨-,h,-⟩
    ·omega
    ·exact h
    ·exact absurd h f1
   have hcase:(iby n b c=1∧K=(ifn n:Int))∨(iby n b c=-1∧K=-(ifn n:Int)):=by
    rw[hI,hK]
    have hkb:qc b n=(ifn n:Int)∨qc b n=-(ifn n:Int):=by omega
    have hs:qR n (qc b n)=if qc b n<0 then -1 else 1:=by
     unfold qR
     (repeat' split)<;>omega
    rw[hs]
    rcases xZ (qc c n)with ⟨p,q⟩|⟨p,q⟩|⟨p,q⟩
    ·rw[q,qos p]
     by_cases hbn:qc b n<0
     ·rw[qos hbn,if_pos hbn];exact .inl ⟨by decide,rfl⟩
     ·rw[qot hbn,if_neg hbn];exact .inr ⟨by decide,rfl⟩
    ·exact absurd p hc0
    ·rw[q,qot (show ¬qc c n<0 by omega)]
     by_cases hbn:qc b n<0
     ·rw[qos hbn,if_pos hbn];exact .inr ⟨by decide,rfl⟩
     ·rw[qot hbn,if_neg hbn];exact .inl ⟨by decide,rfl⟩
   rw[hX,hY]
   refine⟨QW,Xy,one_pos,hcase.elim .inl (fun h=>.inr (.inl h)),fun P v w he=>?_⟩
   rcases hcase with ⟨e1,e2⟩|⟨e1,e2⟩
   ·rw[e1]at he
    rw[e2]
    exact vy P n way hn hw' v 1 _ (by simp) v0 w he
   ·rw[e1]at he
    rw[e2]
    exact vy P n way hn hw' v (-1) _ (by simp) v0 w he
 ·have f2:¬(-(ifn n:Int)<qc c n∧qc c n<(ifn n:Int)):=fun e=>h2 (i2.2 e)
  have hX:xby n b c=⟨false,[],0⟩:=by unfold xby;rw[if_pos (.inl h2)]
  have hY:yby n b c=oneN5:=by unfold yby;rw[if_pos (.inl h2)]
  have hI:iby n b c=0:=by unfold iby;rw[if_pos h2]
  have hK:K=0:=by
   rcases h with ⟨-,h⟩|⟨h,-⟩|⟨h,-⟩
   ·exact h
   ·exact absurd h f2
   ·exact absurd h f2
  have q0:Qd n 0 (vz (-1300) oneN5) 0:=by
   refine⟨by omega,by omega,fun _=>?_,fun _=>?_⟩
   ·rw[yt];simp
   ·have h1:=(jp n (-1300) (0+1) hn).1.1 (by decide)
    rw[VI]
    have:=qoj (0-(-1300:Int)).toNat
    exact Int.mul_pos h1 (by omega)
  rw[hX,hY,hI,hK]
  refine⟨QW,Xy,one_pos,.inr (.inr ⟨rfl,fun _=>by rw[zM];exact q0,fun _=>by rw[zM];exact q0⟩),fun P v w he=>?_⟩
  have:=vy P n way hn hw' v 0 _ (by simp) v0 w he
  rw[Zo,Xx]at this
  exact this
theorem qc4 (n way:Int)(hn:n=64∨n=32)(hw:way=1∨way=2)(i1 i2:Int)(x1 y1 x2 y2:Nm)(K1 K2:Int)(h1:By n way i1 x1 y1 K1)(h2:By n way i2 x2 y2 K2)(T X1 X2:Int)(b1:-T<X1∧X1<T)(b2:-T<X2∧X2<T)(hX:X1≤X2→vz (-1075) x1*vz (-1075) y2≤vz (-1075) x2*vz (-1075) y1)
  (h:Rq T i1 X1≤Rq T i2 X2):K1≤K2:=by
 have hp:(0:Int)<(ifn n:Int):=by rcases hn with rfl|rfl<;>decide
 have dx:∀x y:Nm,Lies (-1075) 5000 x→Lies (-1075) 5000 y→vz (-2600) x*vz (-1300) y=vz (-1075) x*vz (-1075) y*(2^(-1075- -2600:Int).toNat*2^(-1075- -1300:Int).toNat):=fun x y lx ly=>by
  rw[vP (-2600) (-1075) x (by decide) lx.low,vP (-1300) (-1075) y (by decide) ly.low]
  generalize (2:Int)^(-1075- -2600:Int).toNat=A
  generalize (2:Int)^(-1075- -1300:Int).toNat=B
  generalize vz (-1075) x=C
  generalize vz (-1075) y=D
  ac_rfl
 have up:∀y:Nm,Lies (-1075) 5000 y→0<vz (-1075) y→0<vz (-1300) y:=fun y ly hy=>by
  rw[vP (-1300) (-1075) y (by decide) ly.low]
  exact Int.mul_pos hy (Int.pow_pos (by decide))
 have hAB:(0:Int)≤2^(-1075- -2600:Int).toNat*2^(-1075- -1300:Int).toNat:=Int.le_of_lt (Int.mul_pos (Int.pow_pos (by decide)) (Int.pow_pos (by decide)))
 have p1:=up y1 h1.ly h1.pos
 have p2:=up y2 h2.ly h2.pos
 have e1:=dx x1 y2 h1.lx h2.ly
 have e2:=dx x2 y1 h2.lx h1.ly
 have r1:-(ifn n:Int)≤K1∧K1≤(ifn n:Int):=by
  rcases h1.is with ⟨-,h⟩|⟨-,h⟩|⟨-,h,g⟩
  ·omega
  ·omega
  ·rcases hw with rfl|rfl
   ·have:=(h rfl).low;have:=(h rfl).high;omega
   ·have:=(g rfl).low;have:=(g rfl).high;omega
 have r2:-(ifn n:Int)≤K2∧K2≤(ifn n:Int):=by
  rcases h2.is with ⟨-,h⟩|⟨-,h⟩|⟨-,h,g⟩
  ·omega
  ·omega
  ·rcases hw with rfl|rfl
   ·have:=(h rfl).low;have:=(h rfl).high;omega
   ·have:=(g rfl).low;have:=(g rfl).high;omega
 unfold Rq at h
 rcases h1.is with ⟨j1,k1⟩|⟨j1,k1⟩|⟨j1,q1,w1⟩
 ·rcases h2.is with ⟨j2,k2⟩|⟨j2,k2⟩|⟨j2,q2,w2⟩
  ·omega
  ·rw[j1,j2]at h;simp at h;omega
  ·rw[j1,j2]at h;simp at h;omega
 ·omega
 ·rcases h2.is with ⟨j2,k2⟩|⟨j2,k2⟩|⟨j2,q2,w2⟩
  ·omega
  ·rw[j1,j2]at h;simp at h;omega
  ·rw[j1,j2]at h
   simp at h
   have hl:=Int.mul_le_mul_of_nonneg_right (hX h) hAB
   rw[←e1,←e2]at hl
   rcases hw with rfl|rfl
   ·exact qdl hn (q1 rfl) (q2 rfl) p1 p2 hl
   ·have:=qdl hn (w2 rfl) (w1 rfl) p2 p1 (by rw[Int.neg_mul,Int.neg_mul];omega)
    omega
def QL (n way K:Int)(P:Nat→Prop)(u:World)(v:Value):Prop:=∃i x y,EnAt P u v i x y∧∀(P:Nat→Prop) (w:World),EnAt P w v i x y→Calls Tryz.prog 93 #[v,.int .i64 n,.int .i64 way] w fun e w'=>e=.returned (.int .i64 (pz n K))∧Kept w w'
theorem qh1 (n way K:Int):Stv (QL n way K):=by
 refine⟨fun P P' u v h g=>?_,fun P u u' v k g=>?_,fun P u v b hb g v0 v1 v2 v3 v4 v5 v6=>?_,fun P u v g=>?_⟩
 ·obtain⟨i,x,y,e,r⟩:=g
  exact⟨i,x,y,e.imp h,r⟩
 ·obtain⟨i,x,y,e,r⟩:=g
  exact⟨i,x,y,e.kept k,r⟩
 ·obtain⟨i,x,y,e,r⟩:=g
  exact⟨i,x,y,e.put b hb v0 v1 v2 v3 v4 v5 v6,r⟩
 ·obtain⟨i,x,y,e,r⟩:=g
  obtain⟨n1,a1,l1,c1,y1,m1,b1,k1,d1,z1,e⟩:=e.shape
  exact⟨_,_,_,_,_,_,_,_,_,_,_,e⟩
theorem qh2 (n:Int)(hn:n=64∨n=32)(v:Nat→Value)(i:Nat→Int)(x y:Nat→Nm)(d e:Nat→Int)(P:Nat→Prop)(u:World)(G:Nat)(h1:∀j,j<4→By n 1 (i j) (x j) (y j) (d j))(h2:∀j,j<4→By n 2 (i j) (x j) (y j) (e j))(he:∀j,j<4→EnAt P u (v j) (i j) (x j) (y j))(hA:∀j,j<4→AV u G (j*7) (v j)):
  Calls Tryz.prog 59 #[.slice (some ⟨G,0,none⟩) 4 4] u fun o w'=>∃vl vh,o=.returned (.tuple #[vl,vh])∧QL n 1 (min (min (min (d 0) (d 1)) (d 2)) (d 3)) P w' vl∧QL n 2 (max (max (max (e 0) (e 1)) (e 2)) (e 3)) P w' vh∧Kept u w':=by
 have pos:∀j,j<4→0<vz (-1075) (y j):=fun j hj=>(h1 j hj).pos
 obtain⟨D,hD⟩:∃D:Int,D=vz (-1075) (y 0)*vz (-1075) (y 1)*(vz (-1075) (y 2)*vz (-1075) (y 3)):=⟨_,rfl⟩
 have hDp:0<D:=by rw[hD];exact Int.mul_pos (Int.mul_pos (pos 0 (by decide)) (pos 1 (by decide))) (Int.mul_pos (pos 2 (by decide)) (pos 3 (by decide)))
 have hW:∀j,∃W:Int,j<4→W*vz (-1075) (y j)=D:=fun j=>by
  by_cases hj:j<4
  ·rcases(show j=0∨j=1∨j=2∨j=3 by omega)with rfl|rfl|rfl|rfl
   ·exact⟨vz (-1075) (y 1)*(vz (-1075) (y 2)*vz (-1075) (y 3)),fun _=>by rw[hD];ac_rfl⟩
   ·exact⟨vz (-1075) (y 0)*(vz (-1075) (y 2)*vz (-1075) (y 3)),fun _=>by rw[hD];ac_rfl⟩
   ·exact⟨vz (-1075) (y 0)*vz (-1075) (y 1)*vz (-1075) (y 3),fun _=>by rw[hD];ac_rfl⟩
   ·exact⟨vz (-1075) (y 0)*vz (-1075) (y 1)*vz (-1075) (y 2),fun _=>by rw[hD];ac_rfl⟩
  ·exact⟨0,fun h=>absurd h hj⟩
 obtain⟨W,hW⟩:=Classical.axiomOfChoice hW
 obtain⟨X,hX⟩:∃X:Nat→Int,X=fun j=>vz (-1075) (x j)*W j:=⟨_,rfl⟩
 have hXD:∀j,j<4→X j*vz (-1075) (y j)=vz (-1075) (x j)*D:=fun j hj=>by rw[hX];dsimp only;rw[Int.mul_assoc,hW j hj]
 clear hX
 obtain⟨T,hT⟩:∃T:Int,T=(X 0).natAbs+(X 1).natAbs+(X 2).natAbs+(X 3).natAbs+1:=⟨_,rfl⟩
 have hb:∀j,j<4→-T<X j∧X j<T:=fun j hj=>by
  rcases(show j=0∨j=1∨j=2∨j=3 by omega)with rfl|rfl|rfl|rfl<;>omega
 have hi:∀j,j<4→(i j=-1∨i j=0∨i j=1):=fun j hj=>by
  rcases(h1 j hj).is with ⟨h,-⟩|⟨h,-⟩|⟨h,-⟩
  ·exact .inr (.inr h)
  ·exact .inl h
  ·exact .inr (.inl h)
 refine(kG 4 (by decide) (by decide) G 4 v (fun j=>Rq T (i j) (X j)) u hA (fun w p q hp hq k=>?_)).mono ?_
 ·exact qh0 P _ _ _ _ _ _ _ _ T _ _ (hi p hp) (hi q hq) (h1 p hp).lx (h1 p hp).ly (h1 q hq).lx (h1 q hq).ly (hb p hp) (hb q hq) (qks (pos p hp) (pos q hq) hDp (hXD p hp) (hXD q hq)) w ((he p hp).kept k) ((he q hq).kept k)
 ·rintro o w' ⟨p,q,⟨hp,hq,hl,hh⟩,rfl,k⟩
  refine⟨_,_,rfl,⟨i p,x p,y p,(he p hp).kept k,?_⟩,⟨i q,x q,y q,(he q hq).kept k,?_⟩,k⟩
  ·rw[←qhv n 1 (fun j=>Rq T (i j) (X j)) d p hp hl (fun a b ha hb' h=>qc4 n 1 hn (.inl rfl) _ _ _ _ _ _ _ _ (h1 a ha) (h1 b hb') T _ _ (hb a ha) (hb b hb') (Zr (pos a ha) (pos b hb') hDp (hXD a ha) (hXD b hb')).1 h)]
   exact fun P w he=>(h1 p hp).told P _ w he
  ·rw[←ql3 n 2 (fun j=>Rq T (i j) (X j)) e q hq hh (fun a b ha hb' h=>qc4 n 2 hn (.inr rfl) _ _ _ _ _ _ _ _ (h2 a ha) (h2 b hb') T _ _ (hb a ha) (hb b hb') (Zr (pos a ha) (pos b hb') hDp (hXD a ha) (hXD b hb')).1 h)]
   exact fun P w he=>(h2 q hq).told P _ w he
theorem qoa (a1 b1 a2 b2 n d0 d1 d2 d3 u0 u1 u2 u3:Int)(s1:RB a1∧qj a1 n=true)(s2:RB b1∧qj b1 n=true)(s3:RB a2∧qj a2 n=true)(s4:RB b2∧qj b2 n=true)(z3:qc a2 n≠0)(z4:qc b2 n≠0)
  (hd:Qrk n 1 (qc a1 n) (qc a2 n) d0∧Qrk n 1 (qc a1 n) (qc b2 n) d1∧Qrk n 1 (qc b1 n) (qc a2 n) d2∧Qrk n 1 (qc b1 n) (qc b2 n) d3) (hu:Qrk n 2 (qc a1 n) (qc a2 n) u0∧Qrk n 2 (qc a1 n) (qc b2 n) u1∧Qrk n 2 (qc b1 n) (qc a2 n) u2∧Qrk n 2 (qc b1 n) (qc b2 n) u3) (w:World):
  Calls Tryz.prog 25 #[.agg #[.int .i64 a1,.int .i64 b1],.agg #[.int .i64 a2,.int .i64 b2],.int .i64 n] w fun e w'=>e=.returned (.agg #[.int .i64 (pz n (min (min (min d0 d1) d2) d3)),.int .i64 (pz n (max (max (max u0 u1) u2) u3))])∧Kept w w':=by
 have hn:=qv a1 n s1.2
 have hall:=yi (fun b=>RB b∧qj b n=true) a1 b1 a2 b2 s1 s2 s3 s4
 have e0:=yl n 1 (.inl rfl) a1 a2 d0 s1 s3 z3 hd.1
 have e1:=yl n 1 (.inl rfl) a1 b2 d1 s1 s4 z4 hd.2.1
 have e2:=yl n 1 (.inl rfl) b1 a2 d2 s2 s3 z3 hd.2.2.1
 have e3:=yl n 1 (.inl rfl) b1 b2 d3 s2 s4 z4 hd.2.2.2
 have f0:=yl n 2 (.inr rfl) a1 a2 u0 s1 s3 z3 hu.1
 have f1:=yl n 2 (.inr rfl) a1 b2 u1 s1 s4 z4 hu.2.1
 have f2:=yl n 2 (.inr rfl) b1 a2 u2 s2 s3 z3 hu.2.2.1
 have f3:=yl n 2 (.inr rfl) b1 b2 u3 s2 s4 z4 hu.2.2.2
 refine qe3 a1 b1 a2 b2 n _ _ (iK n) (fun b=>ql b n) (iby n) (xby n) (yby n) (QL n 1 (min (min (min d0 d1) d2) d3)) (QL n 2 (max (max (max u0 u1) u2) u3)) (qh1 _ _ _) (qh1 _ _ _) w (fun u b hb _=>kO5 n b (hall b hb) u) (fun u b c v1 v2 P hbc _ q1 q2=>?_) (fun u v1 v2 v3 v4 P G _ q1 q2 q3 q4 r1 r2 r3 r4=>?_) (fun u v1 v2 _ q1 q2=>?_)
 ·exact qkr n b c (hall b (by rcases hbc.1 with h|h<;>simp[h])) (hall c (by rcases hbc.2 with h|h<;>simp[h])) P v1 v2 u q1 q2
 ·exact qh2 n hn (fr4 v1 v2 v3 v4) (fr4 (iby n a1 a2) (iby n a1 b2) (iby n b1 a2) (iby n b1 b2)) (fr4 (xby n a1 a2) (xby n a1 b2) (xby n b1 a2) (xby n b1 b2)) (fr4 (yby n a1 a2) (yby n a1 b2) (yby n b1 a2) (yby n b1 b2)) (fr4 d0 d1 d2 d3) (fr4 u0 u1 u2 u3) P u G (fun j hj=>by
   rcases(show j=0∨j=1∨j=2∨j=3 by omega)with rfl|rfl|rfl|rfl
   ·exact e0
   ·exact e1
   ·exact e2
   ·exact e3) (fun j hj=>by
   rcases(show j=0∨j=1∨j=2∨j=3 by omega)with rfl|rfl|rfl|rfl
   ·exact f0
   ·exact f1
   ·exact f2
   ·exact f3) (fun j hj=>by
   rcases(show j=0∨j=1∨j=2∨j=3 by omega)with rfl|rfl|rfl|rfl
   ·exact q1
   ·exact q2
   ·exact q3
   ·exact q4) (Zq (Q:=fun j v=>AV u G (j*7) v) r1 r2 r3 r4)
 ·obtain⟨i1,x1,y1,w1,t1⟩:=q1
  obtain⟨i2,x2,y2,w2,t2⟩:=q2
  have g1:=w1
  have g2:=w2
  obtain⟨n1,p1,l1,c1,y1',m1,o1,k1,g1',z1,rfl⟩:=w1.shape
  obtain⟨n2,p2,l2,c2,y2',m2,o2,k2,g2',z2,rfl⟩:=w2.shape
  exact Jb n _ _ i1 n1 p1 l1 c1 y1' m1 o1 k1 g1' z1 i2 n2 p2 l2 c2 y2' m2 o2 k2 g2' z2 u (fun w k=>t1 Top w (g1.kept k)) (fun w k=>t2 Top w (g2.kept k))
end Go.Proofs.YtaglkncdedeipaaGreatDoor
namespace Go.Proofs.YtaglkncdedeipaaGreatDoor
open Go.ChangeShapes Go.WideShapes Go.ChangeAt Go.RowKit Ieee
set_option linter.unusedVariables false
set_option linter.unusedSimpArgs false
set_option maxHeartbeats 16000000
set_option maxRecDepth 100000
theorem Y2 (n way:Int)(hn:¬(n=64∨n=32))(hw:way=0∨way=1∨way=2)(w:World)(hT:Tab w)(b:Nat)(C:List Int)(hC:∀j,-9223372036854775807≤C.getD j 0∧C.getD j 0≤9223372036854775807)(h:TotAt w b C 0)(r:Nm)(hr:cfm (cv C) (-1074)=some r):
  Calls Tryz.prog 78 #[.pointer (some ⟨b,0,none⟩),.int .i64 n,.int .i64 way] w fun e w'=>e=.returned (.float .f64 (flv 0 n))∧Kept w w':=by
 have hlen:=h.len
 have hv:=(yP _ _ _ _ hr).1
 have hL:=(yP _ _ _ _ hr).2.2
 have KI:Hid (∀u,Calls Tryz.prog 81 #[.float .f64 0,.int .i64 0] u fun e w'=>e=.returned (.bool false)∧u=w'):=fun u=>by
  have:=jZ (Fl.zero 64 (.inl rfl)) u
  rw[show decide ((0:Int)=(ifn 64:Int)∨(0:Int)=-(ifn 64:Int))=false by decide]at this
  exact this
 have KC:Hid (∀u,Kept w u→Calls Tryz.prog 106 #[.slice (some ⟨b,0,none⟩) 71 71,.int .i64 (-1074)] u fun e w'=>∃v,e=.returned (.tuple #[v,.int .i64 0])∧New u w' v r∧Kept u w'):=fun u k=>by
  have hu:=h.kept k
  have:=ZG u (hT.kept k) b 0 71 hu.lt C (by omega) hC (-1074) (fun j hj=>by rw[Nat.zero_add];exact hu.col j (by omega)) r hr
  rw[hlen]at this
  exact this
 have KR:Hid (∀u (a0:Option Addr) (c:Nat),Kept w u→Sl u (.slice a0 r.mag.length c) r.mag→Calls Tryz.prog 84 #[.agg #[.bool r.neg,.slice a0 r.mag.length c,.int .i64 r.exp],.int .i64 n,.int .i64 way] u fun e w'=>e=.returned (.tuple #[.int .i64 0,.bool false,.int .i64 3])∧Kept u w'):=fun u a0 c k hs=>qd5 n way r (yP _ _ _ _ hr).2.1 (by omega) a0 c u (hT.kept k) hs 0 false 3 (by unfold FE;rw[if_neg hn]) (fun _=>⟨rfl,rfl⟩) (fun h=>absurd h (by decide))
 have KF:Hid (∀u,Calls Tryz.prog 85 #[.int .i64 0,.int .i64 n] u fun e w'=>e=.returned (.float .f64 (flv 0 n))∧Kept u w'):=fun u=>jC 0 n (by decide) (by decide) u
 have hinf:=h.inf
 generalize flv 0 n=y at *
 go_enter Tryz.func78,Tryz.ntmps78
 go_upto_region 4 with (first|(go_at_call 81;refine(KI.out _).mono ?_;rintro e w1 ⟨rfl,rfl⟩)|(go_at_call 106;refine(KC.out _ (qo0 _)).mono ?_;rintro e w2 ⟨v,rfl,hN,k2⟩;obtain⟨vn,va,vl,vc,vx,rfl⟩:=hN.shape))
 obtain⟨rfl,rfl,rfl,hsl⟩:=jD hN
 have HS:Hid (Sl w2 (.slice va r.mag.length vc) r.mag):=hsl
 have HK:Hid (Kept w w2):=k2
 clear hsl hN hinf KC KI hC h hT hr
 go_wp2_with (first|(go_at_call 84;refine(KR.out _ _ _ (HK.out.alloc _ _) (HS.out.kept ((qo0 _).alloc _ _))).mono ?_;rintro e w3 ⟨rfl,k3⟩)|(go_at_call 85;refine(KF.out _).mono ?_;rintro e w4 ⟨rfl,k4⟩))
 go_ret
 exact⟨rfl,((HK.out.alloc _ _).trans k3).trans k4⟩
theorem qbq (n:Int)(hn:¬(n=64∨n=32))(m:Nat)(hm:m≤65536)(fx fy:Nat→Nat)(qx qy:Nat→Int)(hF:∀i,i<m→Fl 64 (fx i) (qx i)∧Fl 64 (fy i) (qy i))(ao:Option Addr)(c:Nat)(w:World)(hT:Tab w)(hI:Ivs w ao m fx fy):
  Calls Tryz.prog 47 #[.int .i64 n,.slice ao m c] w fun e w'=>∃x y,e=.returned (fv2 x y)∧True∧True∧Kept w w':=by
 have HI:Hid (Ivs w ao m fx fy):=hI
 have HF:Hid (∀i,i<m→Fl 64 (fx i) (qx i)∧Fl 64 (fy i) (qy i)):=hF
 have HT:Hid (Tab w):=hT
 clear hI hF hT
 have hSF:=jx
 obtain⟨X,hX⟩:∃X,X=((w.alloc (.cells #[.float .f64 0,.float .f64 0] 68)).alloc (.cells Tryz.zeroCells103 103)).alloc (.cells Tryz.zeroCells103 103):=⟨_,rfl⟩
 have hP:P2 X w.heap.size (.float .f64 0) (.float .f64 0):=by
  rw[hX]
  exact((P2.new w _ _ _).alloc _ _).alloc _ _
 have hL:TotAt X (w.heap.size+1) T0L 0:=by
  rw[hX]
  have:=(TotAt.new (w.alloc (.cells #[.float .f64 0,.float .f64 0] 68))).kept ((qo0 _).alloc Tryz.zeroCells103 103)
  simpa using this
 have hH:TotAt X (w.heap.size+1+1) T0L 0:=by
  rw[hX]
  have:=TotAt.new ((w.alloc (.cells #[.float .f64 0,.float .f64 0] 68)).alloc (.cells Tryz.zeroCells103 103))
  simpa using this
 have hK:Kept w X:=by
  rw[hX]
  exact(((qo0 w).alloc _ _).alloc _ _).alloc _ _
 obtain⟨H0,hH0⟩:∃H,H=w.heap.size:=⟨_,rfl⟩
 obtain⟨H1,hH1⟩:∃H,H=H0+1:=⟨_,rfl⟩
 obtain⟨H2,hH2⟩:∃H,H=H1+1:=⟨_,rfl⟩
 rw[←hH0]at hP hL hH
 rw[←hH1]at hL hH
 rw[←hH2]at hH
 have o0:w.heap.size≤H0:=by omega
 have o1:w.heap.size≤H1:=by omega
 have o2:w.heap.size≤H2:=by omega
 have n01:¬H0=H1:=by omega
 have n02:¬H0=H2:=by omega
 have n12:¬H1=H2:=by omega
 have n21:¬H2=H1:=by omega
 have hcv0:cv T0L=0:=by decide
 go_enter Tryz.func47,Tryz.ntmps47
 go_upto_region 2 with fail
 rw[←hX,←hH0,←hH1,←hH2]
 clear hX hH1 hH0 hH2
 go_wp2_with fail
 go_loopw [11] (fun i wr=>∃(k:Nat) (Cl Ch:List Int),k≤m∧i=.int .i64 k∧TotAt wr H1 Cl (iW fx qx k)∧TotAt wr H2 Ch (iW fy qy k)∧cv Cl=sV fx qx k∧cv Ch=sV fy qy k∧(∀j,-((k:Int)*1073741824)≤Cl.getD j 0∧Cl.getD j 0≤(k:Int)*1073741824)∧(∀j,-((k:Int)*1073741824)≤Ch.getD j 0∧Ch.getD j 0≤(k:Int)*1073741824)∧P2 wr H0 (.float .f64 0) (.float .f64 0)∧Kept w wr) (fun i _=>m-(intOf i).toNat)
 case atStart=>
  have hz:∀j,T0L.getD j 0=0:=fun j=>by
   unfold T0L
   rw[qon,List.getElem?_replicate]
   split<;>rfl
  exact⟨0,T0L,T0L,Nat.zero_le _,rfl,hL,hH,hcv0,hcv0,fun j=>by rw[hz];omega,fun j=>by rw[hz];omega,hP,hK⟩
 case round=>
  clear hP hL hH hK
  obtain⟨k,Cl,Ch,hk,rfl,hL,hH,vl,vh,bl1,bh1,hP,hK⟩:=hrel
  by_cases hkm:k<m
  ·obtain⟨b,off,rfl,ci0,ci1⟩:=HI.out _ hK k hkm
   obtain⟨g1,g2⟩:=HF.out k hkm
   have HG:Hid (Fl 64 (fx k) (qx k)∧Fl 64 (fy k) (qy k)):=⟨g1,g2⟩
   have HR:Hid (cv Cl=sV fx qx k∧cv Ch=sV fy qy k∧(∀j,-((k:Int)*1073741824)≤Cl.getD j 0∧Cl.getD j 0≤(k:Int)*1073741824)∧(∀j,-((k:Int)*1073741824)≤Ch.getD j 0∧Ch.getD j 0≤(k:Int)*1073741824)):=⟨vl,vh,bl1,bh1⟩
   clear g1 g2 vl vh bl1 bh1
   have hltK:(k:Int)≤65536:=by omega
   have KA1:Hid (∀u,TotAt u H1 Cl (iW fx qx k)→Calls Tryz.prog 77 #[.pointer (some ⟨H1,0,none⟩),.float .f64 (fx k)] u fun e w'=>e=.returned (.tuple #[])∧(∃C',Clm Cl C' (if xH (qx k)then 0 else zw (fx k))∧TotAt w' H1 C' (iW fx qx (k+1)))∧Grw H1 u w'):=fun u h=>Qt u H1 Cl _ h (fun j=>by have:=HR.out.2.2.1 j;omega) _ _ HG.out.1
   have KA2:Hid (∀u,TotAt u H2 Ch (iW fy qy k)→Calls Tryz.prog 77 #[.pointer (some ⟨H2,0,none⟩),.float .f64 (fy k)] u fun e w'=>e=.returned (.tuple #[])∧(∃C',Clm Ch C' (if xH (qy k)then 0 else zw (fy k))∧TotAt w' H2 C' (iW fy qy (k+1)))∧Grw H2 u w'):=fun u h=>Qt u H2 Ch _ h (fun j=>by have:=HR.out.2.2.2 j;omega) _ _ HG.out.2
   go_upto_region 5 with fail
   obtain⟨Y,hY⟩:∃Y,Y=wr.alloc (.cells #[.float .f64 (fx k),.float .f64 (fy k)] 68):=⟨_,rfl⟩
   have hB:P2 Y wr.heap.size (.float .f64 (fx k)) (.float .f64 (fy k)):=by rw[hY];exact P2.new _ _ _ _
   have kY:Kept wr Y:=by rw[hY];exact(qo0 wr).alloc _ _
   have hl1:=hL.lt
   have hl2:=hH.lt
   have hl0:=hP.lt
   obtain⟨B,hBB⟩:∃B,B=wr.heap.size:=⟨_,rfl⟩
   rw[←hBB]at hB
   rw[←hY,←hBB]
   have nB1:¬B=H1:=by omega
   have nB2:¬B=H2:=by omega
   clear hY hBB
   have hLY:=hL.kept kY
   have hHY:=hH.kept kY
   have hPY:=hP.kept kY
   have hKY:=hK.trans kY
   have b0:=hB.c0
   have b1:=hB.c1
   clear hL hH hP hK kY ci0 ci1
   go_upto_region 6 with (first|(go_at_call 77;refine(KA1.out _ hLY).mono ?_;rintro e w1 ⟨rfl,⟨C1,cl1,hL1⟩,gr1⟩))
   have hH1':=hHY.other gr1 n21
   have hB1:=hB.grw gr1 nB1
   have hP1:=hPY.grw gr1 n01
   have hK1:=hKY.grw o1 gr1
   have b01:=hB1.c0
   have b11:=hB1.c1
   clear hLY hHY hB b0 b1 hPY
   go_upto_region 7 with (first|(go_at_call 77;refine(KA2.out _ hH1').mono ?_;rintro e w2 ⟨rfl,⟨C2,cl2,hH2'⟩,gr2⟩))
   have hL2:=hL1.other gr2 n12
   have hP2:=hP1.grw gr2 n02
   have hK2:=hK1.grw o2 gr2
   clear b01 b11 hB1 hL1 hH1' hP1 hK1 gr1 gr2 KA1 KA2
   go_wp2_with fail
   go_roundw
   case rel=>
    refine⟨k+1,C1,C2,by omega,by go_num,hL2,hH2',?_,?_,fun j=>?_,fun j=>?_,hP2,hK2⟩
    ·rw[cl1.val,HR.out.1];rfl
    ·rw[cl2.val,HR.out.2.1];rfl
    ·have h1:=cl1.near j
     have h2:=HR.out.2.2.1 j
     rw[Int.natCast_add,Int.add_mul]
     omega
    ·have h1:=cl2.near j
     have h2:=HR.out.2.2.2 j
     rw[Int.natCast_add,Int.add_mul]
     omega
   case measure=>simp[intOf];omega
  ·have hkm':k=m:=by omega
   subst hkm'
   have hRd:∀(way:Int) (hw:way=0∨way=1∨way=2) (f:Nat→Nat) (q:Nat→Int) (C:List Int) (b:Nat),(∀i,i<k→Fl 64 (f i) (q i))→cv C=sV f q k→(∀j,-((k:Int)*1073741824)≤C.getD j 0∧C.getD j 0≤(k:Int)*1073741824)→∀u,Kept w u→TotAt u b C (iW f q k)→∃x,True∧Calls Tryz.prog 78 #[.pointer (some ⟨b,0,none⟩),.int .i64 n,.int .i64 way] u fun e w'=>e=.returned (.float .f64 x)∧Kept u w':=fun way hw f q C b hf hc hb u ku hu=>by
    rcases qdg q k with hq|⟨hq0,hq⟩
    ·exact⟨_,trivial,Q7 n way u b C _ _ (qmb f q k hf) hq hu⟩
    ·rw[qdh f q k hq]at hu
     obtain⟨r,hr,-,-⟩:=qb6 f q k hm hf
     refine⟨_,trivial,Y2 n way hn hw u (HT.out.kept ku) b C (fun j=>by have:=hb j;omega) hu r (by rw[hc];exact hr)⟩
   obtain⟨x,hx,KX⟩:=hRd 1 (by simp) fx qx Cl H1 (fun i hi=>(HF.out i hi).1) vl bl1 wr hK hL
   have KY:∀u,Kept wr u→∃y,True∧Calls Tryz.prog 78 #[.pointer (some ⟨H2,0,none⟩),.int .i64 n,.int .i64 2] u fun e w'=>e=.returned (.float .f64 y)∧Kept u w':=fun u ku=>hRd 2 (by simp) fy qy Ch H2 (fun i hi=>(HF.out i hi).2) vh bh1 u (hK.trans ku) (hH.kept ku)
   have HX:Hid (Calls Tryz.prog 78 #[.pointer (some ⟨H1,0,none⟩),.int .i64 n,.int .i64 1] wr fun e w'=>e=.returned (.float .f64 x)∧Kept wr w'):=KX
   have HY:Hid (∀u,Kept wr u→∃y,True∧Calls Tryz.prog 78 #[.pointer (some ⟨H2,0,none⟩),.int .i64 n,.int .i64 2] u fun e w'=>e=.returned (.float .f64 y)∧Kept u w'):=KY
   clear KX KY hRd vl vh bl1 bh1 hL hH
   go_wp2_with fail
   refine HX.out.mono ?_
   rintro e w1 ⟨rfl,k1⟩
   obtain⟨y,hy,KY⟩:=HY.out _ k1
   have HYY:Hid (Calls Tryz.prog 78 #[.pointer (some ⟨H2,0,none⟩),.int .i64 n,.int .i64 2] w1 fun e w'=>e=.returned (.float .f64 y)∧Kept w1 w'):=KY
   have HRy:Hid (True):=hy
   have HRx:Hid (True):=hx
   clear KY hy hx
   go_wp2_with fail
   refine HYY.out.mono ?_
   rintro e w2 ⟨rfl,k2⟩
   have hP2:=(hP.kept k1).kept k2
   have hz:=hP2.put (.float .f64 x) (.float .f64 y)
   obtain⟨d0,d1,df⟩:=hP2
   obtain⟨e0,e1,ef⟩:=hz
   go_wp2_with fail
   exact qoz (v:=fv2 x y) (by simp[results,Tryz.results47,go_sem,e0,e1]) rfl ⟨x,y,rfl,HRx.out,HRy.out,(((hK.trans k1).trans k2).setCell o0 _).setCell o0 _⟩
theorem qmw (lo hi n:Int)(h1:RB lo∧qj lo n=true)(h2:RB hi∧qj hi n=true)(w:World):Calls Tryz.prog 24 #[.agg #[.int .i64 lo,.int .i64 hi],.int .i64 n] w fun e w'=>e=.returned (.bool (decide (qc lo n≤0)&&decide (0≤qc hi n)))∧Kept w w':=by
 have e1:decide (sgk (qc lo n)≤0)=decide (qc lo n≤0):=by
  rcases xZ (qc lo n)with ⟨p,q⟩|⟨p,q⟩|⟨p,q⟩<;>rw[q]<;>simp<;>omega
 have e2:decide (0≤sgk (qc hi n))=decide (0≤qc hi n):=by
  rcases xZ (qc hi n)with ⟨p,q⟩|⟨p,q⟩|⟨p,q⟩<;>rw[q]<;>simp<;>omega
 rw[←e1,←e2]
 refine YX lo hi n _ _ (PE n) (PE.kept n) w (fun u b hb _=>?_) (fun u b v g hbg _ e=>?_)
 ·rcases hb with rfl|rfl
  ·exact qbn n _ h1.1 h1.2 u
  ·exact qbn n _ h2.1 h2.2 u
 ·rcases hbg with ⟨rfl,rfl⟩|⟨rfl,rfl⟩
  ·exact Jd n _ h1 Top u v e u
  ·exact Jd n _ h2 Top u v e u
theorem QV (n:Int)(f g:Nat→Nat)(hF:∀i,i<2→∃q p,Fl 64 (f i) q∧Fl 64 (g i) p)(ao:Option Addr)(c:Nat)(w:World)(hT:Tab w)(hI:Ivs w ao 2 f g):
  Calls Tryz.prog 47 #[.int .i64 n,.slice ao 2 c] w fun e w'=>∃x y,e=.returned (fv2 x y)∧True∧Kept w w':=by
 obtain⟨q0,p0,a0,b0⟩:=hF 0 (by decide)
 obtain⟨q1,p1,a1,b1⟩:=hF 1 (by decide)
 have hA:∀i,i<2→Fl 64 (f i) (two q0 q1 i)∧Fl 64 (g i) (two p0 p1 i):=fun i hi=>by
  rcases(show i=0∨i=1 by omega)with rfl|rfl
  ·exact⟨a0,b0⟩
  ·exact⟨a1,b1⟩
 by_cases hn:n=64∨n=32
 ·refine(kI n hn 2 (by decide) f g _ _ hA ao c w hT hI).mono ?_
  rintro e w' ⟨x,y,rfl,-,-,k⟩
  exact⟨x,y,rfl,trivial,k⟩
 ·refine(qbq n hn 2 (by decide) f g _ _ hA ao c w hT hI).mono ?_
  rintro e w' ⟨x,y,rfl,-,-,k⟩
  exact⟨x,y,rfl,trivial,k⟩
theorem fl_nought:Fl 64 0 0:=Fl.zero 64 (.inl rfl)
theorem qko (a1 b1 a2 b2 n:Int)(s1:RB a1)(s2:RB b1)(s3:RB a2)(s4:RB b2)(hq:btE a1 b1 a2 b2 n≠0)(w:World)(hT:Tab w):Calls Tryz.prog 10 #[sp2 a1 b1,sp2 a2 b2,.int .i64 n] w fun e w'=>e=.returned (.tuple #[sp2 0 0,.int .i64 (btE a1 b1 a2 b2 n)])∧Kept w w':=by
 obtain⟨x1,y1,x2,y2,q,hB,KB⟩:=zS a1 b1 a2 b2 n s1 s2 s3 s4
 have he:=hB.err
 subst he
 obtain⟨rfl,rfl,rfl,rfl⟩:=hB.no hq
 refine K5 a1 b1 a2 b2 n 0 0 0 0 _ _ _ (fun _ _=>True) w KB (fun u v B kwu hBv k=>?_) (fun u x y _=>yQ x y n _ (by simpa using hq) u)
 subst hBv
 exact QV n _ _ (fun i hi=>by
  rcases(show i=0∨i=1 by omega)with rfl|rfl
  ·exact⟨0,0,fl_nought,fl_nought⟩
  ·exact⟨0,0,fl_nought,fl_nought⟩) _ _ u (hT.kept kwu) (Zw k)
theorem qkp (a1 b1 a2 b2 n:Int)(s1:RB a1)(s2:RB b1)(s3:RB a2)(s4:RB b2)(hq:btE a1 b1 a2 b2 n≠0)(w:World)(hT:Tab w):Calls Tryz.prog 14 #[sp2 a1 b1,sp2 a2 b2,.int .i64 n] w fun e w'=>e=.returned (.tuple #[sp2 0 0,.int .i64 (btE a1 b1 a2 b2 n)])∧Kept w w':=by
 obtain⟨x1,y1,x2,y2,q,hB,KB⟩:=zS a1 b1 a2 b2 n s1 s2 s3 s4
 have he:=hB.err
 subst he
 obtain⟨rfl,rfl,rfl,rfl⟩:=hB.no hq
 have hN:=fl_nought.neg
 refine Ku a1 b1 a2 b2 n 0 0 0 0 _ _ _ _ _ (fun _ _=>True) w KB (fun u=>Q4 _ _ u) (fun u v B kwu hBv k=>?_) (fun u x y _=>yQ x y n _ (by simpa using hq) u)
 subst hBv
 exact QV n _ _ (fun i hi=>by
  rcases(show i=0∨i=1 by omega)with rfl|rfl
  ·exact⟨0,0,fl_nought,fl_nought⟩
  ·exact⟨_,_,hN,hN⟩) _ _ u (hT.kept kwu) (Zw k)
theorem qkq (a1 b1 a2 b2 n:Int)(s1:RB a1)(s2:RB b1)(s3:RB a2)(s4:RB b2)(hq:btE a1 b1 a2 b2 n≠0)(w:World):Calls Tryz.prog 11 #[sp2 a1 b1,sp2 a2 b2,.int .i64 n] w fun e w'=>e=.returned (.tuple #[sp2 0 0,.int .i64 (btE a1 b1 a2 b2 n)])∧Kept w w':=by
 obtain⟨x1,y1,x2,y2,q,hB,KB⟩:=zS a1 b1 a2 b2 n s1 s2 s3 s4
 have he:=hB.err
 subst he
 obtain⟨rfl,rfl,rfl,rfl⟩:=hB.no hq
 have t0:(FloatKind.f64.format.order 0 0==some .eq)=true:=by
  rw[fl_nought.ord fl_nought,xi]
  rfl
 refine qaa a1 b1 a2 b2 n 0 0 0 0 _ _ _ (fun _ _=>True) w KB (fun u P Q R kwu hCr=>?_) (fun u x y _=>yQ x y n _ (by simpa using hq) u)
 refine x9 0 0 0 0 0 0 0 0 0 0 0 0 R P Q u _ hCr.lr hCr.r (fun s a b g1 g2 hc ks=>?_) (fun s B ks hE=>?_)
 ·have hs:=hCr.kept ks
  refine yy 49 (fun a b c d w=>kS Tryz.func49 (by kernel_rfl) (by kernel_rfl) _ w) n a b g1 g2 s P Q hs.p hs.q hs.lp hs.lq (fun t way z kt hz=>?_)
  have ha:a=0∧b=0∧g1=0∧g2=0:=by rcases hc with ⟨h1,h2,h3,h4⟩|⟨h1,h2,h3,h4⟩|⟨h1,h2,h3,h4⟩|⟨h1,h2,h3,h4⟩<;>exact⟨h1,h2,h3,h4⟩
  obtain⟨rfl,rfl,rfl,rfl⟩:=ha
  have hz0:z=0:=by rcases hz with ⟨-,h⟩|⟨-,h⟩<;>exact h
  subst hz0
  exact Qu n way 0 0 true true t0 t0 rfl t
 ·refine(xG 64 0 0 0 0 fl_nought fl_nought 3 (by decide) _ _ (fun _=>0) (fun _=>0) (fun i hi=>?_) _ _ s (QO hE)).mono ?_
  ·rcases(show i=0∨i=1∨i=2 by omega)with rfl|rfl|rfl
   ·exact⟨fl_nought,fl_nought⟩
   ·exact⟨fl_nought,fl_nought⟩
   ·exact⟨fl_nought,fl_nought⟩
  ·rintro e w' ⟨x,y,rfl,h1,h2,k'⟩
   exact⟨x,y,rfl,trivial,k'⟩
theorem Y3 (a1 b1 a2 b2 n:Int)(x1 y1 x2 y2:Nat)(q:Int)(hq:(q==0)=false)(hq2:(q != 0)=true)(w:World)
  (KB:Hid (∀u,Calls Tryz.prog 45 #[sp2 a1 b1,sp2 a2 b2,.int .i64 n] u fun e w'=>e=.returned (.tuple #[fv2 x1 y1,fv2 x2 y2,.int .i64 q])∧Kept u w')):
  Calls Tryz.prog 15 #[sp2 a1 b1,sp2 a2 b2,.int .i64 n] w fun e w'=>e=.returned (.tuple #[sp2 0 0,.int .i64 q])∧Kept w w':=by
 obtain⟨X,hX⟩:∃X,X=((w.alloc (.cells #[.int .i64 a1,.int .i64 b1] 23)).alloc (.cells #[.int .i64 a2,.int .i64 b2] 23)).alloc (.cells #[.int .i64 0,.int .i64 0] 23):=⟨_,rfl⟩
 have hP1:P2 X w.heap.size (.int .i64 a1) (.int .i64 b1):=by
  rw[hX]
  exact((P2.new w _ _ _).alloc _ _).alloc _ _
 have hP2:P2 X (w.heap.size+1) (.int .i64 a2) (.int .i64 b2):=by
  rw[hX]
  have:=(P2.new (w.alloc (.cells #[.int .i64 a1,.int .i64 b1] 23)) (.int .i64 a2) (.int .i64 b2) 23).alloc #[.int .i64 0,.int .i64 0] 23
  simpa using this
 have hQ:P2 X (w.heap.size+1+1) (.int .i64 0) (.int .i64 0):=by
  rw[hX]
  have:=P2.new ((w.alloc (.cells #[.int .i64 a1,.int .i64 b1] 23)).alloc (.cells #[.int .i64 a2,.int .i64 b2] 23)) (.int .i64 0) (.int .i64 0) 23
  simpa using this
 have hK:Kept w X:=by
  rw[hX]
  exact(((qo0 w).alloc _ _).alloc _ _).alloc _ _
 obtain⟨H1,hH1⟩:∃H,H=w.heap.size+1:=⟨_,rfl⟩
 obtain⟨H2,hH2⟩:∃H,H=H1+1:=⟨_,rfl⟩
 rw[←hH1]at hP2 hQ
 rw[←hH2]at hQ
 have o2:w.heap.size≤H2:=by omega
 have hSF:=jx
 go_enter Tryz.func15,Tryz.ntmps15
 go_upto_region 1 with fail
 rw[←hX,←hH1,←hH2]
 clear hX hH1 hH2
 obtain⟨p10,p11,p1f⟩:=hP1
 obtain⟨p20,p21,p2f⟩:=hP2
 go_upto_region 2 with (first|(go_at_call 45;refine(KB.out _).mono ?_;rintro e w1 ⟨rfl,k1⟩))
 have hQ1:=hQ.kept k1
 have kw1:=hK.trans k1
 have lH2:=hQ1.lt
 clear p10 p11 p1f p20 p21 p2f KB hK hQ k1
 obtain⟨Y,hY⟩:∃Y,Y=(w1.alloc (.cells #[.float .f64 x1,.float .f64 y1] 68)).alloc (.cells #[.float .f64 x2,.float .f64 y2] 68):=⟨_,rfl⟩
 have hC1:P2 Y w1.heap.size (.float .f64 x1) (.float .f64 y1):=by
  rw[hY]
  exact(P2.new w1 _ _ _).alloc _ _
 have hC2:P2 Y (w1.heap.size+1) (.float .f64 x2) (.float .f64 y2):=by
  rw[hY]
  have:=P2.new (w1.alloc (.cells #[.float .f64 x1,.float .f64 y1] 68)) (.float .f64 x2) (.float .f64 y2) 68
  simpa using this
 have kY:Kept w1 Y:=by
  rw[hY]
  exact((qo0 w1).alloc _ _).alloc _ _
 have hQY:=hQ1.kept kY
 have kwY:=kw1.trans kY
 obtain⟨B1,hB1⟩:∃B,B=w1.heap.size:=⟨_,rfl⟩
 obtain⟨B2,hB2⟩:∃B,B=B1+1:=⟨_,rfl⟩
 rw[←hB1]at hC1 hC2
 rw[←hB2]at hC2
 rw[←hY,←hB1,←hB2]
 have n1:H2≠B1:=by omega
 have n2:H2≠B2:=by omega
 clear hY kw1 kY hQ1 hB1 hB2
 refine qm [] (fun u=>Kept Y u) (by kernel_rfl) (qo0 Y).drew (fun hHeld=>?_)
 refine tkD (i:=0) (v:=?_) rfl hHeld ?_
 try simp only[zz]
 refine tkD (i:=1) (v:=?_) rfl hHeld ?_
 try simp only[zz]
 refine tkD (i:=2) (v:=?_) rfl hHeld ?_
 try simp only[zz]
 refine qz (i:=3) (v:=undef) rfl (by kernel_rfl) (by kernel_rfl) (by kernel_rfl) (by kernel_rfl) (fun _ _ _ h=>h) (Or.inr ⟨by rfl,rfl⟩) hHeld ?_
 try simp only[zz]
 refine qz (i:=4) (v:=undef) rfl (by kernel_rfl) (by kernel_rfl) (by kernel_rfl) (by kernel_rfl) (fun _ _ _ h=>h) (Or.inr ⟨by rfl,rfl⟩) hHeld ?_
 try simp only[zz]
 refine qz (i:=5) (v:=undef) rfl (by kernel_rfl) (by kernel_rfl) (by kernel_rfl) (by kernel_rfl) (fun _ _ _ h=>h) (Or.inr ⟨by rfl,rfl⟩) hHeld ?_
 try simp only[zz]
 refine tkD (i:=6) (v:=?_) rfl hHeld ?_
 try simp only[zz]
 refine qs (by kernel_rfl) ?_ _
 try simp only[zz]
 have hQZ:=hQY.kept (qo0 Y).drew
 have kZ:=kwY.trans (qo0 Y).drew
 generalize Y.drew=Z at hQZ kZ ⊢
 obtain⟨c0,c1,cf⟩:=hQZ
 go_wp2_with fail
 have hz:=(P2.mk c0 c1 cf).put (.int .i64 0) (.int .i64 0)
 obtain⟨m0,m1,mf⟩:=hz
 exact qoz (v:=.tuple #[sp2 0 0,.int .i64 q]) (by simp[results,Tryz.results15,go_sem,m0,m1]) rfl ⟨rfl,(kZ.setCell o2 _).setCell o2 _⟩
theorem qhx (a1 b1 a2 b2 n:Int)(s1:RB a1)(s2:RB b1)(s3:RB a2)(s4:RB b2)(hq:btE a1 b1 a2 b2 n≠0)(w:World):Calls Tryz.prog 15 #[sp2 a1 b1,sp2 a2 b2,.int .i64 n] w fun e w'=>e=.returned (.tuple #[sp2 0 0,.int .i64 (btE a1 b1 a2 b2 n)])∧Kept w w':=by
 obtain⟨x1,y1,x2,y2,q,hB,KB⟩:=zS a1 b1 a2 b2 n s1 s2 s3 s4
 have he:=hB.err
 subst he
 exact Y3 a1 b1 a2 b2 n x1 y1 x2 y2 _ (by simpa using hq) (by simpa using hq) w KB
def fs5 (n:Int)(ok:Bool):Int:=if n=64∨n=32 then (if ok=true then 0 else 1)else 3
theorem qhp (n:Int)(ok:Bool)(w:World):Calls Tryz.prog 13 #[.int .i64 n,.bool ok] w fun e w'=>e=.returned (.int .i64 (fs5 n ok))∧Kept w w':=by
 unfold fs5
 by_cases h32:n=32
 ·subst h32
  rw[if_pos (.inr rfl)]
  cases ok
  ·go_enter Tryz.func13,Tryz.ntmps13
   go_wp2_with fail
   go_ret
   exact⟨rfl,qo0 _⟩
  ·go_enter Tryz.func13,Tryz.ntmps13
   go_wp2_with fail
   go_ret
   exact⟨rfl,qo0 _⟩
 ·by_cases h64:n=64
  ·subst h64
   rw[if_pos (.inl rfl)]
   cases ok
   ·go_enter Tryz.func13,Tryz.ntmps13
    go_wp2_with fail
    go_ret
    exact⟨rfl,qo0 _⟩
   ·go_enter Tryz.func13,Tryz.ntmps13
    go_wp2_with fail
    go_ret
    exact⟨rfl,qo0 _⟩
  ·rw[if_neg (by omega)]
   have b1:(n != 32)=true:=by simpa using h32
   have b2:(n != 64)=true:=by simpa using h64
   go_enter Tryz.func13,Tryz.ntmps13
   go_wp2_with fail
   go_ret
   exact⟨rfl,qo0 _⟩
theorem qcz (q:Int)(hq:(q != 0)=true)(r1 r2:Int)(w:World):Calls Tryz.prog 18 #[.agg #[.int .i64 0,.int .i64 0],.int .i64 q,.int .i64 q,.agg #[.int .i64 r1,.int .i64 r2]] w fun e w'=>e=.returned (.bool true)∧Kept w w':=by
 have b1:(q==q)=true:=by simp
 go_enter Tryz.func18,Tryz.ntmps18
 go_wp2_with fail
 go_ret
 exact⟨rfl,((qo0 _).alloc _ _).alloc _ _⟩
theorem qhq (r1 r2:Int)(w:World):Calls Tryz.prog 18 #[.agg #[.int .i64 r1,.int .i64 r2],.int .i64 0,.int .i64 0,.agg #[.int .i64 r1,.int .i64 r2]] w fun e w'=>e=.returned (.bool true)∧Kept w w':=by
 have b1:(r1==r1)=true:=by simp
 have b2:(r2==r2)=true:=by simp
 go_enter Tryz.func18,Tryz.ntmps18
 go_wp2_with fail
 go_ret
 exact⟨rfl,((qo0 _).alloc _ _).alloc _ _⟩
end Go.Proofs.YtaglkncdedeipaaGreatDoor
