/-  -/
import Derived.Test.YtaglkncdedeipaaGreatDoorWt27
import Derived.Test.YtaglkncdedeipaaGreatDoorWt26
import Derived.Test.YtaglkncdedeipaaGreatDoorWt14
namespace Go.Proofs.YtaglkncdedeipaaGreatDoor
open Go.ChangeShapes Go.WideShapes Go.ChangeAt Go.RowKit Ieee
set_option linter.unusedVariables false
set_option linter.unusedSimpArgs false
set_option maxHeartbeats 16000000
set_option maxRecDepth 100000
theorem qny (s:Int)(a b:Nm)(ha:vld a=true)(hb:vld b=true)(la:a.mag≠[]→s≤a.exp)(lb:b.mag≠[]→s≤b.exp)(h:vz s a=vz s b):a=b:=by
 obtain⟨n1,L1,x1⟩:=a
 obtain⟨n2,L2,x2⟩:=b
 have e1:=Jl s n1 L1 x1 ha la
 have e2:=Jl s n2 L2 x2 hb lb
 rw[h,e2]at e1
 exact(Option.some.inj e1).symm
theorem qnz (y n:Int)(hn:n=64∨n=32)(hy:RB y)(hc:cls y n<3):kyN n 1 (ofN y n)=qc y n∧kyN n 2 (ofN y n)=qc y n:=by
 obtain⟨-,i1,b1,b2⟩:=qdm y n hn hy hc
 obtain⟨l1,z1⟩:=zr y n hn hy hc
 have hkl:(-1074:Int)≤qk n:=by rcases hn with rfl|rfl<;>decide
 have hz:vz (-1075) (ofN y n)=kvz n (-1075) (qc y n):=by
  rw[z1,xI n (-1075) (-1074) _ (by decide) hkl]
  rfl
 obtain⟨a1,a2,-⟩:=Jx n hn (ofN y n) l1.ok (-1075) l1.low (by omega) _ b1 b2 hz
 exact⟨a1,a2⟩
end Go.Proofs.YtaglkncdedeipaaGreatDoor
namespace Go.Proofs.YtaglkncdedeipaaGreatDoor
open Go.ChangeShapes Go.WideShapes Go.ChangeAt Go.RowKit
set_option linter.unusedVariables false
set_option linter.unusedSimpArgs false
set_option maxHeartbeats 16000000
set_option maxRecDepth 100000
abbrev Top:Nat→Prop:=fun _=>True
def PE (n b:Int)(w:World)(v:Value):Prop:=EnAt Top w v (qR n (qc b n)) (ql b n) oneN5
theorem PE.kept (n:Int):∀b u u' v,PE n b u v→Kept u u'→PE n b u' v:=fun b u u' v h k=>EnAt.kept h k
theorem qbn (n b:Int)(hb:RB b)(hi:qj b n=true)(u:World):Calls Tryz.prog 52 #[.int .i64 b,.int .i64 n] u fun e w'=>∃v,e=.returned v∧PE n b w' v∧Kept u w':=by
 refine(qnr b n hb hi u).mono ?_
 rintro e w' ⟨⟨v,rfl,hv⟩,k⟩
 exact⟨v,rfl,hv.imp (fun _ _=>trivial),k⟩
theorem zh (n b:Int)(hb:RB b)(hi:qj b n=true):vld (ql b n)=true∧((ql b n).mag≠[]→-1075≤(ql b n).exp):=by
 have hn:=qv b n hi
 unfold ql
 split
 ·next h=>
  obtain⟨l,-⟩:=zr b n hn hb h
  exact⟨l.ok,l.low⟩
 ·exact⟨rfl,fun h=>absurd rfl h⟩
theorem xy (n b s:Int)(hs:s≤-1075)(hb:RB b)(hi:qj b n=true):(qR n (qc b n)=0→vz s (ql b n)=kvz n s (qc b n))∧(qR n (qc b n)≠0→vz s (ql b n)=0):=by
 have hn:=qv b n hi
 obtain⟨hc,h3⟩:=Zm b n hb hi
 have hr:=zG b n hi hb.1 hb.2
 have hpos:=jw n
 have hkl:(-1074:Int)≤qk n:=by rcases hn with rfl|rfl<;>decide
 refine⟨fun h=>?_,fun h=>?_⟩
 ·have hk:-(ifn n:Int)<qc b n∧qc b n<(ifn n:Int):=by
   unfold qR at h
   (repeat' split at h)<;>omega
  have hcl:=hc.2 hk
  have e2:ql b n=ofN b n:=by unfold ql;rw[if_pos hcl]
  obtain⟨l1,z1⟩:=zr b n hn hb hcl
  rw[e2,vP s (-1075) _ hs l1.low,z1,xI n s (-1075) _ hs (by omega),xI n (-1075) (-1074) _ (by decide) hkl]
  rfl
 ·have hcl:¬cls b n<3:=fun g=>by
   have:=hc.1 g
   unfold qR at h
   (repeat' split at h)<;>omega
  unfold ql
  rw[if_neg hcl]
  exact zM _ _ _
theorem Jc (n way b:Int)(hw:way=1∨way=2)(hb:RB b)(hi:qj b n=true):Tk n way (qR n (qc b n)) (ql b n)=qc b n:=by
 have hn:=qv b n hi
 obtain⟨hc,h3⟩:=Zm b n hb hi
 have hr:=zG b n hi hb.1 hb.2
 have hpos:=jw n
 unfold Tk qR
 by_cases h1:qc b n=(ifn n:Int)
 ·rw[if_pos h1,if_pos (by decide),h1]
 ·rw[if_neg h1]
  by_cases h2:qc b n=-(ifn n:Int)
  ·rw[if_pos h2,if_neg (by decide),if_pos (by decide),h2]
  ·rw[if_neg h2,if_neg (by decide),if_neg (by decide)]
   have hcl:=hc.2 (by omega)
   have e2:ql b n=ofN b n:=by unfold ql;rw[if_pos hcl]
   rw[e2]
   obtain⟨a1,a2⟩:=qnz b n hn hb hcl
   rcases hw with rfl|rfl
   ·exact a1
   ·exact a2
theorem VF (n:Int)(hn:n=64∨n=32)(i1 i2:Int)(x1 x2:Nm)(hi1:i1=-1∨i1=0∨i1=1)(hi2:i2=-1∨i2=0∨i2=1)(h1:vld x1=true)(h2:vld x2=true)(v1 v2:Value)(u:World)(e1:EnAt Top u v1 i1 x1 oneN5)(e2:EnAt Top u v2 i2 x2 oneN5):Calls Tryz.prog 60 #[v1,v2,.int .i64 n] u fun e w'=>e=.returned (.agg #[.int .i64 (pz n (Tk n 1 i1 x1)),.int .i64 (pz n (Tk n 2 i2 x2))])∧Kept u w':=by
 have g1:=e1
 have g2:=e2
 obtain⟨n1,a1,l1,c1,y1,m1,b1,k1,d1,z1,rfl⟩:=e1.shape
 obtain⟨n2,a2,l2,c2,y2,m2,b2,k2,d2,z2,rfl⟩:=e2.shape
 exact Jb n _ _ i1 n1 a1 l1 c1 y1 m1 b1 k1 d1 z1 i2 n2 a2 l2 c2 y2 m2 b2 k2 d2 z2 u (fun w k=>vy Top n 1 hn (.inr (.inl rfl)) _ i1 x1 hi1 h1 w (g1.kept k)) (fun w k=>vy Top n 2 hn (.inr (.inr rfl)) _ i2 x2 hi2 h2 w (g2.kept k))
theorem ql2 (b n:Int)(hb:RB b)(w:World):Calls Tryz.prog 51 #[.int .i64 b,.int .i64 n] w fun e w'=>e=.returned (.bool (cls b n==4))∧Kept w w':=by
 have K:Hid (∀u,Calls Tryz.prog 72 #[.int .i64 b,.int .i64 n] u fun e w'=>e=.returned (.int .i64 (cls b n))∧Kept u w'):=fun u=>qH b n hb.1 hb.2 u
 generalize cls b n=c at *
 go_enter Tryz.func51,Tryz.ntmps51
 go_wp2_with (first|(go_at_call 72;refine(K.out _).mono ?_;rintro e w1 ⟨rfl,k1⟩))
 go_ret
 exact⟨rfl,k1⟩
theorem xc (n a b:Int)(ha:RB a)(hb:RB b)(ia:qj a n=true)(ib:qj b n=true)(v1 v2:Value)(u:World)(e1:PE n a u v1)(e2:PE n b u v2):Calls Tryz.prog 53 #[v1,v2] u fun e w'=>e=.returned (.int .i64 (cz (qc a n) (qc b n)))∧Kept u w':=by
 have hn:=qv a n ia
 obtain⟨va,la⟩:=zh n a ha ia
 obtain⟨vb,lb⟩:=zh n b hb ib
 obtain⟨T,hT⟩:∃T:Int,T=(vz (-1075) (ql a n)).natAbs+(vz (-1075) (ql b n)).natAbs+1:=⟨_,rfl⟩
 have:=qcy Top v1 v2 _ _ _ _ (-1075) T (jl n _) (jl n _) va vb la lb (by omega) (by omega) u e1 e2
 obtain⟨a1,a2⟩:=xy n a (-1075) (by decide) ha ia
 obtain⟨b1,b2⟩:=xy n b (-1075) (by decide) hb ib
 have ra:=zG a n ia ha.1 ha.2
 have rb:=zG b n ib hb.1 hb.2
 have hpos:=jw n
 have e:cz (Rh T (-1075) (qR n (qc a n)) (ql a n)) (Rh T (-1075) (qR n (qc b n)) (ql b n))=cz (qc a n) (qc b n):=by
  have ord:∀p q:Int,p<q→kvz n (-1075) p<kvz n (-1075) q:=fun p q h=>yx n (-1075) hn p q h
  obtain⟨c1,c2,c3⟩:=zQ (qc a n) (qc b n)
  obtain⟨d1,d2,d3⟩:=zQ (Rh T (-1075) (qR n (qc a n)) (ql a n)) (Rh T (-1075) (qR n (qc b n)) (ql b n))
  have fa:Rh T (-1075) (qR n (qc a n)) (ql a n)=if qc a n=(ifn n:Int)then T else if qc a n=-(ifn n:Int)then -T else kvz n (-1075) (qc a n):=by
   unfold Rh qR at *
   by_cases h1:qc a n=(ifn n:Int)
   ·simp[h1]
   ·by_cases h2:qc a n=-(ifn n:Int)
    ·simp only[if_neg h1,if_pos h2]
     simp
    ·simp only[if_neg h1,if_neg h2]at a1 ⊢
     simpa using a1
  have fb:Rh T (-1075) (qR n (qc b n)) (ql b n)=if qc b n=(ifn n:Int)then T else if qc b n=-(ifn n:Int)then -T else kvz n (-1075) (qc b n):=by
   unfold Rh qR at *
   by_cases h1:qc b n=(ifn n:Int)
   ·simp[h1]
   ·by_cases h2:qc b n=-(ifn n:Int)
    ·simp only[if_neg h1,if_pos h2]
     simp
    ·simp only[if_neg h1,if_neg h2]at b1 ⊢
     simpa using b1
  have ba:qc a n≠(ifn n:Int)→qc a n≠-(ifn n:Int)→-T<kvz n (-1075) (qc a n)∧kvz n (-1075) (qc a n)<T:=fun g1 g2=>by
   have:=a1 (by unfold qR;rw[if_neg g1,if_neg g2])
   omega
  have bb:qc b n≠(ifn n:Int)→qc b n≠-(ifn n:Int)→-T<kvz n (-1075) (qc b n)∧kvz n (-1075) (qc b n)<T:=fun g1 g2=>by
   have:=b1 (by unfold qR;rw[if_neg g1,if_neg g2])
   omega
  have key:(qc a n<qc b n→Rh T (-1075) (qR n (qc a n)) (ql a n)<Rh T (-1075) (qR n (qc b n)) (ql b n))∧(qc b n<qc a n→Rh T (-1075) (qR n (qc b n)) (ql b n)<Rh T (-1075) (qR n (qc a n)) (ql a n))∧(qc a n=qc b n→Rh T (-1075) (qR n (qc a n)) (ql a n)=Rh T (-1075) (qR n (qc b n)) (ql b n)):=by
   rw[fa,fb]
   have oab:=ord (qc a n) (qc b n)
   have oba:=ord (qc b n) (qc a n)
   refine⟨fun h=>?_,fun h=>?_,fun h=>?_⟩
   ·have:=oab h
    (repeat' split)<;>omega
   ·have:=oba h
    (repeat' split)<;>omega
   ·rw[h]
  rcases Int.lt_trichotomy (qc a n) (qc b n)with h|h|h
  ·rw[c1 h,d1 (key.1 h)]
  ·rw[c2 h,d2 (key.2.2 h)]
  ·rw[c3 h,d3 (key.2.1 h)]
 rw[e]at this
 exact this
theorem qkh (b n:Int):qj b n=(val b n&&!(cls b n==4)):=by
 rw[Bool.eq_iff_iff]
 unfold qj val
 simp only[Bool.and_eq_true,Bool.not_eq_true',beq_eq_false_iff_ne,ne_eq,qor]
 constructor
 ·rintro⟨h,h4⟩
  refine⟨?_,h4⟩
  rcases h with rfl|rfl
  ·exact .inl rfl
  ·refine .inr ⟨rfl,?_⟩
   apply Classical.not_not.1
   intro hb
   apply h4
   unfold cls
   rw[if_neg (by decide),if_pos rfl,if_neg hb]
 ·rintro⟨h,h4⟩
  exact⟨by omega,h4⟩
theorem Zn (lo hi n:Int)(h1:RB lo)(h2:RB hi)(w:World):Calls Tryz.prog 12 #[.agg #[.int .i64 lo,.int .i64 hi],.int .i64 n] w fun e w'=>e=.returned (.bool (vsp lo hi n))∧Kept w w':=by
 have KV:Hid (∀u b q,(b=lo∧q=val lo n∨b=hi∧q=val hi n)→Calls Tryz.prog 50 #[.int .i64 b,.int .i64 n] u fun e w'=>e=.returned (.bool q)∧Kept u w'):=fun u b q h=>by
  rcases h with ⟨rfl,rfl⟩|⟨rfl,rfl⟩
  ·exact QY _ n h1.1 h1.2 u
  ·exact QY _ n h2.1 h2.2 u
 have KN:Hid (∀u b q,(b=lo∧q=(cls lo n==4)∨b=hi∧q=(cls hi n==4))→Calls Tryz.prog 51 #[.int .i64 b,.int .i64 n] u fun e w'=>e=.returned (.bool q)∧Kept u w'):=fun u b q h=>by
  rcases h with ⟨rfl,rfl⟩|⟨rfl,rfl⟩
  ·exact ql2 _ n h1 u
  ·exact ql2 _ n h2 u
 have hval:∀b,qj b n=(val b n&&!(cls b n==4)):=fun b=>qkh b n
 by_cases hq:(!val lo n||(!val hi n||((cls lo n==4)||(cls hi n==4))))=true
 ·have hf:vsp lo hi n=false:=by
   apply Zv
   rw[hval lo,hval hi]
   revert hq
   cases val lo n<;>cases val hi n<;>cases (cls lo n==4)<;>cases (cls hi n==4)<;>simp
  rw[hf]
  exact qbm lo hi n _ _ _ _ hq w KV KN
 ·have hq1:val lo n=true∧val hi n=true∧(cls lo n==4)=false∧(cls hi n==4)=false:=by
   revert hq
   cases val lo n<;>cases val hi n<;>cases (cls lo n==4)<;>cases (cls hi n==4)<;>simp
  have i1:qj lo n=true:=by rw[hval,hq1.1,hq1.2.2.1];rfl
  have i2:qj hi n=true:=by rw[hval,hq1.2.1,hq1.2.2.2];rfl
  have hv:vsp lo hi n=((qR n (qc lo n) != 1)&&(qR n (qc hi n) != -1)&&decide (cz (qc lo n) (qc hi n)≤0)):=by
   have hpos:=jw n
   obtain⟨c1,c2,c3⟩:=zQ (qc lo n) (qc hi n)
   have e1:(qR n (qc lo n) != 1)=decide (qc lo n≠(ifn n:Int)):=by
    unfold qR
    by_cases g1:qc lo n=(ifn n:Int)
    ·simp[g1]
    ·rw[if_neg g1,qos g1]
     split<;>rfl
   have e2:(qR n (qc hi n) != -1)=decide (qc hi n≠-(ifn n:Int)):=by
    unfold qR
    by_cases g2:qc hi n=-(ifn n:Int)
    ·rw[if_neg (by omega),if_pos g2]
     simp[g2]
    ·rw[qos g2,if_neg g2]
     split<;>rfl
   have e3:decide (cz (qc lo n) (qc hi n)≤0)=decide (qc lo n≤qc hi n):=by
    apply decide_eq_decide.2
    omega
   unfold vsp
   rw[i1,i2,e1,e2,e3,Bool.true_and,Bool.true_and]
   cases decide (qc lo n≤qc hi n)<;>cases decide (qc lo n≠(ifn n:Int))<;>cases decide (qc hi n≠-(ifn n:Int))<;>rfl
  rw[hv]
  refine YY lo hi n (qR n (qc lo n)) (qR n (qc hi n)) _ _ _ _ rfl rfl rfl _ _ _ _ hq1.1 hq1.2.1 hq1.2.2.1 hq1.2.2.2 (PE n) (PE.kept n) w KV KN (fun u b i h k=>?_) (fun u v1 v2 k e1 e2=>xc n lo hi h1 h2 i1 i2 v1 v2 u e1 e2)
  rcases h with ⟨rfl,rfl⟩|⟨rfl,rfl⟩
  ·refine(qbn n _ h1 i1 u).mono ?_
   rintro e w' ⟨v,rfl,hv,kk⟩
   obtain⟨n1,a1,l1,c1,x1,m1,b1,k1,d1,y1,rfl⟩:=EnAt.shape hv
   exact⟨n1,a1,l1,c1,x1,m1,b1,k1,d1,y1,rfl,hv,kk⟩
  ·refine(qbn n _ h2 i2 u).mono ?_
   rintro e w' ⟨v,rfl,hv,kk⟩
   obtain⟨n1,a1,l1,c1,x1,m1,b1,k1,d1,y1,rfl⟩:=EnAt.shape hv
   exact⟨n1,a1,l1,c1,x1,m1,b1,k1,d1,y1,rfl,hv,kk⟩
theorem qki (x:Nm)(h:vld x=true):trn x=ngv x:=by
 unfold ngv
 by_cases hm:x.mag=[]
 ·rw[if_pos hm,vQ x hm]
  obtain⟨ng,L,e⟩:=x
  simp only at hm
  subst hm
  obtain⟨rfl,rfl⟩:=jH _ _ h
  rfl
 ·rw[if_neg hm]
  exact kK x hm
theorem qho (i:Int)(x:Nm)(hi:i=-1∨i=0∨i=1)(v:Value)(w:World)(h:EnAt Top w v i x oneN5):Calls Tryz.prog 74 #[v] w fun e w'=>(∃r,e=.returned r∧EnAt Top w' r (-i) (trn x) oneN5)∧Kept w w':=by
 have hh:=h.here
 obtain⟨a1,c1,a2,c2,rfl,r1,r2⟩:=h
 obtain⟨b1,d1,b2,d2,e,q1,q2⟩:=hh
 cases e
 refine(VB i x.neg a1 x.mag.length c1 x.exp oneN5.neg a2 oneN5.mag.length c2 oneN5.exp (-i) (by rcases hi with rfl|rfl|rfl<;>decide) _ w (fun u=>vL _ a1 _ c1 _ u)).mono ?_
 rintro e w' ⟨u,C,v0,v1,v2,v3,v4,v5,v6,rfl,k,hC,rfl⟩
 refine⟨⟨_,rfl,a1,c1,a2,c2,rfl,?_,?_⟩,ze k hC _ _ _ _ _ _ _⟩
 ·exact(JY (q1.kept k) C (fun c hc=>by have:=hc.2;omega) _ _ _ _ _ _ _).imp (fun _ _=>trivial)
 ·exact(JY (q2.kept k) C (fun c hc=>by have:=hc.2;omega) _ _ _ _ _ _ _).imp (fun _ _=>trivial)
theorem qns (lo hi n:Int)(h1:RB lo)(h2:RB hi)(i1:qj lo n=true)(i2:qj hi n=true)(w:World):Calls Tryz.prog 39 #[.agg #[.int .i64 lo,.int .i64 hi],.int .i64 n] w fun e w'=>e=.returned (.agg #[.int .i64 (pz n (-qc hi n)),.int .i64 (pz n (-qc lo n))])∧Kept w w':=by
 have hn:=qv lo n i1
 have tk:∀(b way way':Int),(way=1∧way'=2∨way=2∧way'=1)→RB b→qj b n=true→Tk n way (-qR n (qc b n)) (trn (ql b n))=-qc b n:=fun b way way' hw hb hi=>by
  have ht:=Jc n way' b (by omega) hb hi
  have hv:=(zh n b hb hi).1
  rw[qki _ hv]
  have T0:∀wy x,Tk n wy 0 x=kyN n wy x:=fun wy x=>by unfold Tk;rw[if_neg (by decide),if_neg (by decide)]
  have T1:∀wy x,Tk n wy 1 x=(ifn n:Int):=fun wy x=>by unfold Tk;rw[if_pos (by decide)]
  have T2:∀wy x,Tk n wy (-1) x=-(ifn n:Int):=fun wy x=>by unfold Tk;rw[if_neg (by decide),if_pos (by decide)]
  rcases jl n (qc b n)with h|h|h
  ·rw[h]at ht ⊢
   rw[T2]at ht
   rw[show -(-1:Int)=1 by decide,T1]
   omega
  ·rw[h]at ht ⊢
   rw[T0]at ht
   rw[show -(0:Int)=0 by decide,T0]
   rcases hw with ⟨rfl,rfl⟩|⟨rfl,rfl⟩
   ·have:=(qc9 n 2 (.inr (.inr rfl)) _ hv).1
    rw[show mir 2=1 by decide,ht]at this
    exact this
   ·have:=(qc9 n 1 (.inr (.inl rfl)) _ hv).1
    rw[show mir 1=2 by decide,ht]at this
    exact this
  ·rw[h]at ht ⊢
   rw[T1]at ht
   rw[T2]
   omega
 refine qbl lo hi n _ _ (PE n) (PE.kept n) (fun b u v=>EnAt Top u v (-qR n (qc b n)) (trn (ql b n)) oneN5) (fun b u u' v h k=>EnAt.kept h k) w (fun u b h k=>?_) (fun u b v h k e=>?_) (fun u v1 v2 k e1 e2=>?_)
 ·rcases h with rfl|rfl
  ·exact qbn n _ h1 i1 u
  ·exact qbn n _ h2 i2 u
 ·refine(qho _ _ (jl n _) v u e).mono ?_
  rintro e w' ⟨⟨r,rfl,hr⟩,kk⟩
  exact⟨r,rfl,hr,kk⟩
 ·have:=VF n hn _ _ _ _ (by rcases jl n (qc hi n)with h|h|h<;>rw[h]<;>decide) (by rcases jl n (qc lo n)with h|h|h<;>rw[h]<;>decide) (Zy _ (zh n hi h2 i2).1) (Zy _ (zh n lo h1 i1).1) v1 v2 u e1 e2
  rw[tk hi 1 2 (.inl ⟨rfl,rfl⟩) h2 i2,tk lo 2 1 (.inr ⟨rfl,rfl⟩) h1 i1]at this
  exact this
def AV (u:World)(G o:Nat)(v:Value):Prop:=∃(i:Int) (n:Bool) (a:Option Addr) (l c:Nat) (x:Int) (m:Bool) (b:Option Addr) (k d:Nat) (y:Int),v=env i n a l c x m b k d y∧A7 u G o (.int .i64 i) (.bool n) (.slice a l c) (.int .i64 x) (.bool m) (.slice b k d) (.int .i64 y)
theorem A7.lt {w:World}{b o:Nat}{v0 v1 v2 v3 v4 v5 v6:Value}(h:A7 w b o v0 v1 v2 v3 v4 v5 v6):b<w.heap.size:=by
 have:=h.c0
 by_cases hb:b<w.heap.size
 ·exact hb
 ·have hg:w.heap[b]?=none:=by simp at hb ⊢;omega
  simp[World.cell?,hg]at this
theorem jz {w u:World}{p:Addr}{v:Value}(h:w.cell? p=some v)(hp:p.block<w.heap.size)(k:Kept w u):u.cell? p=some v:=(k.below.cell (p:=p) hp).trans h
theorem A7.kept {w u:World}{b o:Nat}{v0 v1 v2 v3 v4 v5 v6:Value}(h:A7 w b o v0 v1 v2 v3 v4 v5 v6)(k:Kept w u):A7 u b o v0 v1 v2 v3 v4 v5 v6:=by
 have hl:=A7.lt h
 exact⟨jz h.c0 hl k,jz h.c1 hl k,jz h.c2 hl k,jz h.c3 hl k,jz h.c4 hl k,jz h.c5 hl k,jz h.c6 hl k⟩
theorem AV.kept {w u:World}{G o:Nat}{v:Value}(h:AV w G o v)(k:Kept w u):AV u G o v:=by
 obtain⟨i,n,a,l,c,x,m,b,kk,d,y,e,h⟩:=h
 exact⟨i,n,a,l,c,x,m,b,kk,d,y,e,h.kept k⟩
abbrev EN (iE:Int→Int)(xE:Int→Nm)(b:Int)(P:Nat→Prop)(u:World)(v:Value):Prop:=EnAt P u v (iE b) (xE b) oneN5
theorem xQ:Stb (fun _ _=>True):=⟨fun _ _ _ _ _=>trivial,fun _ _ _ _ _=>trivial⟩
theorem qJ (iE:Int→Int)(xE:Int→Nm)(b:Int)(v:Value):Stb (fun P u=>EN iE xE b P u v):=⟨fun _ _ _ h g=>g.imp h,fun _ _ _ k g=>g.kept k⟩
theorem Stb.and {Y Z:(Nat→Prop)→World→Prop}(h:Stb Y)(g:Stb Z):Stb (fun P u=>Y P u∧Z P u):=⟨fun P P' u e q=>⟨h.imp P P' u e q.1,g.imp P P' u e q.2⟩,fun P u u' k q=>⟨h.kept P u u' k q.1,g.kept P u u' k q.2⟩⟩
theorem zK (G o:Nat)(v:Value):Stb (fun _ u=>AV u G o v):=⟨fun _ _ _ _ g=>g,fun _ _ _ k g=>g.kept k⟩
theorem Fz.none {X u:World}:Fz X u none:=fun v h=>by cases h
theorem JJ.start {X u:World}(k:Kept X u):JJ X (fun _ _=>True) none none u:=⟨k,trivial,Fz.none,Fz.none,fun v h=>by cases h⟩
theorem jL {P:Program}{md:Region.Mode}{ops:Array Oper}{Q:Exit→Act→World→Prop}{S:World→Prop}{D:List Nat}{i1 i2:Nat}{d1 d2:Tmp}{fuel:Nat}{L:Array Bool}{a':Value→Act}{I:Value→Value→Option Value→Option Value→World→Prop}
  (h:∀vl vh,FL P md ops Q S D i1 i2 d1 d2 fuel L (a' (.tuple #[vl,vh])) (I vl vh)):∀v,FL P md ops Q S D i1 i2 d1 d2 fuel L (a' v) (fun x y w=>∃vl vh,v=.tuple #[vl,vh]∧I vl vh x y w):=fun v x y w hI=>by
 obtain⟨vl,vh,rfl,hJ⟩:=hI
 exact h vl vh x y w hJ
theorem jM {P:Program}{md:Region.Mode}{ops:Array Oper}{Q:Exit→Act→World→Prop}{S:World→Prop}{D:List Nat}{i1 i2:Nat}{d1 d2:Tmp}{fuel:Nat}{L:Array Bool}{a':Value→Act}{M:Nat}{I:Nat→Option Value→Option Value→World→Prop}
  (h:∀G,FL P md ops Q S D i1 i2 d1 d2 fuel L (a' (.slice (some ⟨G,0,none⟩) M M)) (I G)):∀v,FL P md ops Q S D i1 i2 d1 d2 fuel L (a' v) (fun x y w=>∃G,v=.slice (some ⟨G,0,none⟩) M M∧I G x y w):=fun v x y w hI=>by
 obtain⟨G,rfl,hJ⟩:=hI
 exact h G x y w hJ
theorem qe2 (u:World)(ip:Int)(np:Bool)(ap:Option Addr)(lp cp:Nat)(xp:Int)(mp:Bool)(bp:Option Addr)(kp dp:Nat)(yp:Int)(iq:Int)(nq:Bool)(aq:Option Addr)(lq cq:Nat)(xq:Int)(mq:Bool)(bq:Option Addr)(kq dq:Nat)(yq:Int)(ty:TypeId):AV (u.alloc (.cells #[.int .i64 ip,.bool np,.slice ap lp cp,.int .i64 xp,.bool mp,.slice bp kp dp,.int .i64 yp,.int .i64 iq,.bool nq,.slice aq lq cq,.int .i64 xq,.bool mq,.slice bq kq dq,.int .i64 yq] ty)) u.heap.size 0 (env ip np ap lp cp xp mp bp kp dp yp)∧AV (u.alloc (.cells #[.int .i64 ip,.bool np,.slice ap lp cp,.int .i64 xp,.bool mp,.slice bp kp dp,.int .i64 yp,.int .i64 iq,.bool nq,.slice aq lq cq,.int .i64 xq,.bool mq,.slice bq kq dq,.int .i64 yq] ty)) u.heap.size 7 (env iq nq aq lq cq xq mq bq kq dq yq):=by
 refine⟨?_,?_⟩
 all_goals exact⟨_,_,_,_,_,_,_,_,_,_,_,rfl,by constructor<;>simp[go_sem]⟩
theorem qnt (u:World)(ip:Int)(np:Bool)(ap:Option Addr)(lp cp:Nat)(xp:Int)(mp:Bool)(bp:Option Addr)(kp dp:Nat)(yp:Int)(iq:Int)(nq:Bool)(aq:Option Addr)(lq cq:Nat)(xq:Int)(mq:Bool)(bq:Option Addr)(kq dq:Nat)(yq:Int)(ir:Int)(nr:Bool)(ar:Option Addr)(lr cr:Nat)(xr:Int)(mr:Bool)(br:Option Addr)(kr dr:Nat)(yr:Int)(ig:Int)(ng:Bool)(ag:Option Addr)(lg cg:Nat)(xg:Int)(mg:Bool)(bg:Option Addr)(kg dg:Nat)(yg:Int)(ty:TypeId):AV (u.alloc (.cells #[.int .i64 ip,.bool np,.slice ap lp cp,.int .i64 xp,.bool mp,.slice bp kp dp,.int .i64 yp,.int .i64 iq,.bool nq,.slice aq lq cq,.int .i64 xq,.bool mq,.slice bq kq dq,.int .i64 yq,.int .i64 ir,.bool nr,.slice ar lr cr,.int .i64 xr,.bool mr,.slice br kr dr,.int .i64 yr,.int .i64 ig,.bool ng,.slice ag lg cg,.int .i64 xg,.bool mg,.slice bg kg dg,.int .i64 yg] ty)) u.heap.size 0 (env ip np ap lp cp xp mp bp kp dp yp)∧AV (u.alloc (.cells #[.int .i64 ip,.bool np,.slice ap lp cp,.int .i64 xp,.bool mp,.slice bp kp dp,.int .i64 yp,.int .i64 iq,.bool nq,.slice aq lq cq,.int .i64 xq,.bool mq,.slice bq kq dq,.int .i64 yq,.int .i64 ir,.bool nr,.slice ar lr cr,.int .i64 xr,.bool mr,.slice br kr dr,.int .i64 yr,.int .i64 ig,.bool ng,.slice ag lg cg,.int .i64 xg,.bool mg,.slice bg kg dg,.int .i64 yg] ty)) u.heap.size 7 (env iq nq aq lq cq xq mq bq kq dq yq)∧AV (u.alloc (.cells #[.int .i64 ip,.bool np,.slice ap lp cp,.int .i64 xp,.bool mp,.slice bp kp dp,.int .i64 yp,.int .i64 iq,.bool nq,.slice aq lq cq,.int .i64 xq,.bool mq,.slice bq kq dq,.int .i64 yq,.int .i64 ir,.bool nr,.slice ar lr cr,.int .i64 xr,.bool mr,.slice br kr dr,.int .i64 yr,.int .i64 ig,.bool ng,.slice ag lg cg,.int .i64 xg,.bool mg,.slice bg kg dg,.int .i64 yg] ty)) u.heap.size 14 (env ir nr ar lr cr xr mr br kr dr yr)∧AV (u.alloc (.cells #[.int .i64 ip,.bool np,.slice ap lp cp,.int .i64 xp,.bool mp,.slice bp kp dp,.int .i64 yp,.int .i64 iq,.bool nq,.slice aq lq cq,.int .i64 xq,.bool mq,.slice bq kq dq,.int .i64 yq,.int .i64 ir,.bool nr,.slice ar lr cr,.int .i64 xr,.bool mr,.slice br kr dr,.int .i64 yr,.int .i64 ig,.bool ng,.slice ag lg cg,.int .i64 xg,.bool mg,.slice bg kg dg,.int .i64 yg] ty)) u.heap.size 21 (env ig ng ag lg cg xg mg bg kg dg yg):=by
 refine⟨?_,?_,?_,?_⟩
 all_goals exact⟨_,_,_,_,_,_,_,_,_,_,_,rfl,by constructor<;>simp[go_sem]⟩
theorem YZ (s1 s2 t1 t2 n z1 z2:Int)(iE:Int→Int)(xE:Int→Nm)(lo hi:Int→Int→Int)(w:World)
  (KO:Hid (∀u b,(b=s1∨b=s2∨b=t1∨b=t2)→Kept w u→Calls Tryz.prog 52 #[.int .i64 b,.int .i64 n] u fun e w'=>∃v,e=.returned v∧EN iE xE b (qn u.heap.size) w' v∧Kept u w'))
  (KU:Hid (∀u b c v1 v2 P G,(b=s1∧c=t1∨b=s2∧c=t2)→Kept w u→EN iE xE b P u v1→EN iE xE c P u v2→AV u G 0 v1→AV u G 7 v2→Calls Tryz.prog 59 #[.slice (some ⟨G,0,none⟩) 2 2] u fun e w'=>∃vl vh,e=.returned (.tuple #[vl,vh])∧EN iE xE (lo b c) P w' vl∧EN iE xE (hi b c) P w' vh∧Kept u w'))
  (KM:Hid (∀u v1 v2,Kept w u→EN iE xE (lo s1 t1) Top u v1→EN iE xE (hi s2 t2) Top u v2→Calls Tryz.prog 60 #[v1,v2,.int .i64 n] u fun e w'=>e=.returned (.agg #[.int .i64 z1,.int .i64 z2])∧Kept u w')):
  Calls Tryz.prog 23 #[.agg #[.int .i64 s1,.int .i64 s2],.agg #[.int .i64 t1,.int .i64 t2],.int .i64 n] w fun e w'=>e=.returned (.agg #[.int .i64 z1,.int .i64 z2])∧Kept w w':=by
 obtain⟨X,hX⟩:∃X,X=((w.alloc (.cells #[.int .i64 s1,.int .i64 s2] 23)).alloc (.cells #[.int .i64 t1,.int .i64 t2] 23)).alloc (.cells #[.int .i64 0,.int .i64 0] 23):=⟨_,rfl⟩
 have hK:Kept w X:=by rw[hX];exact(((qo0 w).alloc _ _).alloc _ _).alloc _ _
 have hXs:X.heap.size=w.heap.size+3:=by rw[hX];simp
 have hP0:P2 X (w.heap.size) (.int .i64 s1) (.int .i64 s2):=by
  rw[hX]
  have:=(((P2.new (w) (.int .i64 s1) (.int .i64 s2) 23).alloc #[.int .i64 t1,.int .i64 t2] 23).alloc #[.int .i64 0,.int .i64 0] 23)
  simpa using this
 have hP1:P2 X (w.heap.size+1) (.int .i64 t1) (.int .i64 t2):=by
  rw[hX]
  have:=((P2.new (w.alloc (.cells #[.int .i64 s1,.int .i64 s2] 23)) (.int .i64 t1) (.int .i64 t2) 23).alloc #[.int .i64 0,.int .i64 0] 23)
  simpa using this
 have hP2:P2 X (w.heap.size+1+1) (.int .i64 0) (.int .i64 0):=by
  rw[hX]
  have:=(P2.new ((w.alloc (.cells #[.int .i64 s1,.int .i64 s2] 23)).alloc (.cells #[.int .i64 t1,.int .i64 t2] 23)) (.int .i64 0) (.int .i64 0) 23)
  simpa using this
 obtain⟨B0,hB0⟩:∃B,B=w.heap.size:=⟨_,rfl⟩
 obtain⟨B1,hB1⟩:∃B,B=B0+1:=⟨_,rfl⟩
 obtain⟨B2,hB2⟩:∃B,B=B1+1:=⟨_,rfl⟩
 rw[←hB0]at hP0
 rw[←hB0,←hB1]at hP1
 rw[←hB0,←hB1,←hB2]at hP2
 have oB:Hid (w.heap.size≤B0∧B0<X.heap.size∧w.heap.size≤B1∧B1<X.heap.size∧w.heap.size≤B2∧B2<X.heap.size):=(show _∧_∧_∧_∧_∧_ from by omega)
 have oX:Hid (w.heap.size≤X.heap.size):=hK.below.size
 have HS:Hid (∀u,Kept X u→Kept X u∧u.cell? ⟨B0,0,none⟩=some (.int .i64 s1)∧u.cell? ⟨B0,1,none⟩=some (.int .i64 s2)∧u.cell? ⟨B1,0,none⟩=some (.int .i64 t1)∧u.cell? ⟨B1,1,none⟩=some (.int .i64 t2)):=fun u k=>⟨k,(hP0.kept k).c0,(hP0.kept k).c1,(hP1.kept k).c0,(hP1.kept k).c1⟩
 go_enter Tryz.func23,Tryz.ntmps23
 go_upto_region 1 with fail
 rw[←hX,←hB0,←hB1,←hB2]
 clear hX hXs hB0 hB1 hB2
 refine qm [] (fun u=>Kept X u∧u.cell? ⟨B0,0,none⟩=some (.int .i64 s1)∧u.cell? ⟨B0,1,none⟩=some (.int .i64 s2)∧u.cell? ⟨B1,0,none⟩=some (.int .i64 t1)∧u.cell? ⟨B1,1,none⟩=some (.int .i64 t2)) (by kernel_rfl) (HS.out _ (qo0 X).drew) (fun hHeld=>?_)
 have hSS:∀u,Kept X u→Kept X u∧u.cell? ⟨B0,0,none⟩=some (.int .i64 s1)∧u.cell? ⟨B0,1,none⟩=some (.int .i64 s2)∧u.cell? ⟨B1,0,none⟩=some (.int .i64 t1)∧u.cell? ⟨B1,1,none⟩=some (.int .i64 t2):=fun u k=>HS.out u k
 refine tkD (i:=0) (v:=?_) rfl hHeld ?_
 try simp only[zz]
 refine tkD (i:=1) (v:=?_) rfl hHeld ?_
 try simp only[zz]
 refine tkD (i:=2) (v:=?_) rfl hHeld ?_
 try simp only[zz]
 refine tkD (i:=4) (v:=?_) rfl hHeld ?_
 try simp only[zz]
 refine tkD (i:=5) (v:=?_) rfl hHeld ?_
 try simp only[zz]
 refine tkD (i:=6) (v:=?_) rfl hHeld ?_
 try simp only[zz]
 refine QU (i1:=13) (i2:=14) (d1:=7) (d2:=8) (I:=JJ X (fun _ _=>True)) (JJ.start hHeld.1) ?_
 refine qE (c:=3) (I':=fun v1=>JJ X (fun P u=>EN iE xE s1 P u v1)) rfl (by kernel_rfl) rfl rfl (qG xQ hSS rfl rfl ⟨rfl,rfl,rfl⟩ ⟨rfl,rfl,rfl⟩) (fun v x y w h=>hSS w h.k) (fun xF yF uF hJ K hK9=>?_) (fun v1=>?_)
 ·rcases xF with _|xF<;>rcases yF with _|yF
  all_goals (
   (try simp only[fpt,zz])
   go_simp
   go_wp2_with fail
   refine(KO.out _ _ (.inl rfl) (hK.trans hJ.k)).mono ?_
   rintro e u1 ⟨v,rfl,g,k⟩
   exact hK9.out _ _ _ (by first|rfl|(simp only[fpt,zz])) (hJ.next k (g.here.imp fun c hc=>hJ.fresh hc.1 hc.2))
  )
 try simp only[zz]
 refine qE (c:=7) (I':=fun v2=>JJ X (fun P u=>EN iE xE s1 P u v1∧EN iE xE t1 P u v2)) rfl (by kernel_rfl) rfl rfl (qG (qJ _ _ _ _) hSS rfl rfl ⟨rfl,rfl,rfl⟩ ⟨rfl,rfl,rfl⟩) (fun v x y w h=>hSS w h.k) (fun xF yF uF hJ K hK9=>?_) (fun v2=>?_)
 ·rcases xF with _|xF<;>rcases yF with _|yF
  all_goals (
   (try simp only[fpt,zz])
   go_simp
   go_wp2_with fail
   refine(KO.out _ _ (.inr (.inr (.inl rfl))) (hK.trans hJ.k)).mono ?_
   rintro e u1 ⟨v,rfl,g,k⟩
   exact hK9.out _ _ _ (by first|rfl|(simp only[fpt,zz])) (hJ.next k ⟨((hJ.v.kept k).imp fun c hc=>hc.kept k),(g.here.imp fun c hc=>hJ.fresh hc.1 hc.2)⟩)
  )
 try simp only[zz]
 refine qE (c:=8) (I':=fun v x y w=>∃G,v=.slice (some ⟨G,0,none⟩) 2 2∧JJ X (fun P u=>(EN iE xE s1 P u v1∧EN iE xE t1 P u v2)∧AV u G 0 v1∧AV u G 7 v2) x y w) rfl (by kernel_rfl) rfl rfl (qG ((qJ _ _ _ _).and (qJ _ _ _ _)) hSS rfl rfl ⟨rfl,rfl,rfl⟩ ⟨rfl,rfl,rfl⟩) (fun v x y w h=>h.elim fun _ h=>hSS w h.2.k) (fun xF yF uF hJ K hK9=>?_) (jM fun G=>?_)
 ·obtain⟨ea,eb⟩:=hJ.v
  obtain⟨np,ap,lp,cp,xp,mp,bp,kp,dp,yp,rfl⟩:=ea.shape
  obtain⟨nq,aq,lq,cq,xq,mq,bq,kq,dq,yq,rfl⟩:=eb.shape
  rcases xF with _|xF<;>rcases yF with _|yF
  all_goals (
   (try simp only[fpt,zz])
   go_simp
   exact hK9.out _ _ _ (by first|rfl|(simp only[fpt,zz])) ⟨_,rfl,hJ.next ((qo0 uF).alloc _ _) ⟨⟨(ea.kept ((qo0 uF).alloc _ _)).imp fun c hc=>hc.kept ((qo0 uF).alloc _ _),(eb.kept ((qo0 uF).alloc _ _)).imp fun c hc=>hc.kept ((qo0 uF).alloc _ _)⟩,qe2 _ _ _ _ _ _ _ _ _ _ _ _ _ _ _ _ _ _ _ _ _ _ _ _⟩⟩
  )
 try simp only[zz]
 refine qE (c:=9) (I':=fun v x y w=>∃vl vh,v=.tuple #[vl,vh]∧JJ X (fun P u=>EN iE xE (lo s1 t1) P u vl∧EN iE xE (hi s1 t1) P u vh) x y w) rfl (by kernel_rfl) rfl rfl (qG (((qJ _ _ _ _).and (qJ _ _ _ _)).and ((zK _ _ _).and (zK _ _ _))) hSS rfl rfl ⟨rfl,rfl,rfl⟩ ⟨rfl,rfl,rfl⟩) (fun v x y w h=>h.elim fun _ h=>h.elim fun _ h=>hSS w h.2.k) (fun xF yF uF hJ K hK9=>?_) (jL fun vl vh=>?_)
 ·rcases xF with _|xF<;>rcases yF with _|yF
  all_goals (
   (try simp only[fpt,zz])
   go_simp
   go_wp2_with fail
   refine(KU.out _ _ _ _ _ _ _ (.inl ⟨rfl,rfl⟩) (hK.trans hJ.k) hJ.v.1.1 hJ.v.1.2 hJ.v.2.1 hJ.v.2.2).mono ?_
   rintro e u1 ⟨vl,vh,rfl,gl,gh,k⟩
   exact hK9.out _ _ _ (by first|rfl|(simp only[fpt,zz])) ⟨vl,vh,rfl,hJ.next k ⟨gl.imp fun c hc=>hc.kept k,gh.imp fun c hc=>hc.kept k⟩⟩
  )
 try simp only[zz]
 refine qY (i:=10) (v:=.tuple #[vl,vh]) rfl (by kernel_rfl) (by kernel_rfl) rfl rfl (fun _ _ _ h=>h) (fun x y w h=>hSS w h.k) (fun xF yF=>?_) ?_
 ·rcases xF with _|xF<;>rcases yF with _|yF<;>exact Or.inl ⟨by rfl,by(intro w hSw;simp only[fpt,zz];go_simp;try (with_reducible rfl))⟩
 try simp only[zz]
 refine qY (i:=11) (v:=vl) rfl (by kernel_rfl) (by kernel_rfl) rfl rfl (fun _ _ _ h=>h) (fun x y w h=>hSS w h.k) (fun xF yF=>?_) ?_
 ·rcases xF with _|xF<;>rcases yF with _|yF<;>exact Or.inl ⟨by rfl,by(intro w hSw;simp only[fpt,zz];go_simp;try (with_reducible rfl))⟩
 try simp only[zz]
 refine qY (i:=12) (v:=vh) rfl (by kernel_rfl) (by kernel_rfl) rfl rfl (fun _ _ _ h=>h) (fun x y w h=>hSS w h.k) (fun xF yF=>?_) ?_
 ·rcases xF with _|xF<;>rcases yF with _|yF<;>exact Or.inl ⟨by rfl,by(intro w hSw;simp only[fpt,zz];go_simp;try (with_reducible rfl))⟩
 try simp only[zz]
 refine yB (by kernel_rfl) rfl rfl (qG ((qJ _ _ _ _).and (qJ _ _ _ _)) hSS rfl rfl ⟨rfl,rfl,rfl⟩ ⟨rfl,rfl,rfl⟩) (fun xF yF uF hJ=>?_)
 obtain⟨C0,rfl,oC0,p1⟩:=hJ.f1 _ rfl
 obtain⟨C1,rfl,oC1,p2⟩:=hJ.f2 _ rfl
 have hne:C0≠C1:=fun e=>hJ.ne _ rfl (by rw[e])
 obtain⟨gl,gh⟩:=hJ.v
 have kU:=hJ.k
 replace gl:=gl.imp (fun c hc=>(show c≠C0∧c≠C1 from⟨hc.2.1 _ rfl,hc.2.2 _ rfl⟩))
 replace gh:=gh.imp (fun c hc=>(show c≠C0∧c≠C1 from⟨hc.2.1 _ rfl,hc.2.2 _ rfl⟩))
 clear hJ
 obtain⟨ne,ae,le,ce,xe,me,be,ke,de,ye,rfl⟩:=gl.shape
 obtain⟨nf,af,lf,cf,xf,mf,bf,kf,df,yf,rfl⟩:=gh.shape
 try simp only[zz]
 have p2b:=p2.other C0 hne (.int .i64 (iE (lo s1 t1))) (.bool ne) (.slice ae le ce) (.int .i64 xe) (.bool me) (.slice be ke de) (.int .i64 ye)
 have p1b:=p1.put (.int .i64 (iE (lo s1 t1))) (.bool ne) (.slice ae le ce) (.int .i64 xe) (.bool me) (.slice be ke de) (.int .i64 ye)
 have kV:=ze kU oC0 (.int .i64 (iE (lo s1 t1))) (.bool ne) (.slice ae le ce) (.int .i64 xe) (.bool me) (.slice be ke de) (.int .i64 ye)
 obtain⟨rr0,rr1,rr2,rr3,rr4,rr5,rr6,rrf⟩:=p1
 refine qi (i:=15) (by kernel_rfl) rfl (fun K hK9=>?_)
 go_simp
 refine hK9.out _ _ (hSS _ kV) (fun hH=>?_)
 clear hK9 K
 try simp only[zz]
 clear rr0 rr1 rr2 rr3 rr4 rr5 rr6 rrf
 obtain⟨V,hV⟩:∃Z,Z=(((((((uF).setCell ⟨C0,0,none⟩ (.int .i64 (iE (lo s1 t1)))).setCell ⟨C0,1,none⟩ (.bool ne)).setCell ⟨C0,2,none⟩ (.slice ae le ce)).setCell ⟨C0,3,none⟩ (.int .i64 xe)).setCell ⟨C0,4,none⟩ (.bool me)).setCell ⟨C0,5,none⟩ (.slice be ke de)).setCell ⟨C0,6,none⟩ (.int .i64 ye):=⟨_,rfl⟩
 have glV:EN iE xE (lo s1 t1) (fun c=>c≠C0∧c≠C1) V (env (iE (lo s1 t1)) ne ae le ce xe me be ke de ye):=by rw[hV];exact gl.put C0 (fun c h=>h.1) _ _ _ _ _ _ _
 have ghV:EN iE xE (hi s1 t1) (fun c=>c≠C0∧c≠C1) V (env (iE (hi s1 t1)) nf af lf cf xf mf bf kf df yf):=by rw[hV];exact gh.put C0 (fun c h=>h.1) _ _ _ _ _ _ _
 rw[←hV]
 change P7 ((((((((uF).setCell ⟨C0,0,none⟩ (.int .i64 (iE (lo s1 t1)))).setCell ⟨C0,1,none⟩ (.bool ne)).setCell ⟨C0,2,none⟩ (.slice ae le ce)).setCell ⟨C0,3,none⟩ (.int .i64 xe)).setCell ⟨C0,4,none⟩ (.bool me)).setCell ⟨C0,5,none⟩ (.slice be ke de)).setCell ⟨C0,6,none⟩ (.int .i64 ye)) _ _ _ _ _ _ _ _ at p2b
 change P7 ((((((((uF).setCell ⟨C0,0,none⟩ (.int .i64 (iE (lo s1 t1)))).setCell ⟨C0,1,none⟩ (.bool ne)).setCell ⟨C0,2,none⟩ (.slice ae le ce)).setCell ⟨C0,3,none⟩ (.int .i64 xe)).setCell ⟨C0,4,none⟩ (.bool me)).setCell ⟨C0,5,none⟩ (.slice be ke de)).setCell ⟨C0,6,none⟩ (.int .i64 ye)) _ _ _ _ _ _ _ _ at p1b
 change Kept _ ((((((((uF).setCell ⟨C0,0,none⟩ (.int .i64 (iE (lo s1 t1)))).setCell ⟨C0,1,none⟩ (.bool ne)).setCell ⟨C0,2,none⟩ (.slice ae le ce)).setCell ⟨C0,3,none⟩ (.int .i64 xe)).setCell ⟨C0,4,none⟩ (.bool me)).setCell ⟨C0,5,none⟩ (.slice be ke de)).setCell ⟨C0,6,none⟩ (.int .i64 ye))at kV
 rw[←hV]at p2b p1b kV
 clear hV gl gh hH p2
 have p1c:=p1b.other C1 (Ne.symm hne) (.int .i64 (iE (hi s1 t1))) (.bool nf) (.slice af lf cf) (.int .i64 xf) (.bool mf) (.slice bf kf df) (.int .i64 yf)
 have p2c:=p2b.put (.int .i64 (iE (hi s1 t1))) (.bool nf) (.slice af lf cf) (.int .i64 xf) (.bool mf) (.slice bf kf df) (.int .i64 yf)
 have kW:=ze kV oC1 (.int .i64 (iE (hi s1 t1))) (.bool nf) (.slice af lf cf) (.int .i64 xf) (.bool mf) (.slice bf kf df) (.int .i64 yf)
 obtain⟨rr0,rr1,rr2,rr3,rr4,rr5,rr6,rrf⟩:=p2b
 refine qi (i:=16) (by kernel_rfl) rfl (fun K hK9=>?_)
 go_simp
 refine hK9.out _ _ (hSS _ kW) (fun hH=>?_)
 clear hK9 K
 try simp only[zz]
 clear rr0 rr1 rr2 rr3 rr4 rr5 rr6 rrf
 obtain⟨U,hV⟩:∃Z,Z=(((((((V).setCell ⟨C1,0,none⟩ (.int .i64 (iE (hi s1 t1)))).setCell ⟨C1,1,none⟩ (.bool nf)).setCell ⟨C1,2,none⟩ (.slice af lf cf)).setCell ⟨C1,3,none⟩ (.int .i64 xf)).setCell ⟨C1,4,none⟩ (.bool mf)).setCell ⟨C1,5,none⟩ (.slice bf kf df)).setCell ⟨C1,6,none⟩ (.int .i64 yf):=⟨_,rfl⟩
 have eC0:EN iE xE (lo s1 t1) Top U (env (iE (lo s1 t1)) ne ae le ce xe me be ke de ye):=by rw[hV];exact(glV.put C1 (fun c h=>h.2) _ _ _ _ _ _ _).imp fun _ _=>trivial
 have eC1:EN iE xE (hi s1 t1) Top U (env (iE (hi s1 t1)) nf af lf cf xf mf bf kf df yf):=by rw[hV];exact(ghV.put C1 (fun c h=>h.2) _ _ _ _ _ _ _).imp fun _ _=>trivial
 rw[←hV]
 change P7 ((((((((V).setCell ⟨C1,0,none⟩ (.int .i64 (iE (hi s1 t1)))).setCell ⟨C1,1,none⟩ (.bool nf)).setCell ⟨C1,2,none⟩ (.slice af lf cf)).setCell ⟨C1,3,none⟩ (.int .i64 xf)).setCell ⟨C1,4,none⟩ (.bool mf)).setCell ⟨C1,5,none⟩ (.slice bf kf df)).setCell ⟨C1,6,none⟩ (.int .i64 yf)) _ _ _ _ _ _ _ _ at p2c
 change P7 ((((((((V).setCell ⟨C1,0,none⟩ (.int .i64 (iE (hi s1 t1)))).setCell ⟨C1,1,none⟩ (.bool nf)).setCell ⟨C1,2,none⟩ (.slice af lf cf)).setCell ⟨C1,3,none⟩ (.int .i64 xf)).setCell ⟨C1,4,none⟩ (.bool mf)).setCell ⟨C1,5,none⟩ (.slice bf kf df)).setCell ⟨C1,6,none⟩ (.int .i64 yf)) _ _ _ _ _ _ _ _ at p1c
 change Kept _ ((((((((V).setCell ⟨C1,0,none⟩ (.int .i64 (iE (hi s1 t1)))).setCell ⟨C1,1,none⟩ (.bool nf)).setCell ⟨C1,2,none⟩ (.slice af lf cf)).setCell ⟨C1,3,none⟩ (.int .i64 xf)).setCell ⟨C1,4,none⟩ (.bool mf)).setCell ⟨C1,5,none⟩ (.slice bf kf df)).setCell ⟨C1,6,none⟩ (.int .i64 yf))at kW
 rw[←hV]at p2c p1c kW
 clear hV glV ghV hH kU kV p1b uF V
 have q0:=p1c
 have q1:=p2c
 have kXU:=kW
 clear p1c p2c kW
 refine qs (by kernel_rfl) ?_ _
 try simp only[zz]
 go_upto_region 2 with fail
 clear hSS hHeld
 refine qm [] (fun u=>Kept X u∧u.cell? ⟨B0,0,none⟩=some (.int .i64 s1)∧u.cell? ⟨B0,1,none⟩=some (.int .i64 s2)∧u.cell? ⟨B1,0,none⟩=some (.int .i64 t1)∧u.cell? ⟨B1,1,none⟩=some (.int .i64 t2)) (by kernel_rfl) (HS.out _ (kXU.trans (qo0 U).drew)) (fun hHeld=>?_)
 have hSS:∀u,Kept U u→Kept X u∧u.cell? ⟨B0,0,none⟩=some (.int .i64 s1)∧u.cell? ⟨B0,1,none⟩=some (.int .i64 s2)∧u.cell? ⟨B1,0,none⟩=some (.int .i64 t1)∧u.cell? ⟨B1,1,none⟩=some (.int .i64 t2):=fun u k=>HS.out u (kXU.trans k)
 refine tkD (i:=0) (v:=?_) rfl hHeld ?_
 try simp only[zz]
 refine tkD (i:=1) (v:=?_) rfl hHeld ?_
 try simp only[zz]
 refine tkD (i:=2) (v:=?_) rfl hHeld ?_
 try simp only[zz]
 refine tkD (i:=4) (v:=?_) rfl hHeld ?_
 try simp only[zz]
 refine tkD (i:=5) (v:=?_) rfl hHeld ?_
 try simp only[zz]
 refine tkD (i:=6) (v:=?_) rfl hHeld ?_
 try simp only[zz]
 refine QU (i1:=13) (i2:=14) (d1:=9) (d2:=10) (I:=JJ U (fun _ _=>True)) (JJ.start (qo0 U).drew) ?_
 refine qE (c:=3) (I':=fun v1=>JJ U (fun P u=>EN iE xE s2 P u v1)) rfl (by kernel_rfl) rfl rfl (qG xQ hSS rfl rfl ⟨rfl,rfl,rfl⟩ ⟨rfl,rfl,rfl⟩) (fun v x y w h=>hSS w h.k) (fun xF yF uF hJ K hK9=>?_) (fun v1=>?_)
 ·rcases xF with _|xF<;>rcases yF with _|yF
  all_goals (
   (try simp only[fpt,zz])
   go_simp
   go_wp2_with fail
   refine(KO.out _ _ (.inr (.inl rfl)) ((hK.trans kXU).trans hJ.k)).mono ?_
   rintro e u1 ⟨v,rfl,g,k⟩
   exact hK9.out _ _ _ (by first|rfl|(simp only[fpt,zz])) (hJ.next k (g.here.imp fun c hc=>hJ.fresh hc.1 hc.2))
  )
 try simp only[zz]
 refine qE (c:=7) (I':=fun v2=>JJ U (fun P u=>EN iE xE s2 P u v1∧EN iE xE t2 P u v2)) rfl (by kernel_rfl) rfl rfl (qG (qJ _ _ _ _) hSS rfl rfl ⟨rfl,rfl,rfl⟩ ⟨rfl,rfl,rfl⟩) (fun v x y w h=>hSS w h.k) (fun xF yF uF hJ K hK9=>?_) (fun v2=>?_)
 ·rcases xF with _|xF<;>rcases yF with _|yF
  all_goals (
   (try simp only[fpt,zz])
   go_simp
   go_wp2_with fail
   refine(KO.out _ _ (.inr (.inr (.inr rfl))) ((hK.trans kXU).trans hJ.k)).mono ?_
   rintro e u1 ⟨v,rfl,g,k⟩
   exact hK9.out _ _ _ (by first|rfl|(simp only[fpt,zz])) (hJ.next k ⟨((hJ.v.kept k).imp fun c hc=>hc.kept k),(g.here.imp fun c hc=>hJ.fresh hc.1 hc.2)⟩)
  )
 try simp only[zz]
 refine qE (c:=8) (I':=fun v x y w=>∃G,v=.slice (some ⟨G,0,none⟩) 2 2∧JJ U (fun P u=>(EN iE xE s2 P u v1∧EN iE xE t2 P u v2)∧AV u G 0 v1∧AV u G 7 v2) x y w) rfl (by kernel_rfl) rfl rfl (qG ((qJ _ _ _ _).and (qJ _ _ _ _)) hSS rfl rfl ⟨rfl,rfl,rfl⟩ ⟨rfl,rfl,rfl⟩) (fun v x y w h=>h.elim fun _ h=>hSS w h.2.k) (fun xF yF uF hJ K hK9=>?_) (jM fun G=>?_)
 ·obtain⟨ea,eb⟩:=hJ.v
  obtain⟨np,ap,lp,cp,xp,mp,bp,kp,dp,yp,rfl⟩:=ea.shape
  obtain⟨nq,aq,lq,cq,xq,mq,bq,kq,dq,yq,rfl⟩:=eb.shape
  rcases xF with _|xF<;>rcases yF with _|yF
  all_goals (
   (try simp only[fpt,zz])
   go_simp
   exact hK9.out _ _ _ (by first|rfl|(simp only[fpt,zz])) ⟨_,rfl,hJ.next ((qo0 uF).alloc _ _) ⟨⟨(ea.kept ((qo0 uF).alloc _ _)).imp fun c hc=>hc.kept ((qo0 uF).alloc _ _),(eb.kept ((qo0 uF).alloc _ _)).imp fun c hc=>hc.kept ((qo0 uF).alloc _ _)⟩,qe2 _ _ _ _ _ _ _ _ _ _ _ _ _ _ _ _ _ _ _ _ _ _ _ _⟩⟩
  )
 try simp only[zz]
 refine qE (c:=9) (I':=fun v x y w=>∃vl vh,v=.tuple #[vl,vh]∧JJ U (fun P u=>EN iE xE (lo s2 t2) P u vl∧EN iE xE (hi s2 t2) P u vh) x y w) rfl (by kernel_rfl) rfl rfl (qG (((qJ _ _ _ _).and (qJ _ _ _ _)).and ((zK _ _ _).and (zK _ _ _))) hSS rfl rfl ⟨rfl,rfl,rfl⟩ ⟨rfl,rfl,rfl⟩) (fun v x y w h=>h.elim fun _ h=>h.elim fun _ h=>hSS w h.2.k) (fun xF yF uF hJ K hK9=>?_) (jL fun vl vh=>?_)
 ·rcases xF with _|xF<;>rcases yF with _|yF
  all_goals (
   (try simp only[fpt,zz])
   go_simp
   go_wp2_with fail
   refine(KU.out _ _ _ _ _ _ _ (.inr ⟨rfl,rfl⟩) ((hK.trans kXU).trans hJ.k) hJ.v.1.1 hJ.v.1.2 hJ.v.2.1 hJ.v.2.2).mono ?_
   rintro e u1 ⟨vl,vh,rfl,gl,gh,k⟩
   exact hK9.out _ _ _ (by first|rfl|(simp only[fpt,zz])) ⟨vl,vh,rfl,hJ.next k ⟨gl.imp fun c hc=>hc.kept k,gh.imp fun c hc=>hc.kept k⟩⟩
  )
 try simp only[zz]
 refine qY (i:=10) (v:=.tuple #[vl,vh]) rfl (by kernel_rfl) (by kernel_rfl) rfl rfl (fun _ _ _ h=>h) (fun x y w h=>hSS w h.k) (fun xF yF=>?_) ?_
 ·rcases xF with _|xF<;>rcases yF with _|yF<;>exact Or.inl ⟨by rfl,by(intro w hSw;simp only[fpt,zz];go_simp;try (with_reducible rfl))⟩
 try simp only[zz]
 refine qY (i:=11) (v:=vl) rfl (by kernel_rfl) (by kernel_rfl) rfl rfl (fun _ _ _ h=>h) (fun x y w h=>hSS w h.k) (fun xF yF=>?_) ?_
 ·rcases xF with _|xF<;>rcases yF with _|yF<;>exact Or.inl ⟨by rfl,by(intro w hSw;simp only[fpt,zz];go_simp;try (with_reducible rfl))⟩
 try simp only[zz]
 refine qY (i:=12) (v:=vh) rfl (by kernel_rfl) (by kernel_rfl) rfl rfl (fun _ _ _ h=>h) (fun x y w h=>hSS w h.k) (fun xF yF=>?_) ?_
 ·rcases xF with _|xF<;>rcases yF with _|yF<;>exact Or.inl ⟨by rfl,by(intro w hSw;simp only[fpt,zz];go_simp;try (with_reducible rfl))⟩
 try simp only[zz]
 refine yB (by kernel_rfl) rfl rfl (qG ((qJ _ _ _ _).and (qJ _ _ _ _)) hSS rfl rfl ⟨rfl,rfl,rfl⟩ ⟨rfl,rfl,rfl⟩) (fun xF yF uF hJ=>?_)
 obtain⟨C2,rfl,oC2,p1⟩:=hJ.f1 _ rfl
 obtain⟨C3,rfl,oC3,p2⟩:=hJ.f2 _ rfl
 have hne:C2≠C3:=fun e=>hJ.ne _ rfl (by rw[e])
 obtain⟨gl,gh⟩:=hJ.v
 have kU:=hJ.k
 replace gl:=gl.imp (fun c hc=>(show c≠C2∧c≠C3 from⟨hc.2.1 _ rfl,hc.2.2 _ rfl⟩))
 replace gh:=gh.imp (fun c hc=>(show c≠C2∧c≠C3 from⟨hc.2.1 _ rfl,hc.2.2 _ rfl⟩))
 clear hJ
 obtain⟨ng,ag,lg,cg,xg,mg,bg,kg,dg,yg,rfl⟩:=gl.shape
 obtain⟨nh,ah,lh,ch,xh,mh,bh,kh,dh,yh,rfl⟩:=gh.shape
 try simp only[zz]
 have p2b:=p2.other C2 hne (.int .i64 (iE (lo s2 t2))) (.bool ng) (.slice ag lg cg) (.int .i64 xg) (.bool mg) (.slice bg kg dg) (.int .i64 yg)
 have p1b:=p1.put (.int .i64 (iE (lo s2 t2))) (.bool ng) (.slice ag lg cg) (.int .i64 xg) (.bool mg) (.slice bg kg dg) (.int .i64 yg)
 have kV:=ze kU oC2 (.int .i64 (iE (lo s2 t2))) (.bool ng) (.slice ag lg cg) (.int .i64 xg) (.bool mg) (.slice bg kg dg) (.int .i64 yg)
 obtain⟨rr0,rr1,rr2,rr3,rr4,rr5,rr6,rrf⟩:=p1
 refine qi (i:=15) (by kernel_rfl) rfl (fun K hK9=>?_)
 go_simp
 refine hK9.out _ _ (hSS _ kV) (fun hH=>?_)
 clear hK9 K
 try simp only[zz]
 clear rr0 rr1 rr2 rr3 rr4 rr5 rr6 rrf
 obtain⟨V,hV⟩:∃Z,Z=(((((((uF).setCell ⟨C2,0,none⟩ (.int .i64 (iE (lo s2 t2)))).setCell ⟨C2,1,none⟩ (.bool ng)).setCell ⟨C2,2,none⟩ (.slice ag lg cg)).setCell ⟨C2,3,none⟩ (.int .i64 xg)).setCell ⟨C2,4,none⟩ (.bool mg)).setCell ⟨C2,5,none⟩ (.slice bg kg dg)).setCell ⟨C2,6,none⟩ (.int .i64 yg):=⟨_,rfl⟩
 have glV:EN iE xE (lo s2 t2) (fun c=>c≠C2∧c≠C3) V (env (iE (lo s2 t2)) ng ag lg cg xg mg bg kg dg yg):=by rw[hV];exact gl.put C2 (fun c h=>h.1) _ _ _ _ _ _ _
 have ghV:EN iE xE (hi s2 t2) (fun c=>c≠C2∧c≠C3) V (env (iE (hi s2 t2)) nh ah lh ch xh mh bh kh dh yh):=by rw[hV];exact gh.put C2 (fun c h=>h.1) _ _ _ _ _ _ _
 rw[←hV]
 change P7 ((((((((uF).setCell ⟨C2,0,none⟩ (.int .i64 (iE (lo s2 t2)))).setCell ⟨C2,1,none⟩ (.bool ng)).setCell ⟨C2,2,none⟩ (.slice ag lg cg)).setCell ⟨C2,3,none⟩ (.int .i64 xg)).setCell ⟨C2,4,none⟩ (.bool mg)).setCell ⟨C2,5,none⟩ (.slice bg kg dg)).setCell ⟨C2,6,none⟩ (.int .i64 yg)) _ _ _ _ _ _ _ _ at p2b
 change P7 ((((((((uF).setCell ⟨C2,0,none⟩ (.int .i64 (iE (lo s2 t2)))).setCell ⟨C2,1,none⟩ (.bool ng)).setCell ⟨C2,2,none⟩ (.slice ag lg cg)).setCell ⟨C2,3,none⟩ (.int .i64 xg)).setCell ⟨C2,4,none⟩ (.bool mg)).setCell ⟨C2,5,none⟩ (.slice bg kg dg)).setCell ⟨C2,6,none⟩ (.int .i64 yg)) _ _ _ _ _ _ _ _ at p1b
 change Kept _ ((((((((uF).setCell ⟨C2,0,none⟩ (.int .i64 (iE (lo s2 t2)))).setCell ⟨C2,1,none⟩ (.bool ng)).setCell ⟨C2,2,none⟩ (.slice ag lg cg)).setCell ⟨C2,3,none⟩ (.int .i64 xg)).setCell ⟨C2,4,none⟩ (.bool mg)).setCell ⟨C2,5,none⟩ (.slice bg kg dg)).setCell ⟨C2,6,none⟩ (.int .i64 yg))at kV
 rw[←hV]at p2b p1b kV
 clear hV gl gh hH p2
 have p1c:=p1b.other C3 (Ne.symm hne) (.int .i64 (iE (hi s2 t2))) (.bool nh) (.slice ah lh ch) (.int .i64 xh) (.bool mh) (.slice bh kh dh) (.int .i64 yh)
 have p2c:=p2b.put (.int .i64 (iE (hi s2 t2))) (.bool nh) (.slice ah lh ch) (.int .i64 xh) (.bool mh) (.slice bh kh dh) (.int .i64 yh)
 have kW:=ze kV oC3 (.int .i64 (iE (hi s2 t2))) (.bool nh) (.slice ah lh ch) (.int .i64 xh) (.bool mh) (.slice bh kh dh) (.int .i64 yh)
 obtain⟨rr0,rr1,rr2,rr3,rr4,rr5,rr6,rrf⟩:=p2b
 refine qi (i:=16) (by kernel_rfl) rfl (fun K hK9=>?_)
 go_simp
 refine hK9.out _ _ (hSS _ kW) (fun hH=>?_)
 clear hK9 K
 try simp only[zz]
 clear rr0 rr1 rr2 rr3 rr4 rr5 rr6 rrf
 obtain⟨W,hV⟩:∃Z,Z=(((((((V).setCell ⟨C3,0,none⟩ (.int .i64 (iE (hi s2 t2)))).setCell ⟨C3,1,none⟩ (.bool nh)).setCell ⟨C3,2,none⟩ (.slice ah lh ch)).setCell ⟨C3,3,none⟩ (.int .i64 xh)).setCell ⟨C3,4,none⟩ (.bool mh)).setCell ⟨C3,5,none⟩ (.slice bh kh dh)).setCell ⟨C3,6,none⟩ (.int .i64 yh):=⟨_,rfl⟩
 have eC2:EN iE xE (lo s2 t2) Top W (env (iE (lo s2 t2)) ng ag lg cg xg mg bg kg dg yg):=by rw[hV];exact(glV.put C3 (fun c h=>h.2) _ _ _ _ _ _ _).imp fun _ _=>trivial
 have eC3:EN iE xE (hi s2 t2) Top W (env (iE (hi s2 t2)) nh ah lh ch xh mh bh kh dh yh):=by rw[hV];exact(ghV.put C3 (fun c h=>h.2) _ _ _ _ _ _ _).imp fun _ _=>trivial
 rw[←hV]
 change P7 ((((((((V).setCell ⟨C3,0,none⟩ (.int .i64 (iE (hi s2 t2)))).setCell ⟨C3,1,none⟩ (.bool nh)).setCell ⟨C3,2,none⟩ (.slice ah lh ch)).setCell ⟨C3,3,none⟩ (.int .i64 xh)).setCell ⟨C3,4,none⟩ (.bool mh)).setCell ⟨C3,5,none⟩ (.slice bh kh dh)).setCell ⟨C3,6,none⟩ (.int .i64 yh)) _ _ _ _ _ _ _ _ at p2c
 change P7 ((((((((V).setCell ⟨C3,0,none⟩ (.int .i64 (iE (hi s2 t2)))).setCell ⟨C3,1,none⟩ (.bool nh)).setCell ⟨C3,2,none⟩ (.slice ah lh ch)).setCell ⟨C3,3,none⟩ (.int .i64 xh)).setCell ⟨C3,4,none⟩ (.bool mh)).setCell ⟨C3,5,none⟩ (.slice bh kh dh)).setCell ⟨C3,6,none⟩ (.int .i64 yh)) _ _ _ _ _ _ _ _ at p1c
 change Kept _ ((((((((V).setCell ⟨C3,0,none⟩ (.int .i64 (iE (hi s2 t2)))).setCell ⟨C3,1,none⟩ (.bool nh)).setCell ⟨C3,2,none⟩ (.slice ah lh ch)).setCell ⟨C3,3,none⟩ (.int .i64 xh)).setCell ⟨C3,4,none⟩ (.bool mh)).setCell ⟨C3,5,none⟩ (.slice bh kh dh)).setCell ⟨C3,6,none⟩ (.int .i64 yh))at kW
 rw[←hV]at p2c p1c kW
 clear hV glV ghV hH kU kV p1b uF V
 have q2:=p1c
 have q3:=p2c
 have kUW:=kW
 clear p1c p2c kW
 refine qs (by kernel_rfl) ?_ _
 try simp only[zz]
 go_upto_region 3 with fail
 obtain⟨q00,q01,q02,q03,q04,q05,q06,q0f⟩:=q0.kept kUW
 obtain⟨q30,q31,q32,q33,q34,q35,q36,q3f⟩:=q3
 go_wp2_with fail
 refine(KM.out _ _ _ (hK.trans (kXU.trans kUW)) (eC0.kept kUW) eC3).mono ?_
 rintro e w3 ⟨rfl,k3⟩
 obtain⟨p0,p1,pf⟩:=hP2.kept (kXU.trans (kUW.trans k3))
 go_wp2_with fail
 exact qoz (v:=.agg #[.int .i64 z1,.int .i64 z2]) (by simp[results,Tryz.results23,go_sem,p0,p1]) rfl ⟨rfl,((hK.trans (kXU.trans (kUW.trans k3))).setCell (p:=⟨B2,0,none⟩) oB.out.2.2.2.2.1 _).setCell (p:=⟨B2,1,none⟩) oB.out.2.2.2.2.1 _⟩
end Go.Proofs.YtaglkncdedeipaaGreatDoor
