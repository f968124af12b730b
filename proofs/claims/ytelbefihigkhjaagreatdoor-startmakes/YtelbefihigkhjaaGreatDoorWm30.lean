/-  -/
import Derived.Test.YtelbefihigkhjaaGreatDoorWm26
import Derived.Test.YtelbefihigkhjaaGreatDoorWm29
import Derived.Test.YtelbefihigkhjaaGreatDoorWm11
namespace Go.Proofs.YtelbefihigkhjaaGreatDoor
open Go.ChangeShapes Go.WideShapes Go.ChangeAt Go.RowKit
set_option maxHeartbeats 16000000
set_option maxRecDepth 100000
set_option linter.unusedVariables false
set_option linter.unusedSimpArgs false
theorem qgq (c:Nat)(a b:Nm)(ha:vld a=true)(hb:vld b=true)(h1:a.mag≠[])(h2:b.mag≠[])(s:Int)(hx:2*s≤a.exp)(hu:2*s≤a.exp+(bl (nv a.mag):Int)-30*((b.mag.length:Int)+(c:Int))):dV c a b=(nv a.mag*2^(a.exp-2*s).toNat)/(nv b.mag*2^(dex c a b+b.exp-2*s).toNat)∧drs c a b=decide ((nv a.mag*2^(a.exp-2*s).toNat)%(nv b.mag*2^(dex c a b+b.exp-2*s).toNat)≠0):=by
 obtain⟨p1,p2,p3,p4,p5,p6⟩:=qw a.neg a.mag a.exp h1 ha
 obtain⟨q1,q2,q3,q4,q5,q6⟩:=qw b.neg b.mag b.exp h2 hb
 have hodd:=xz a.mag p2 p4
 have hb2:=qN _ _ (qV b.mag q2)
 obtain⟨t,ht⟩:∃t,30*((b.mag.length:Int)+(c:Int))-(bl (nv a.mag):Int)=t:=⟨_,rfl⟩
 have hA:dA c a b=(nv a.mag*2^(a.exp-2*s).toNat)/2^(a.exp-t-2*s).toNat:=by
  have:=qfi (nv a.mag) a.exp (a.exp-t) (2*s) hx (by omega)
  rw[show a.exp-(a.exp-t)=t by omega]at this
  unfold dA
  rw[ht]
  exact this
 have hR:rst (nv a.mag) t=((nv a.mag*2^(a.exp-2*s).toNat)%2^(a.exp-t-2*s).toNat != 0):=by
  have:=qjz (nv a.mag) a.exp (a.exp-t) (2*s) hx (by omega)
  rw[show a.exp-(a.exp-t)=t by omega]at this
  exact this
 have hU:qU b=nv b.mag*2^(30*(b.mag.length:Int)-(bl (nv b.mag):Int)).toNat:=by
  unfold qU flo
  rw[if_pos (by omega)]
 have hE:2^(a.exp-t-2*s).toNat*qU b=nv b.mag*2^(dex c a b+b.exp-2*s).toNat:=by
  rw[hU,Nat.mul_left_comm,←qlg]
  congr 2
  unfold dex
  omega
 have hlw:decide (0<dlw c a b)=rst (nv a.mag) t:=by
  unfold rst dlw
  by_cases h0:0≤t
  ·rw[if_pos h0,qlo (by omega)]
  ·rw[if_neg h0,qln (by omega)]
   obtain⟨j,hj⟩:∃j:Nat,(-t).toNat=j+1:=⟨(-t).toNat-1,by omega⟩
   rw[hj]
   have h3:nv a.mag%2^(j+1)%2=1:=by
    rw[Nat.mod_mod_of_dvd _ (by rw[qlq];exact Nat.dvd_mul_left _ _)]
    exact hodd
   have h4:nv a.mag%2^(j+1)≠0:=by
    intro h0;rw[h0]at h3;simp at h3
   exact(by simpa using h4)
 have hP:=qle (a.exp-t-2*s).toNat
 unfold drs dV
 rw[hlw,hR,←hE,hA]
 generalize nv a.mag*2^(a.exp-2*s).toNat=V
 generalize 2^(a.exp-t-2*s).toNat=P at hP ⊢
 generalize qU b=U
 refine⟨Nat.div_div_eq_div_mul _ _ _,?_⟩
 rw[Nat.mod_mul]
 by_cases g1:V%P=0
 ·by_cases g2:V/P%U=0
  ·simp[g1,g2]
  ·have:¬P*(V/P%U)=0:=by
    intro h0;rcases Nat.mul_eq_zero.1 h0 with h0|h0<;>omega
   rw[g1,Nat.zero_add,qln g2,qln this]
   simp
 ·rw[show(V%P != 0)=true by simpa using g1,Bool.true_or]
  exact(qln (by omega)).symm
theorem qal (v:Nat)(x s la ex:Int)(h l:Nat)(hodd:v%2=1)(hR:Rtz (flo v (x-la)) h l)(hla:la=2*ex)(hs1:2*s≤x)(hs2:s≤ex):(h*2^(ex-s).toNat)*(h*2^(ex-s).toNat)≤v*2^(x-2*s).toNat∧v*2^(x-2*s).toNat<((h+1)*2^(ex-s).toNat)*((h+1)*2^(ex-s).toNat)∧(decide (l≠0)||decide (x<la))=decide (v*2^(x-2*s).toNat≠(h*2^(ex-s).toNat)*(h*2^(ex-s).toNat)):=by
 have hA:=qfi v x la (2*s) hs1 (by omega)
 obtain⟨Q,hQ⟩:∃Q,2^(la-2*s).toNat=Q:=⟨_,rfl⟩
 have hQp:0<Q:=by rw[←hQ];exact qle _
 have hQ2:2^(ex-s).toNat*2^(ex-s).toNat=Q:=by
  rw[←qlg,←hQ];congr 1;omega
 have hVQ:x<la→v*2^(x-2*s).toNat%Q≠0:=by
  intro hlt
  rw[←hQ,show(la-2*s).toNat=(x-2*s).toNat+(la-x).toNat by omega,qlg,qll v,Nat.mul_mod_mul_left]
  have hp:=qle (x-2*s).toNat
  obtain⟨j,hj⟩:∃j:Nat,(la-x).toNat=j+1:=⟨(la-x).toNat-1,by omega⟩
  rw[hj]
  have h2:v%2^(j+1)%2=1:=by
   rw[Nat.mod_mod_of_dvd _ (by rw[qlq];exact Nat.dvd_mul_left _ _)]
   exact hodd
  intro h0
  rcases Nat.mul_eq_zero.1 h0 with h0|h0
  ·omega
  ·rw[h0]at h2;simp at h2
 have hVQ2:¬x<la→v*2^(x-2*s).toNat%Q=0:=by
  intro hlt
  rw[←hQ,show(x-2*s).toNat=(x-la).toNat+(la-2*s).toNat by omega,qlg,←qlk,Nat.mul_mod_left]
 rw[msq h,msq (h+1),hQ2]
 rw[hQ]at hA
 generalize v*2^(x-2*s).toNat=T at *
 have hdm:=Nat.div_add_mod T Q
 have hml:T%Q<Q:=Nat.mod_lt _ hQp
 rw[←hA]at hdm
 have heq:=hR.eq
 obtain⟨b1,b2⟩:=hR.lt
 have c1:h*h*Q≤flo v (x-la)*Q:=Nat.mul_le_mul_right _ b1
 have c2:(flo v (x-la)+1)*Q≤(h+1)*(h+1)*Q:=Nat.mul_le_mul_right _ b2
 have c3:h*h*Q+l*Q=flo v (x-la)*Q:=by rw[←Nat.add_mul,heq]
 rw[Nat.add_mul,Nat.one_mul]at c2
 rw[qll]at hdm
 refine⟨by omega,by omega,?_⟩
 rw[←Bool.decide_or]
 congr 1
 apply propext
 constructor
 ·rintro(h1|h1)
  ·have:Q≤l*Q:=Nat.le_mul_of_pos_left _ (by omega)
   omega
  ·have:=hVQ h1
   have:=Nat.zero_le (l*Q)
   omega
 ·intro hne
  apply Decidable.byContradiction
  intro hn
  have n1:l=0:=by omega
  have n2:=hVQ2 (by omega)
  rw[n1]at c3
  omega
theorem qam (A B sh p:Nat)(hA:A≠0)(hB:B≠0)(h:bl B+p+2≤bl A+sh):p+2≤bl (A*2^sh/B):=by
 obtain⟨a1,a2,a3⟩:=qu A hA
 obtain⟨b1,b2,b3⟩:=qu B hB
 have h1:2^(p+1)≤A*2^sh/B:=by
  rw[Nat.le_div_iff_mul_le (by omega)]
  have h2:2^(p+1)*B≤2^(p+1)*2^bl B:=Nat.mul_le_mul_left _ (by omega)
  have h3:2^(bl A-1)*2^sh≤A*2^sh:=Nat.mul_le_mul_right _ a1
  rw[←qlg]at h2 h3
  have h4:2^(p+1+bl B)≤2^(bl A-1+sh):=qlh (by decide) (by omega)
  omega
 obtain⟨q1,q2,q3⟩:=qu (A*2^sh/B) (by have:=qle (p+1);omega)
 have:=(Nat.pow_lt_pow_iff_right (by decide:1<2)).1 (Nat.lt_of_le_of_lt h1 q2)
 omega
def rvq (B Nf G:Nat):Nat:=2*G+(if G*G*B=Nf then 0 else 1)
theorem VI {a b B:Nat}(h:a*a*B<b*b*B):a<b:=Zo (Nat.lt_of_mul_lt_mul_right h)
theorem Qq (B Nf G h W:Nat)(hB:0<B)(hW:0<W)(g1:G*G*B≤Nf)(g2:Nf<(G+1)*(G+1)*B)(h1:(h*W)*(h*W)*B≤Nf)(h2:Nf<((h+1)*W)*((h+1)*W)*B):h=rvq B Nf G/(2*W)∧decide (Nf≠(h*W)*(h*W)*B)=decide (rvq B Nf G%(2*W)≠0):=by
 have a1:=VI (Nat.lt_of_le_of_lt h1 g2)
 have a2:=VI (Nat.lt_of_le_of_lt g1 h2)
 have hh1:(h+1)*W=h*W+W:=by rw[Nat.add_mul,Nat.one_mul]
 rw[hh1]at a2
 have hv:rvq B Nf G=2*G∨rvq B Nf G=2*G+1:=by unfold rvq;split<;>omega
 have hm1:h*(2*W)=2*(h*W):=by rw[Nat.mul_left_comm]
 have hd:h=rvq B Nf G/(2*W):=by
  symm
  apply Nat.div_eq_of_lt_le
  ·rw[hm1];omega
  ·rw[Nat.add_mul,hm1];omega
 refine⟨hd,?_⟩
 have hdm:=Nat.div_add_mod (rvq B Nf G) (2*W)
 rw[←hd,qll,hm1]at hdm
 apply decide_eq_decide.2
 constructor
 ·intro hne h0
  rw[h0]at hdm
  have hG:G=h*W:=by omega
  have:rvq B Nf G=2*G:=by omega
  unfold rvq at this
  split at this
  ·rename_i hh;rw[←hG]at hne;exact hne hh.symm
  ·omega
 ·intro hne hT
  have hG:G=h*W:=by
   have:=VI (Nat.lt_of_le_of_lt g1 (show Nf<(h*W+1)*(h*W+1)*B by
    rw[hT]
    exact Nat.mul_lt_mul_of_pos_right (Nat.mul_self_lt_mul_self (by omega)) hB))
   omega
  have:rvq B Nf G=2*G:=by
   unfold rvq
   rw[if_pos (by rw[hG,hT])]
   rfl
  rw[this,hG]at hdm hne
  omega
theorem qgr (N Dd V o e1 h P:Nat)(hD:0<Dd)(hV:V=N/Dd)(ho:o≤1)(he:1≤e1)(hP:P=V*2^o)(h1:(h*2^e1)*(h*2^e1)≤P)(h2:P<((h+1)*2^e1)*((h+1)*2^e1)):(h*h*2^(2*e1-o)*Dd≤N∧N<(h+1)*(h+1)*2^(2*e1-o)*Dd)∧(decide (P≠(h*2^e1)*(h*2^e1))||decide (N%Dd≠0))=decide (N≠h*h*2^(2*e1-o)*Dd):=by
 have hsq:∀k:Nat,(k*2^e1)*(k*2^e1)=k*k*2^(2*e1-o)*2^o:=fun k=>by
  rw[Nat.mul_mul_mul_comm,←qlg,qlk (k*k),←qlg]
  congr 2
  omega
 rw[hsq]at h1 h2 ⊢
 rw[hP]at h1 h2 ⊢
 have hp:=qle o
 have c1:h*h*2^(2*e1-o)≤V:=Nat.le_of_mul_le_mul_right h1 hp
 have c2:V<(h+1)*(h+1)*2^(2*e1-o):=Nat.lt_of_mul_lt_mul_right h2
 generalize h*h*2^(2*e1-o)=C1 at *
 generalize (h+1)*(h+1)*2^(2*e1-o)=C2 at *
 have hdm:=Nat.div_add_mod N Dd
 have hml:=Nat.mod_lt N hD
 rw[←hV]at hdm
 refine⟨⟨?_,?_⟩,?_⟩
 ·have:=Nat.mul_le_mul_right Dd c1
  rw[qll Dd V]at hdm
  omega
 ·have:=Nat.mul_le_mul_right Dd (show V+1≤C2 from c2)
  rw[Nat.add_mul,Nat.one_mul]at this
  rw[qll Dd V]at hdm
  omega
 ·have e1':decide (V*2^o≠C1*2^o)=decide (V≠C1):=by
   apply decide_eq_decide.2
   constructor
   ·intro h e;rw[e]at h;exact h rfl
   ·intro h e;exact h (Nat.eq_of_mul_eq_mul_right hp e)
  rw[e1']
  by_cases hVC:V=C1
  ·rw[qlo (by simpa using hVC),Bool.false_or]
   apply decide_eq_decide.2
   rw[hVC,qll]at hdm
   omega
  ·rw[qln hVC,Bool.true_or]
   symm
   apply qln
   intro e
   have hlt:C1+1≤V:=by omega
   have:=Nat.mul_le_mul_right Dd hlt
   rw[Nat.add_mul,Nat.one_mul]at this
   rw[qll Dd V]at hdm
   omega
theorem Je (x y B:Nat)(k:Nat):x*2^k*(x*2^k)*B=x*x*B*2^(2*k):=by
 rw[Nat.mul_mul_mul_comm,←qlg,show k+k=2*k by omega,Nat.mul_right_comm]
theorem Zl (N X P:Nat)(hP:0<P):decide (N*P≠X*P)=decide (N≠X):=by
 apply decide_eq_decide.2
 constructor
 ·intro h e;rw[e]at h;exact h rfl
 ·intro h e;exact h (Nat.eq_of_mul_eq_mul_right hP e)
theorem qdu (M B s r:Nat)(hB:0<B)(h1:r*r≤M*2^(2*s)/B)(h2:M*2^(2*s)/B<(r+1)*(r+1)):r*r*B≤M*2^(2*s)∧M*2^(2*s)<(r+1)*(r+1)*B∧(decide (M*2^(2*s)%B≠0)||decide (M*2^(2*s)/B≠r*r))=decide (M*2^(2*s)≠r*r*B):=by
 generalize M*2^(2*s)=T at *
 have hdm:=Nat.div_add_mod T B
 have hml:=Nat.mod_lt T hB
 generalize r*r=C1 at *
 generalize (r+1)*(r+1)=C2 at *
 generalize T/B=Q at *
 generalize T%B=R at *
 refine⟨?_,?_,?_⟩
 ·have:=Nat.mul_le_mul_right B h1
  rw[qll B Q]at hdm
  omega
 ·have:=Nat.mul_le_mul_right B (show Q+1≤C2 from h2)
  rw[Nat.add_mul,Nat.one_mul]at this
  rw[qll B Q]at hdm
  omega
 ·by_cases hQ:Q=C1
  ·rw[qlo (show ¬Q≠C1 by simpa using hQ),Bool.or_false]
   apply decide_eq_decide.2
   rw[hQ,qll]at hdm
   omega
  ·rw[qln hQ,Bool.or_true]
   symm
   apply qln
   intro e
   have:=Nat.mul_le_mul_right B (show C1+1≤Q by omega)
   rw[Nat.add_mul,Nat.one_mul]at this
   rw[qll B Q]at hdm
   omega
end Go.Proofs.YtelbefihigkhjaaGreatDoor

namespace Go.Proofs.YtelbefihigkhjaaGreatDoor
open Go.ChangeShapes Go.WideShapes Go.ChangeAt Go.RowKit
set_option maxHeartbeats 16000000
set_option maxRecDepth 100000
set_option linter.unusedVariables false
set_option linter.unusedSimpArgs false
theorem qh2 (a b c d:Nat)(h:a+b=c+d):2*2^a*2^b=2^c*(2*2^d):=by
 rw[qlk,←qlg,Nat.mul_left_comm,←qlg,h]
theorem qi8 (n:Int)(hn:n=64∨n=32)(A B M sh:Nat)(xa xb e0 kp:Int)(hA0:A≠0)(hB0:B≠0)(hM:M=A*2^sh)(hkp:200000≤kp)(hkx:2000000≤xa-xb+2*kp)(hke:2000000≤e0+kp)(he0:xa-xb-(sh:Int)=2*e0)(G:Nat)(g1:G*G*B≤A*2^(xa-xb+2*kp).toNat)(g2:A*2^(xa-xb+2*kp).toNat<(G+1)*(G+1)*B)
  (s r:Nat) (hs:s≤40000) (hb:bl B+200≤bl M+2*s) (h1:r*r≤M*2^(2*s)/B) (h2:M*2^(2*s)/B<(r+1)*(r+1)) (more:Bool) (hm:more=(decide (M*2^(2*s)%B≠0)||decide (M*2^(2*s)/B≠r*r))) (u:Int) (hu:unz (qH n).toNat (qn n) (bl r) (e0-(s:Int))=u) (k F:Nat) (hk:flo r (e0-(s:Int)-u)=k) (hF:F=(u-qn n).toNat*cbn n+k):
  r≠0∧∃Q H,Cutz (cbn n) (2*2^(qn n+kp).toNat) (rvq B (A*2^(xa-xb+2*kp).toNat) G) k Q H F (decide (k%2=1)) (decide (flo r (e0-(s:Int)-u+1)%2=1)) (more||rst r (e0-(s:Int)-u+1)):=by
 have hBp:0<B:=by omega
 obtain⟨km1,km2,km3,km4⟩:=qj4 n hn
 obtain⟨d1,d2,d3⟩:=qdu M B s r hBp h1 h2
 have hM0:M≠0:=by rw[hM];exact Nat.mul_ne_zero hA0 (Nat.ne_of_gt (qle _))
 have hQb:=qam M B (2*s) 198 hM0 hB0 (by omega)
 have hrb:=Y6 (M*2^(2*s)/B) r 60 (by omega) (fun h=>by rw[h]at hQb;exact absurd hQb (by decide)) h2
 have hr0:r≠0:=fun h=>by rw[h]at hrb;exact absurd hrb (by decide)
 refine⟨hr0,?_⟩
 obtain⟨W,hW⟩:∃W:Nat,(e0-(s:Int)+kp).toNat=W:=⟨_,rfl⟩
 have eN:A*2^(xa-xb+2*kp).toNat=M*2^(2*s)*2^(2*W):=by
  rw[hM,qlk,qlk,←qlg,←qlg]
  congr 2
  omega
 have hp:=qle (2*W)
 have L:=Qq B (A*2^(xa-xb+2*kp).toNat) G r (2^W) hBp (qle _) g1 g2 (by rw[Je r 0 B W,eN];exact Nat.mul_le_mul_right _ d1) (by rw[Je (r+1) 0 B W,eN];exact Nat.mul_lt_mul_of_pos_right d2 hp)
 refine qb2 n hn r (e0-(s:Int)) (by omega) u hu _ _ (2*2^W) more (Nat.mul_pos (by decide) (qle _)) L.1 ?_ ?_ k F hk hF
 ·rw[←L.2,hm,d3,Je r 0 B W]
  conv=>rhs;rw[eN]
  rw[Zl _ _ _ hp]
 ·have hun:e0-(s:Int)+1≤u∧qn n≤u:=by
   obtain⟨q1,q2,q3⟩:=jR n hn
   unfold unz at hu
   omega
  exact qh2 _ _ _ _ (by omega)
theorem qgs (n:Int)(hn:n=64∨n=32)(a b:Nm)(ha:vld a=true)(hb:vld b=true)(ham:a.mag≠[])(hbm:b.mag≠[])(han:a.neg=false)(hbn:b.neg=false):∃(R:Nat) (o:Bool),R≤ifn n∧(-140≤dex 4 a b→dex 4 a b≤-110→R<ifn n)∧
  (∀(a1 a2:Option Addr) (c1 c2:Nat) (w:World),Tab w→Sl w (.slice a1 a.mag.length c1) a.mag→Sl w (.slice a2 b.mag.length c2) b.mag→Calls Tryz.prog 254 #[.agg #[.bool a.neg,.slice a1 a.mag.length c1,.int .i64 a.exp],.agg #[.bool b.neg,.slice a2 b.mag.length c2,.int .i64 b.exp],.int .i64 n,.int .i64 0] w fun e w'=>e=.returned (.tuple #[.int .i64 (R:Int),.bool o,.int .i64 0])∧Kept w w')∧
  (∀(a1 a2:Option Addr) (c1 c2:Nat) (w:World),RL w (.slice a1 a.mag.length c1) a.mag→RL w (.slice a2 b.mag.length c2) b.mag→Calls Tryz.prog 33 #[.agg #[.bool a.neg,.slice a1 a.mag.length c1,.int .i64 a.exp],.agg #[.bool b.neg,.slice a2 b.mag.length c2,.int .i64 b.exp],.int .i64 n] w fun e w'=>e=.returned (.int .i64 (R:Int))∧Kept w w'):=by
 obtain⟨r,h,l,rs,ex,un,m,k,F,hr,rval,re,H,hex,ex1,ex2,L,K⟩:=Ji n hn a b ha hb ham hbm han hbn
 obtain⟨da,A0,la,xa1,xa2⟩:=vR a ha ham
 obtain⟨db,B0,lb,xb1,xb2⟩:=vR b hb hbm
 obtain⟨p1,p2,p3,p4,p5,p6⟩:=qw a.neg a.mag a.exp ham ha
 obtain⟨q1,q2,q3,q4,q5,q6⟩:=qw b.neg b.mag b.exp hbm hb
 have hba:=qN _ _ (qV a.mag p2)
 have hbb:=qN _ _ (qV b.mag q2)
 obtain⟨km1,km2,km3,km4⟩:=qj4 n hn
 obtain⟨cb1,cb2⟩:=Jg n hn
 have hcp:0<cbn n:=by rw[cb1];exact qle _
 have hce:cbn n%2=0:=by rcases hn with rfl|rfl<;>rfl
 have hBp:0<nv b.mag:=by omega
 obtain⟨kp,hkp⟩:∃kp:Int,kp=8000000:=⟨_,rfl⟩
 obtain⟨s,hs⟩:∃s:Int,s=-3000000:=⟨_,rfl⟩
 have hdexb:-2900000≤dex 4 a b∧dex 4 a b≤2900000:=by unfold dex;omega
 obtain⟨G,lG,RG⟩:=qd0 (nv a.mag*2^(a.exp-b.exp+2*kp).toNat/nv b.mag)
 obtain⟨G1,G2⟩:=RG.lt
 have g1:G*G*nv b.mag≤nv a.mag*2^(a.exp-b.exp+2*kp).toNat:=(Nat.le_div_iff_mul_le hBp).1 G1
 have g2:nv a.mag*2^(a.exp-b.exp+2*kp).toNat<(G+1)*(G+1)*nv b.mag:=(Nat.div_lt_iff_lt_mul hBp).1 G2
 obtain⟨v1,v2⟩:=qgq 4 a b ha hb ham hbm s (by omega) (by omega)
 have rvn:r.mag≠[]:=fun h0=>by
  have:=H.low
  have h3:=H.rt.lt.1
  rw[h0]at h3
  have:flo (nv []) (r.exp-zk r)=0:=by unfold flo nv;split<;>simp
  rw[this]at h3
  have:h=0:=by
   rcases Nat.eq_zero_or_pos h with h4|h4
   ·exact h4
   ·have:=Nat.mul_pos h4 h4;omega
  have h5:=H.low
  rw[this]at h5
  exact absurd h5 (by decide)
 have rvv:=(YA _ _ _ _ hr).1
 obtain⟨s1,s2,s3,s4,s5,s6⟩:=qw r.neg r.mag r.exp rvn rvv
 have hev:=H.even
 have hrl:4≤zk r/2∧zk r/2≤5:=by omega
 obtain⟨t1,t2,t3⟩:=qal (nv r.mag) r.exp 0 (zk r) (zk r/2) h l (xz r.mag s2 s4) H.rt (by omega) (by omega) (by omega)
 rw[Int.mul_zero,Int.sub_zero,Int.sub_zero,rval]at t1 t2 t3
 obtain⟨e1,he1⟩:∃e1:Nat,(zk r/2).toNat=e1:=⟨_,rfl⟩
 obtain⟨o,ho⟩:∃o:Nat,(dex 4 a b%2).toNat=o:=⟨_,rfl⟩
 rw[he1,ho]at t1 t2 t3
 have hDp:0<nv b.mag*2^(dex 4 a b+b.exp-2*s).toNat:=Nat.mul_pos hBp (qle _)
 obtain⟨⟨c1',c2'⟩,c3'⟩:=qgr _ _ (dV 4 a b) o e1 h _ hDp v1 (by omega) (by omega) rfl t1 t2
 obtain⟨de,hde⟩:∃de:Nat,(a.exp-b.exp+2*kp).toNat-(a.exp-2*s).toNat=de:=⟨_,rfl⟩
 obtain⟨W,hW⟩:∃W:Nat,(ex+kp).toNat=W:=⟨_,rfl⟩
 have eN:nv a.mag*2^(a.exp-b.exp+2*kp).toNat=nv a.mag*2^(a.exp-2*s).toNat*2^de:=by
  rw[qlk,←qlg]
  congr 2
  omega
 have eX:∀x:Nat,x*2^W*(x*2^W)*nv b.mag=x*x*2^(2*e1-o)*(nv b.mag*2^(dex 4 a b+b.exp-2*s).toNat)*2^de:=fun x=>by
  rw[Je x 0 _ W,qlk (x*x),qlk (x*x),Nat.mul_left_comm (2^(2*e1-o)),qlk (x*x)]
  congr 1
  rw[qlk,←qlg,←qlg]
  congr 2
  omega
 have hp:=qle de
 have LD:=Qq (nv b.mag) (nv a.mag*2^(a.exp-b.exp+2*kp).toNat) G h (2^W) hBp (qle _) g1 g2 (by rw[eX,eN];exact Nat.mul_le_mul_right _ c1') (by rw[eX,eN];exact Nat.mul_lt_mul_of_pos_right c2' hp)
 have hrsP:(rs||drs 4 a b)=decide (rvq (nv b.mag) (nv a.mag*2^(a.exp-b.exp+2*kp).toNat) G%(2*2^W)≠0):=by
  rw[←LD.2,eX,H.rs,v2,t3,c3']
  conv=>rhs;rw[eN]
  rw[Zl _ _ _ hp]
 obtain⟨u1,u2,u3⟩:=Zm hn L H.low H.high (by decide)
 have hC:=QZ (cbn n) (2*2^(qn n+kp).toNat) (rvq (nv b.mag) (nv a.mag*2^(a.exp-b.exp+2*kp).toNat) G) (2*2^W) h (rs||drs 4 a b) (un-qn n).toNat m k F hcp hce (Nat.mul_pos (by decide) (qle _)) LD.1 hrsP L.hk L.hF u2 (by rcases u3 with h3|h3;left;omega;right;exact h3) (by
  have hm:=L.hm
  exact qh2 _ _ _ _ (by omega))
 obtain⟨R,hR⟩:∃R,mgz 0 false (ifn n) F (decide (k%2=1)) (decide (h/2^m%2=1)) ((rs||drs 4 a b)||h%2^m != 0)=R:=⟨_,rfl⟩
 have hRb:R≤ifn n:=by rw[←hR];exact qfj _ _ _ _ _ _ _
 have hpz:pz n (kyz false R)=(R:Int):=by
  unfold pz kyz
  rcases hn with rfl|rfl<;>simp<;>omega
 have hRl:-140≤dex 4 a b→dex 4 a b≤-110→R<ifn n:=fun hd1 hd2=>by
  have hF:F+1<ifn n:=by
   rw[L.hF]
   have hun:un≤-15:=by
    rw[L.hun]
    rcases hn with rfl|rfl
    ·have:qH 64=53:=rfl
     have:qn 64=-1074:=rfl
     omega
    ·have:qH 32=24:=rfl
     have:qn 32=-149:=rfl
     omega
   rcases hn with rfl|rfl
   ·have a1:cbn 64=4503599627370496:=rfl
    have a2:ifn 64=9218868437227405312:=rfl
    have a3:qn 64=-1074:=rfl
    rw[a1]at u2
    rw[a1,a2,a3]
    have:(un- -1074).toNat≤1059:=by omega
    have:=Nat.mul_le_mul_right 4503599627370496 this
    omega
   ·have a1:cbn 32=8388608:=rfl
    have a2:ifn 32=2139095040:=rfl
    have a3:qn 32=-149:=rfl
    rw[a1]at u2
    rw[a1,a2,a3]
    have:(un- -149).toNat≤134:=by omega
    have:=Nat.mul_le_mul_right 8388608 this
    omega
  rw[←hR]
  unfold mgz
  have:∀b:Bool,b.toNat≤1:=fun b=>by cases b<;>decide
  have:=this (awz 0 false (decide (k%2=1)) (decide (h/2^m%2=1)) ((rs||drs 4 a b)||h%2^m != 0))
  rw[if_pos (by omega)]
  omega
 have K0:=K 0 (.inl rfl)
 rw[hR,hpz]at K0
 refine⟨R,_,hRb,hRl,K0,fun a1 a2 c1 c2 w h1 h2=>?_⟩
 ·obtain⟨sh,hsh⟩:∃sh:Nat,sh=((a.exp-b.exp)%2).toNat:=⟨_,rfl⟩
  obtain⟨e0,he0⟩:∃e0:Int,a.exp-b.exp-(sh:Int)=2*e0:=⟨(a.exp-b.exp)/2,by omega⟩
  have hcut:∀(s r:Nat) (more:Bool),bl (nv b.mag)+200≤bl (nv a.mag*2^sh)+2*s→s≤40000→r*r≤nv a.mag*2^sh*2^(2*s)/nv b.mag→nv a.mag*2^sh*2^(2*s)/nv b.mag<(r+1)*(r+1)→more=(decide (nv a.mag*2^sh*2^(2*s)%nv b.mag≠0)||decide (nv a.mag*2^sh*2^(2*s)/nv b.mag≠r*r))→∀u k' F',unz (qH n).toNat (qn n) (bl r) (e0-(s:Int))=u→flo r (e0-(s:Int)-u)=k'→F'=(u-qn n).toNat*cbn n+k'→r≠0∧mgz 0 false (ifn n) F' (decide (k'%2=1)) (decide (flo r (e0-(s:Int)-u+1)%2=1)) (more||rst r (e0-(s:Int)-u+1))=R:=fun s' r' more hb1 hb2 hb3 hb4 hb5 u k' F' hu hk hF=>by
   obtain⟨w1,Q,H',w2⟩:=qi8 n hn (nv a.mag) (nv b.mag) _ sh a.exp b.exp e0 kp A0 B0 rfl (by omega) (by omega) (by omega) he0 G g1 g2 s' r' hb2 hb1 hb3 hb4 more hb5 u hu k' F' hk hF
   refine⟨w1,?_⟩
   rw[←hR]
   exact(Y5 w2 hC (qkl n hn) 0 (.inl rfl) false (ifn n)).1
  have hbla:bl (nv a.mag)≤60000:=by omega
  have hblb:bl (nv b.mag)≤60000:=by omega
  have hla:RL w (.slice a1 a.mag.length c1) (digs (nv a.mag)):=by rw[da];exact h1
  have hlb:RL w (.slice a2 b.mag.length c2) (digs (nv b.mag)):=by rw[db];exact h2
  obtain⟨y5,hy5⟩:∃y:Nat,y=8000:=⟨_,rfl⟩
  have hrl:∀(s r:Nat),s≤40000→r*r≤nv a.mag*2^sh*2^(2*s)/nv b.mag→(digs r).length<30000:=fun s' r' hs' hr'=>by
   have h3:r'≤nv a.mag*2^sh*2^(2*s'):=by
    have:=Nat.div_le_self (nv a.mag*2^sh*2^(2*s')) (nv b.mag)
    have:r'≤r'*r':=by
     rcases Nat.eq_zero_or_pos r' with e|e
     ·rw[e];exact Nat.zero_le _
     ·exact Nat.le_mul_of_pos_left _ e
    omega
   have h4:nv a.mag*2^sh*2^(2*s')<2^(30*y5):=by
    rw[qlk,←qlg]
    refine qlf (Nat.mul_lt_mul_of_pos_right (qu (nv a.mag) A0).2.1 (qle _)) ?_
    rw[←qlg]
    exact qlh (by decide) (by omega)
   have:=ql r' y5 (Nat.lt_of_le_of_lt h3 h4)
   omega
  rcases hn with rfl|rfl
  ·have k1:(qH 64).toNat=53:=rfl
   have k2:qn 64=-1074:=rfl
   have k3:cbn 64=4503599627370496:=rfl
   have k4:ifn 64=9218868437227405312:=rfl
   simp only[k1,k2,k3,k4]at hcut
   refine yV 64 _ _ _ _ _ _ _ _ _ a.neg b.neg a1 a2 a.mag.length c1 b.mag.length c2 (List.length_pos_iff.2 ham) a.exp b.exp ⟨xa1,xa2⟩ ⟨xb1,xb2⟩ (nv a.mag) (nv b.mag) _ sh e0 (R:Int) A0 B0 hbla hblb hsh he0 rfl w hla hlb (fun u=>X8 64 (.inl rfl) u) (fun u s' r' v more z1 z2 z3 z4 z5 z6=>?_)
   obtain⟨r0,hcc⟩:=hcut s' r' more z1 z2 z3 z4 z5 _ _ _ rfl rfl rfl
   refine(Yn 0 (.inl rfl) false r' r0 (e0-(s':Int)) more v u z6 (hrl s' r' z2 z3) (by omega) (by omega) _ rfl _ rfl _ rfl _ _ _ rfl rfl rfl 0 rfl).mono ?_
   rintro e w' ⟨he,hk⟩
   rw[Int.zero_add]at he
   have hz:(mgz 0 false 9218868437227405312 _ _ _ _:Nat)=R:=hcc
   rw[hz]at he
   exact⟨_,he,hk⟩
  ·have k1:(qH 32).toNat=24:=rfl
   have k2:qn 32=-149:=rfl
   have k3:cbn 32=8388608:=rfl
   have k4:ifn 32=2139095040:=rfl
   simp only[k1,k2,k3,k4]at hcut
   refine yV 32 _ _ _ _ _ _ _ _ _ a.neg b.neg a1 a2 a.mag.length c1 b.mag.length c2 (List.length_pos_iff.2 ham) a.exp b.exp ⟨xa1,xa2⟩ ⟨xb1,xb2⟩ (nv a.mag) (nv b.mag) _ sh e0 (R:Int) A0 B0 hbla hblb hsh he0 rfl w hla hlb (fun u=>X8 32 (.inr rfl) u) (fun u s' r' v more z1 z2 z3 z4 z5 z6=>?_)
   obtain⟨r0,hcc⟩:=hcut s' r' more z1 z2 z3 z4 z5 _ _ _ rfl rfl rfl
   refine(Yo 0 (.inl rfl) false r' r0 (e0-(s':Int)) more v u z6 (hrl s' r' z2 z3) (by omega) (by omega) _ rfl _ rfl _ rfl _ _ _ rfl rfl rfl 0 rfl).mono ?_
   rintro e w' ⟨he,hk⟩
   rw[Int.zero_add]at he
   have hz:(mgz 0 false 2139095040 _ _ _ _:Nat)=R:=hcc
   rw[hz]at he
   exact⟨_,he,hk⟩
end Go.Proofs.YtelbefihigkhjaaGreatDoor

namespace Go.Proofs.YtelbefihigkhjaaGreatDoor
open Go.ChangeShapes Go.WideShapes Go.ChangeAt Go.RowKit
set_option maxHeartbeats 16000000
set_option maxRecDepth 100000
set_option linter.unusedVariables false
set_option linter.unusedSimpArgs false
end Go.Proofs.YtelbefihigkhjaaGreatDoor

namespace Go.Proofs.YtelbefihigkhjaaGreatDoor
open Go.ChangeShapes Go.WideShapes Go.ChangeAt Go.RowKit
set_option maxHeartbeats 16000000
set_option maxRecDepth 100000
set_option linter.unusedVariables false
set_option linter.unusedSimpArgs false
structure GrwS (S:List Nat) (w w':World):Prop where
 os:w'.os=w.os
 tape:w'.tape=w.tape
 output:w'.output=w.output
 size:w.heap.size≤w'.heap.size
 block:∀i,i<w.heap.size→i∉S→w'.heap[i]?=w.heap[i]?
 frozen:∀a,w'.frozen? a=w.frozen? a
theorem GrwS.refl (S:List Nat)(w:World):GrwS S w w:=⟨rfl,rfl,rfl,qlj _,fun _ _ _=>rfl,fun _=>rfl⟩
theorem GrwS.trans {S:List Nat}{a b c:World}(h:GrwS S a b)(k:GrwS S b c):GrwS S a c:=
 ⟨k.os.trans h.os,k.tape.trans h.tape,k.output.trans h.output,qlp h.size k.size,fun i hi hn=>(k.block i (qlf hi h.size) hn).trans (h.block i hi hn),fun x=>(k.frozen x).trans (h.frozen x)⟩
theorem GrwS.mono {S S':List Nat}{a b:World}(h:GrwS S a b)(hs:∀i∈S,i∈S'):GrwS S' a b:=
 ⟨h.os,h.tape,h.output,h.size,fun i hi hn=>h.block i hi (fun hm=>hn (hs i hm)),h.frozen⟩
theorem GrwS.then {S S':List Nat}{a b c:World}(h:GrwS S a b)(k:GrwS S' b c)(hs:∀i∈S',i∈S∨a.heap.size≤i):GrwS S a c:=
 ⟨k.os.trans h.os,k.tape.trans h.tape,k.output.trans h.output,qlp h.size k.size,fun i hi hn=>(k.block i (qlf hi h.size) (fun hm=>by rcases hs i hm with h1|h1;exact hn h1;omega)).trans (h.block i hi hn),fun x=>(k.frozen x).trans (h.frozen x)⟩
theorem Kept.toS {a b:World}(S:List Nat)(h:Kept a b):GrwS S a b:=⟨h.below.os,h.below.tape,h.below.output,h.below.size,fun i hi _=>h.below.block i hi,h.frozen⟩
theorem Grw.toS {g:Nat}{a b:World}(h:Grw g a b):GrwS [g] a b:=⟨h.grown.os,h.grown.tape,h.grown.output,h.grown.size,fun i hi hn=>h.grown.block i hi (by simpa using hn),h.frozen⟩
theorem Kept.grwS {S:List Nat}{a b c:World}(h:Kept a b)(hS:∀i∈S,a.heap.size≤i)(k:GrwS S b c):Kept a c:=
 ⟨⟨k.os.trans h.below.os,k.tape.trans h.below.tape,k.output.trans h.below.output,qlp h.below.size k.size,fun i hi=>(k.block i (qlf hi h.below.size) (fun hm=>by have:=hS i hm;omega)).trans (h.below.block i hi)⟩,fun x=>(k.frozen x).trans (h.frozen x)⟩
theorem GrwS.setCell {S:List Nat}{a b:World}(h:GrwS S a b){p:Addr}(hp:p.block∈S∨a.heap.size≤p.block)(u:Value):GrwS S a (b.setCell p u):=
 ⟨h.os,h.tape,h.output,by simpa using h.size,fun i hi hn=>(Below.heap_setCell b p u i (fun e=>by subst e;rcases hp with h1|h1;exact hn h1;omega)).trans (h.block i hi hn),fun x=>(World.frozen?_setCell _ _ _ _).trans (h.frozen x)⟩
def blk (v:Value):List Nat:=match v with
 | .slice (some a) _ _=>[a.block]
 |_=>[]
theorem OwnV.grwS {S:List Nat}{w w':World}{g cap:Nat}{e:TypeId}{V:List Value}(h:OwnV w g cap e V)(k:GrwS S w w')(hne:g∉S):OwnV w' g cap e V:=by
 have hl:=h.lt
 obtain⟨cur,hg,r⟩:=h
 exact⟨cur,(k.block g hl hne).trans hg,r⟩
theorem Rw.lt {w:World}{v:Value}{e:TypeId}{V:List Value}(h:Rw w v e V):∀b∈blk v,b<w.heap.size:=by
 rcases h with ⟨-,rfl⟩|⟨g,cap,rfl,ho⟩
 ·intro b hb;cases hb
 ·intro b hb
  obtain rfl:b=g:=by simpa [blk] using hb
  exact ho.lt
theorem Rw.grwS {S:List Nat}{w w':World}{v:Value}{e:TypeId}{V:List Value}(h:Rw w v e V)(k:GrwS S w w')(hn:∀b∈blk v,b∉S):Rw w' v e V:=by
 rcases h with h|⟨g,cap,rfl,ho⟩
 ·exact .inl h
 ·exact .inr ⟨g,cap,rfl,ho.grwS k (hn g (by simp[blk]))⟩
theorem Rw.kept {w w':World}{v:Value}{e:TypeId}{V:List Value}(h:Rw w v e V)(k:Kept w w'):Rw w' v e V:=h.grwS (k.toS []) (fun _ _ h=>by cases h)
theorem Rw.sl {w:World}{v:Value}{L:List Int}(h:Rw w v 3 (L.map (Value.int .i64))):Sl w v L:=by
 rcases h with ⟨e,rfl⟩|⟨g,cap,rfl,ho⟩
 ·obtain rfl:L=[]:=by simpa using e
  exact⟨none,0,rfl,qlj _,by simp[maxLen],fun h=>absurd rfl h⟩
 ·have:=(own_v.2 ho).sl
  rw[List.length_map]
  exact this
theorem Rw.shape {w:World}{v:Value}{e:TypeId}{V:List Value}(h:Rw w v e V):∃ao c,v=.slice ao V.length c:=by
 rcases h with ⟨rfl,rfl⟩|⟨g,cap,rfl,ho⟩
 ·exact⟨_,_,rfl⟩
 ·exact⟨_,_,rfl⟩
abbrev qld (L:List Int):List Value:=L.map (Value.int .i64)
end Go.Proofs.YtelbefihigkhjaaGreatDoor
namespace Go.Proofs.YtelbefihigkhjaaGreatDoor
open Go.ChangeShapes Go.WideShapes Go.ChangeAt Go.RowKit
set_option maxHeartbeats 16000000
set_option maxRecDepth 100000
set_option linter.unusedVariables false
set_option linter.unusedSimpArgs false
theorem Sl.shape {w:World}{v:Value}{L:List Int}(h:Sl w v L):∃ao c,v=.slice ao L.length c:=by
 obtain⟨ao,c,e,-⟩:=h
 exact⟨ao,c,e⟩
end Go.Proofs.YtelbefihigkhjaaGreatDoor
namespace Go.Proofs.YtelbefihigkhjaaGreatDoor
open Go.ChangeShapes Go.WideShapes Go.ChangeAt Go.RowKit
set_option maxHeartbeats 16000000
set_option maxRecDepth 100000
set_option linter.unusedVariables false
set_option linter.unusedSimpArgs false
end Go.Proofs.YtelbefihigkhjaaGreatDoor
namespace Go.Proofs.YtelbefihigkhjaaGreatDoor
open Go.ChangeShapes Go.WideShapes Go.ChangeAt Go.RowKit
set_option maxHeartbeats 16000000
set_option maxRecDepth 100000
set_option linter.unusedVariables false
set_option linter.unusedSimpArgs false
def qi1 (M:Nat→List Int)(i:Nat)(L:List Int):Nat→List Int:=fun j=>if j=i then L else M j
def Mk (n:Nat→Nat)(M:Nat→List Int)(k j:Nat):Prop:=(∀i,i<k→∀t,t<n i→(M i).getD t 0=-2-(i:Int))∧∀t,t<j→(M k).getD t 0=-2-(k:Int)
theorem Mk.start (n:Nat→Nat)(M:Nat→List Int):Mk n M 0 0:=⟨fun i h=>by omega,fun t h=>by omega⟩
theorem Mk.step {n:Nat→Nat}{M:Nat→List Int}{k j:Nat}(h:Mk n M k j)(hj:j<(M k).length):Mk n (qi1 M k ((M k).set j (-2-(k:Int)))) k (j+1):=by
 refine⟨fun i hi t ht=>?_,fun t ht=>?_⟩
 ·unfold qi1
  rw[if_neg (by omega)]
  exact h.1 i hi t ht
 ·unfold qi1
  rw[if_pos rfl,qli,List.getElem?_set]
  split
  ·rfl
  ·rw[←qli]
   exact h.2 t (by omega)
theorem Mk.next {n:Nat→Nat}{M:Nat→List Int}{k:Nat}(h:Mk n M k (n k)):Mk n M (k+1) 0:=by
 refine⟨fun i hi t ht=>?_,fun t ht=>by omega⟩
 by_cases e:i=k
 ·subst e;exact h.2 t ht
 ·exact h.1 i (by omega) t ht
end Go.Proofs.YtelbefihigkhjaaGreatDoor

namespace Go.Proofs.YtelbefihigkhjaaGreatDoor
open Go.ChangeShapes Go.WideShapes Go.ChangeAt Go.RowKit
set_option maxHeartbeats 16000000
set_option maxRecDepth 100000
set_option linter.unusedVariables false
set_option linter.unusedSimpArgs false
end Go.Proofs.YtelbefihigkhjaaGreatDoor

namespace Go.Proofs.YtelbefihigkhjaaGreatDoor
open Go.ChangeShapes Go.WideShapes Go.ChangeAt Go.RowKit
set_option maxHeartbeats 16000000
set_option maxRecDepth 100000
set_option linter.unusedVariables false
set_option linter.unusedSimpArgs false
theorem NumAt.shape {w:World}{v:Value}{x:Nm}(h:NumAt w v x):∃ao c,v=.agg #[.bool x.neg,.slice ao x.mag.length c,.int .i64 x.exp]:=by
 obtain⟨s,rfl,ao,c,rfl,-⟩:=h
 exact⟨ao,c,rfl⟩
end Go.Proofs.YtelbefihigkhjaaGreatDoor
namespace Go.Proofs.YtelbefihigkhjaaGreatDoor
open Go.ChangeShapes Go.WideShapes Go.ChangeAt Go.RowKit
set_option maxHeartbeats 16000000
set_option maxRecDepth 100000
set_option linter.unusedVariables false
set_option linter.unusedSimpArgs false
theorem Qk (ng:Bool)(ao:Option Addr)(n c:Nat)(ex:Int)(w:World):
  Calls Tryz.prog 203 #[.agg #[.bool ng,.slice ao n c,.int .i64 ex]] w fun e w'=>e=.returned (.agg #[.bool (if n=0 then ng else !ng),.slice ao n c,.int .i64 ex])∧Kept w w':=by
 have hK:Kept w ((w.alloc (.cells #[.bool ng,.slice ao n c,.int .i64 ex] 78)).alloc zc):=((qlv w).alloc _ _).alloc _ _
 rcases n with _|n
 all_goals
  go_enter Tryz.func203,Tryz.ntmps203
  go_wp2
 ·exact qlu (v:=.agg #[.bool ng,.slice ao 0 c,.int .i64 ex]) (by simp[results,Tryz.results203,go_sem]) rfl ⟨rfl,((qlv w).alloc _ _).alloc _ _⟩
 ·exact qlu (v:=.agg #[.bool (!ng),.slice ao (n+1) c,.int .i64 ex]) (by simp[results,Tryz.results203,go_sem]) rfl ⟨rfl,((qlv w).alloc _ _).alloc _ _⟩
end Go.Proofs.YtelbefihigkhjaaGreatDoor
namespace Go.Proofs.YtelbefihigkhjaaGreatDoor
open Go.ChangeShapes Go.WideShapes Go.ChangeAt Go.RowKit
set_option maxHeartbeats 16000000
set_option maxRecDepth 100000
set_option linter.unusedVariables false
set_option linter.unusedSimpArgs false
end Go.Proofs.YtelbefihigkhjaaGreatDoor
namespace Go.Proofs.YtelbefihigkhjaaGreatDoor
open Go.ChangeShapes Go.WideShapes Go.ChangeAt Go.RowKit
set_option maxHeartbeats 16000000
set_option maxRecDepth 100000
set_option linter.unusedVariables false
set_option linter.unusedSimpArgs false
end Go.Proofs.YtelbefihigkhjaaGreatDoor
