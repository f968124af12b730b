/-  -/
import Derived.Test.YtnniljhdcplkgaaGreatDoorWs30
import Derived.Test.YtnniljhdcplkgaaGreatDoorWs11
namespace Go.Proofs.YtnniljhdcplkgaaGreatDoor
open Go.ChangeShapes Go.WideShapes Go.ChangeAt Go.RowKit
set_option maxHeartbeats 16000000
set_option maxRecDepth 100000
set_option linter.unusedVariables false
set_option linter.unusedSimpArgs false
theorem pw_eq (a b c d:Nat)(h:a+b=c+d):2*2^a*2^b=2^c*(2*2^d):=by
 rw[Nat.mul_assoc,←Nat.pow_add,Nat.mul_left_comm,←Nat.pow_add,h]
theorem rq_cut (n:Int)(hn:n=64∨n=32)(A B M sh:Nat)(xa xb e0 kp:Int)(hA0:A≠0)(hB0:B≠0)(hM:M=A*2^sh)(hkp:200000≤kp)(hkx:2000000≤xa-xb+2*kp)(hke:2000000≤e0+kp)(he0:xa-xb-(sh:Int)=2*e0)(G:Nat)(g1:G*G*B≤A*2^(xa-xb+2*kp).toNat)(g2:A*2^(xa-xb+2*kp).toNat<(G+1)*(G+1)*B)
  (s r:Nat) (hs:s≤40000) (hb:bl B+200≤bl M+2*s) (h1:r*r≤M*2^(2*s)/B) (h2:M*2^(2*s)/B<(r+1)*(r+1)) (more:Bool) (hm:more=(decide (M*2^(2*s)%B≠0)||decide (M*2^(2*s)/B≠r*r))) (u:Int) (hu:unz (kprec n).toNat (kleast n) (bl r) (e0-(s:Int))=u) (k F:Nat) (hk:flo r (e0-(s:Int)-u)=k) (hF:F=(u-kleast n).toNat*cbn n+k):
  r≠0∧∃Q H,Cutz (cbn n) (2*2^(kleast n+kp).toNat) (rvq B (A*2^(xa-xb+2*kp).toNat) G) k Q H F (decide (k%2=1)) (decide (flo r (e0-(s:Int)-u+1)%2=1)) (more||rst r (e0-(s:Int)-u+1)):=by
 have hBp:0<B:=by omega
 obtain⟨km1,km2,km3,km4⟩:=kmax n hn
 obtain⟨d1,d2,d3⟩:=doc_side M B s r hBp h1 h2
 have hM0:M≠0:=by rw[hM];exact Nat.mul_ne_zero hA0 (Nat.ne_of_gt (Nat.two_pow_pos _))
 have hQb:=quot_bits M B (2*s) 198 hM0 hB0 (by omega)
 have hrb:=root_bits (M*2^(2*s)/B) r 60 (by omega) (fun h=>by rw[h]at hQb;exact absurd hQb (by decide)) h2
 have hr0:r≠0:=fun h=>by rw[h]at hrb;exact absurd hrb (by decide)
 refine⟨hr0,?_⟩
 obtain⟨W,hW⟩:∃W:Nat,(e0-(s:Int)+kp).toNat=W:=⟨_,rfl⟩
 have eN:A*2^(xa-xb+2*kp).toNat=M*2^(2*s)*2^(2*W):=by
  rw[hM,Nat.mul_assoc,Nat.mul_assoc,←Nat.pow_add,←Nat.pow_add]
  congr 2
  omega
 have hp:=Nat.two_pow_pos (2*W)
 have L:=rootq_lead B (A*2^(xa-xb+2*kp).toNat) G r (2^W) hBp (Nat.two_pow_pos _) g1 g2 (by rw[pow_sq r 0 B W,eN];exact Nat.mul_le_mul_right _ d1) (by rw[pow_sq (r+1) 0 B W,eN];exact Nat.mul_lt_mul_of_pos_right d2 hp)
 refine doc_cutz n hn r (e0-(s:Int)) (by omega) u hu _ _ (2*2^W) more (Nat.mul_pos (by decide) (Nat.two_pow_pos _)) L.1 ?_ ?_ k F hk hF
 ·rw[←L.2,hm,d3,pow_sq r 0 B W]
  conv=>rhs;rw[eN]
  rw[scale_dec _ _ _ hp]
 ·have hun:e0-(s:Int)+1≤u∧kleast n≤u:=by
   obtain⟨q1,q2,q3⟩:=kp_toNat n hn
   unfold unz at hu
   omega
  exact pw_eq _ _ _ _ (by omega)
theorem rq_both (n:Int)(hn:n=64∨n=32)(a b:Nm)(ha:vld a=true)(hb:vld b=true)(ham:a.mag≠[])(hbm:b.mag≠[])(han:a.neg=false)(hbn:b.neg=false):∃(R:Nat) (o:Bool),R≤ifn n∧(-140≤dex 4 a b→dex 4 a b≤-110→R<ifn n)∧
  (∀(a1 a2:Option Addr) (c1 c2:Nat) (w:World),Tab w→Sl w (.slice a1 a.mag.length c1) a.mag→Sl w (.slice a2 b.mag.length c2) b.mag→Calls Tryz.prog 120 #[.agg #[.bool a.neg,.slice a1 a.mag.length c1,.int .i64 a.exp],.agg #[.bool b.neg,.slice a2 b.mag.length c2,.int .i64 b.exp],.int .i64 n,.int .i64 0] w fun e w'=>e=.returned (.tuple #[.int .i64 (R:Int),.bool o,.int .i64 0])∧Kept w w')∧
  (∀(a1 a2:Option Addr) (c1 c2:Nat) (w:World),RL w (.slice a1 a.mag.length c1) a.mag→RL w (.slice a2 b.mag.length c2) b.mag→Calls Tryz.prog 34 #[.agg #[.bool a.neg,.slice a1 a.mag.length c1,.int .i64 a.exp],.agg #[.bool b.neg,.slice a2 b.mag.length c2,.int .i64 b.exp],.int .i64 n] w fun e w'=>e=.returned (.int .i64 (R:Int))∧Kept w w'):=by
 obtain⟨r,h,l,rs,ex,un,m,k,F,hr,rval,re,H,hex,ex1,ex2,L,K⟩:=rootquot_any n hn a b ha hb ham hbm han hbn
 obtain⟨da,A0,la,xa1,xa2⟩:=vld_digs a ha ham
 obtain⟨db,B0,lb,xb1,xb2⟩:=vld_digs b hb hbm
 obtain⟨p1,p2,p3,p4,p5,p6⟩:=vld_some a.neg a.mag a.exp ham ha
 obtain⟨q1,q2,q3,q4,q5,q6⟩:=vld_some b.neg b.mag b.exp hbm hb
 have hba:=bl_le _ _ (nv_lt a.mag p2)
 have hbb:=bl_le _ _ (nv_lt b.mag q2)
 obtain⟨km1,km2,km3,km4⟩:=kmax n hn
 obtain⟨cb1,cb2⟩:=cbn_pow n hn
 have hcp:0<cbn n:=by rw[cb1];exact Nat.two_pow_pos _
 have hce:cbn n%2=0:=by rcases hn with rfl|rfl<;>rfl
 have hBp:0<nv b.mag:=by omega
 obtain⟨kp,hkp⟩:∃kp:Int,kp=8000000:=⟨_,rfl⟩
 obtain⟨s,hs⟩:∃s:Int,s=-3000000:=⟨_,rfl⟩
 have hdexb:-2900000≤dex 4 a b∧dex 4 a b≤2900000:=by unfold dex;omega
 obtain⟨G,lG,RG⟩:=rtz_ex (nv a.mag*2^(a.exp-b.exp+2*kp).toNat/nv b.mag)
 obtain⟨G1,G2⟩:=RG.lt
 have g1:G*G*nv b.mag≤nv a.mag*2^(a.exp-b.exp+2*kp).toNat:=(Nat.le_div_iff_mul_le hBp).1 G1
 have g2:nv a.mag*2^(a.exp-b.exp+2*kp).toNat<(G+1)*(G+1)*nv b.mag:=(Nat.div_lt_iff_lt_mul hBp).1 G2
 obtain⟨v1,v2⟩:=div_val 4 a b ha hb ham hbm s (by omega) (by omega)
 have rvn:r.mag≠[]:=fun h0=>by
  have:=H.low
  have h3:=H.rt.lt.1
  rw[h0]at h3
  have:flo (nv []) (r.exp-rlast r)=0:=by unfold flo nv;split<;>simp
  rw[this]at h3
  have:h=0:=by
   rcases Nat.eq_zero_or_pos h with h4|h4
   ·exact h4
   ·have:=Nat.mul_pos h4 h4;omega
  have h5:=H.low
  rw[this]at h5
  exact absurd h5 (by decide)
 have rvv:=(frm_vld _ _ _ _ hr).1
 obtain⟨s1,s2,s3,s4,s5,s6⟩:=vld_some r.neg r.mag r.exp rvn rvv
 have hev:=H.even
 have hrl:4≤rlast r/2∧rlast r/2≤5:=by omega
 obtain⟨t1,t2,t3⟩:=root_prog (nv r.mag) r.exp 0 (rlast r) (rlast r/2) h l (nv_odd r.mag s2 s4) H.rt (by omega) (by omega) (by omega)
 rw[Int.mul_zero,Int.sub_zero,Int.sub_zero,rval]at t1 t2 t3
 obtain⟨e1,he1⟩:∃e1:Nat,(rlast r/2).toNat=e1:=⟨_,rfl⟩
 obtain⟨o,ho⟩:∃o:Nat,(dex 4 a b%2).toNat=o:=⟨_,rfl⟩
 rw[he1,ho]at t1 t2 t3
 have hDp:0<nv b.mag*2^(dex 4 a b+b.exp-2*s).toNat:=Nat.mul_pos hBp (Nat.two_pow_pos _)
 obtain⟨⟨c1',c2'⟩,c3'⟩:=rq_prog _ _ (dV 4 a b) o e1 h _ hDp v1 (by omega) (by omega) rfl t1 t2
 obtain⟨de,hde⟩:∃de:Nat,(a.exp-b.exp+2*kp).toNat-(a.exp-2*s).toNat=de:=⟨_,rfl⟩
 obtain⟨W,hW⟩:∃W:Nat,(ex+kp).toNat=W:=⟨_,rfl⟩
 have eN:nv a.mag*2^(a.exp-b.exp+2*kp).toNat=nv a.mag*2^(a.exp-2*s).toNat*2^de:=by
  rw[Nat.mul_assoc,←Nat.pow_add]
  congr 2
  omega
 have eX:∀x:Nat,x*2^W*(x*2^W)*nv b.mag=x*x*2^(2*e1-o)*(nv b.mag*2^(dex 4 a b+b.exp-2*s).toNat)*2^de:=fun x=>by
  rw[pow_sq x 0 _ W,Nat.mul_assoc (x*x),Nat.mul_assoc (x*x),Nat.mul_left_comm (2^(2*e1-o)),Nat.mul_assoc (x*x)]
  congr 1
  rw[Nat.mul_assoc,←Nat.pow_add,←Nat.pow_add]
  congr 2
  omega
 have hp:=Nat.two_pow_pos de
 have LD:=rootq_lead (nv b.mag) (nv a.mag*2^(a.exp-b.exp+2*kp).toNat) G h (2^W) hBp (Nat.two_pow_pos _) g1 g2 (by rw[eX,eN];exact Nat.mul_le_mul_right _ c1') (by rw[eX,eN];exact Nat.mul_lt_mul_of_pos_right c2' hp)
 have hrsP:(rs||drs 4 a b)=decide (rvq (nv b.mag) (nv a.mag*2^(a.exp-b.exp+2*kp).toNat) G%(2*2^W)≠0):=by
  rw[←LD.2,eX,H.rs,v2,t3,c3']
  conv=>rhs;rw[eN]
  rw[scale_dec _ _ _ hp]
 obtain⟨u1,u2,u3⟩:=ld_bounds hn L H.low H.high (by decide)
 have hC:=cutz_lead (cbn n) (2*2^(kleast n+kp).toNat) (rvq (nv b.mag) (nv a.mag*2^(a.exp-b.exp+2*kp).toNat) G) (2*2^W) h (rs||drs 4 a b) (un-kleast n).toNat m k F hcp hce (Nat.mul_pos (by decide) (Nat.two_pow_pos _)) LD.1 hrsP L.hk L.hF u2 (by rcases u3 with h3|h3;left;omega;right;exact h3) (by
  have hm:=L.hm
  exact pw_eq _ _ _ _ (by omega))
 obtain⟨R,hR⟩:∃R,mgz 0 false (ifn n) F (decide (k%2=1)) (decide (h/2^m%2=1)) ((rs||drs 4 a b)||h%2^m != 0)=R:=⟨_,rfl⟩
 have hRb:R≤ifn n:=by rw[←hR];exact mgz_le _ _ _ _ _ _ _
 have hpz:pz n (kyz false R)=(R:Int):=by
  unfold pz kyz
  rcases hn with rfl|rfl<;>simp<;>omega
 have hRl:-140≤dex 4 a b→dex 4 a b≤-110→R<ifn n:=fun hd1 hd2=>by
  have hF:F+1<ifn n:=by
   rw[L.hF]
   have hun:un≤-15:=by
    rw[L.hun]
    rcases hn with rfl|rfl
    ·have:kprec 64=53:=rfl
     have:kleast 64=-1074:=rfl
     omega
    ·have:kprec 32=24:=rfl
     have:kleast 32=-149:=rfl
     omega
   rcases hn with rfl|rfl
   ·have a1:cbn 64=4503599627370496:=rfl
    have a2:ifn 64=9218868437227405312:=rfl
    have a3:kleast 64=-1074:=rfl
    rw[a1]at u2
    rw[a1,a2,a3]
    have:(un- -1074).toNat≤1059:=by omega
    have:=Nat.mul_le_mul_right 4503599627370496 this
    omega
   ·have a1:cbn 32=8388608:=rfl
    have a2:ifn 32=2139095040:=rfl
    have a3:kleast 32=-149:=rfl
    rw[a1]at u2
    rw[a1,a2,a3]
    have:(un- -149).toNat≤134:=by omega
    have:=Nat.mul_le_mul_right 8388608 this
    omega
  rw[←hR]
  unfold mgz
  have:∀b:Bool,b.toNat≤1:=fun b=>by cases b<;>decide
  have:=this (awz 0 false (decide (k%2=1)) (decide (h/2^m%2=1)) ((rs||drs 4 a b)||h%2^m != 0))
  rw[if_pos (by omega)]
  omega
 have K0:=K 0 (.inl rfl)
 rw[hR,hpz]at K0
 refine⟨R,_,hRb,hRl,K0,fun a1 a2 c1 c2 w h1 h2=>?_⟩
 ·obtain⟨sh,hsh⟩:∃sh:Nat,sh=((a.exp-b.exp)%2).toNat:=⟨_,rfl⟩
  obtain⟨e0,he0⟩:∃e0:Int,a.exp-b.exp-(sh:Int)=2*e0:=⟨(a.exp-b.exp)/2,by omega⟩
  have hcut:∀(s r:Nat) (more:Bool),bl (nv b.mag)+200≤bl (nv a.mag*2^sh)+2*s→s≤40000→r*r≤nv a.mag*2^sh*2^(2*s)/nv b.mag→nv a.mag*2^sh*2^(2*s)/nv b.mag<(r+1)*(r+1)→more=(decide (nv a.mag*2^sh*2^(2*s)%nv b.mag≠0)||decide (nv a.mag*2^sh*2^(2*s)/nv b.mag≠r*r))→∀u k' F',unz (kprec n).toNat (kleast n) (bl r) (e0-(s:Int))=u→flo r (e0-(s:Int)-u)=k'→F'=(u-kleast n).toNat*cbn n+k'→r≠0∧mgz 0 false (ifn n) F' (decide (k'%2=1)) (decide (flo r (e0-(s:Int)-u+1)%2=1)) (more||rst r (e0-(s:Int)-u+1))=R:=fun s' r' more hb1 hb2 hb3 hb4 hb5 u k' F' hu hk hF=>by
   obtain⟨w1,Q,H',w2⟩:=rq_cut n hn (nv a.mag) (nv b.mag) _ sh a.exp b.exp e0 kp A0 B0 rfl (by omega) (by omega) (by omega) he0 G g1 g2 s' r' hb2 hb1 hb3 hb4 more hb5 u hu k' F' hk hF
   refine⟨w1,?_⟩
   rw[←hR]
   exact(cutz_same w2 hC (rv_lt n hn) 0 (.inl rfl) false (ifn n)).1
  have hbla:bl (nv a.mag)≤60000:=by omega
  have hblb:bl (nv b.mag)≤60000:=by omega
  have hla:RL w (.slice a1 a.mag.length c1) (digs (nv a.mag)):=by rw[da];exact h1
  have hlb:RL w (.slice a2 b.mag.length c2) (digs (nv b.mag)):=by rw[db];exact h2
  obtain⟨y5,hy5⟩:∃y:Nat,y=8000:=⟨_,rfl⟩
  have hrl:∀(s r:Nat),s≤40000→r*r≤nv a.mag*2^sh*2^(2*s)/nv b.mag→(digs r).length<30000:=fun s' r' hs' hr'=>by
   have h3:r'≤nv a.mag*2^sh*2^(2*s'):=by
    have:=Nat.div_le_self (nv a.mag*2^sh*2^(2*s')) (nv b.mag)
    have:r'≤r'*r':=by
     rcases Nat.eq_zero_or_pos r' with e|e
     ·rw[e];exact Nat.zero_le _
     ·exact Nat.le_mul_of_pos_left _ e
    omega
   have h4:nv a.mag*2^sh*2^(2*s')<2^(30*y5):=by
    rw[Nat.mul_assoc,←Nat.pow_add]
    refine Nat.lt_of_lt_of_le (Nat.mul_lt_mul_of_pos_right (bl_pos (nv a.mag) A0).2.1 (Nat.two_pow_pos _)) ?_
    rw[←Nat.pow_add]
    exact Nat.pow_le_pow_right (by decide) (by omega)
   have:=digs_length_le r' y5 (Nat.lt_of_le_of_lt h3 h4)
   omega
  rcases hn with rfl|rfl
  ·have k1:(kprec 64).toNat=53:=rfl
   have k2:kleast 64=-1074:=rfl
   have k3:cbn 64=4503599627370496:=rfl
   have k4:ifn 64=9218868437227405312:=rfl
   simp only[k1,k2,k3,k4]at hcut
   refine rrootq_walk 64 _ _ _ _ _ _ _ _ _ a.neg b.neg a1 a2 a.mag.length c1 b.mag.length c2 (List.length_pos_iff.2 ham) a.exp b.exp ⟨xa1,xa2⟩ ⟨xb1,xb2⟩ (nv a.mag) (nv b.mag) _ sh e0 (R:Int) A0 B0 hbla hblb hsh he0 rfl w hla hlb (fun u=>of_knd 64 (.inl rfl) u) (fun u s' r' v more z1 z2 z3 z4 z5 z6=>?_)
   obtain⟨r0,hcc⟩:=hcut s' r' more z1 z2 z3 z4 z5 _ _ _ rfl rfl rfl
   refine(rcut_64 0 (.inl rfl) false r' r0 (e0-(s':Int)) more v u z6 (hrl s' r' z2 z3) (by omega) (by omega) _ rfl _ rfl _ rfl _ _ _ rfl rfl rfl 0 rfl).mono ?_
   rintro e w' ⟨he,hk⟩
   rw[Int.zero_add]at he
   have hz:(mgz 0 false 9218868437227405312 _ _ _ _:Nat)=R:=hcc
   rw[hz]at he
   exact⟨_,he,hk⟩
  ·have k1:(kprec 32).toNat=24:=rfl
   have k2:kleast 32=-149:=rfl
   have k3:cbn 32=8388608:=rfl
   have k4:ifn 32=2139095040:=rfl
   simp only[k1,k2,k3,k4]at hcut
   refine rrootq_walk 32 _ _ _ _ _ _ _ _ _ a.neg b.neg a1 a2 a.mag.length c1 b.mag.length c2 (List.length_pos_iff.2 ham) a.exp b.exp ⟨xa1,xa2⟩ ⟨xb1,xb2⟩ (nv a.mag) (nv b.mag) _ sh e0 (R:Int) A0 B0 hbla hblb hsh he0 rfl w hla hlb (fun u=>of_knd 32 (.inr rfl) u) (fun u s' r' v more z1 z2 z3 z4 z5 z6=>?_)
   obtain⟨r0,hcc⟩:=hcut s' r' more z1 z2 z3 z4 z5 _ _ _ rfl rfl rfl
   refine(rcut_32 0 (.inl rfl) false r' r0 (e0-(s':Int)) more v u z6 (hrl s' r' z2 z3) (by omega) (by omega) _ rfl _ rfl _ rfl _ _ _ rfl rfl rfl 0 rfl).mono ?_
   rintro e w' ⟨he,hk⟩
   rw[Int.zero_add]at he
   have hz:(mgz 0 false 2139095040 _ _ _ _:Nat)=R:=hcc
   rw[hz]at he
   exact⟨_,he,hk⟩
end Go.Proofs.YtnniljhdcplkgaaGreatDoor

namespace Go.Proofs.YtnniljhdcplkgaaGreatDoor
open Go.ChangeShapes Go.WideShapes Go.ChangeAt Go.RowKit
set_option maxHeartbeats 16000000
set_option maxRecDepth 100000
set_option linter.unusedVariables false
set_option linter.unusedSimpArgs false
end Go.Proofs.YtnniljhdcplkgaaGreatDoor

namespace Go.Proofs.YtnniljhdcplkgaaGreatDoor
open Go.ChangeShapes Go.WideShapes Go.ChangeAt Go.RowKit
set_option maxHeartbeats 16000000
set_option maxRecDepth 100000
set_option linter.unusedVariables false
set_option linter.unusedSimpArgs false
structure GrwS (S:List Nat) (w w':World):Prop where
 os:w'.os=w.os
 tape:w'.tape=w.tape
 output:w'.output=w.output
 size:w.heap.size≤w'.heap.size
 block:∀i,i<w.heap.size→i∉S→w'.heap[i]?=w.heap[i]?
 frozen:∀a,w'.frozen? a=w.frozen? a
theorem GrwS.refl (S:List Nat)(w:World):GrwS S w w:=⟨rfl,rfl,rfl,Nat.le_refl _,fun _ _ _=>rfl,fun _=>rfl⟩
theorem GrwS.trans {S:List Nat}{a b c:World}(h:GrwS S a b)(k:GrwS S b c):GrwS S a c:=
 ⟨k.os.trans h.os,k.tape.trans h.tape,k.output.trans h.output,Nat.le_trans h.size k.size,fun i hi hn=>(k.block i (Nat.lt_of_lt_of_le hi h.size) hn).trans (h.block i hi hn),fun x=>(k.frozen x).trans (h.frozen x)⟩
theorem GrwS.mono {S S':List Nat}{a b:World}(h:GrwS S a b)(hs:∀i∈S,i∈S'):GrwS S' a b:=
 ⟨h.os,h.tape,h.output,h.size,fun i hi hn=>h.block i hi (fun hm=>hn (hs i hm)),h.frozen⟩
theorem GrwS.then {S S':List Nat}{a b c:World}(h:GrwS S a b)(k:GrwS S' b c)(hs:∀i∈S',i∈S∨a.heap.size≤i):GrwS S a c:=
 ⟨k.os.trans h.os,k.tape.trans h.tape,k.output.trans h.output,Nat.le_trans h.size k.size,fun i hi hn=>(k.block i (Nat.lt_of_lt_of_le hi h.size) (fun hm=>by rcases hs i hm with h1|h1;exact hn h1;omega)).trans (h.block i hi hn),fun x=>(k.frozen x).trans (h.frozen x)⟩
theorem Kept.toS {a b:World}(S:List Nat)(h:Kept a b):GrwS S a b:=⟨h.below.os,h.below.tape,h.below.output,h.below.size,fun i hi _=>h.below.block i hi,h.frozen⟩
theorem Grw.toS {g:Nat}{a b:World}(h:Grw g a b):GrwS [g] a b:=⟨h.grown.os,h.grown.tape,h.grown.output,h.grown.size,fun i hi hn=>h.grown.block i hi (by simpa using hn),h.frozen⟩
theorem Kept.grwS {S:List Nat}{a b c:World}(h:Kept a b)(hS:∀i∈S,a.heap.size≤i)(k:GrwS S b c):Kept a c:=
 ⟨⟨k.os.trans h.below.os,k.tape.trans h.below.tape,k.output.trans h.below.output,Nat.le_trans h.below.size k.size,fun i hi=>(k.block i (Nat.lt_of_lt_of_le hi h.below.size) (fun hm=>by have:=hS i hm;omega)).trans (h.below.block i hi)⟩,fun x=>(k.frozen x).trans (h.frozen x)⟩
theorem GrwS.setCell {S:List Nat}{a b:World}(h:GrwS S a b){p:Addr}(hp:p.block∈S∨a.heap.size≤p.block)(u:Value):GrwS S a (b.setCell p u):=
 ⟨h.os,h.tape,h.output,by simpa using h.size,fun i hi hn=>(Below.heap_setCell b p u i (fun e=>by subst e;rcases hp with h1|h1;exact hn h1;omega)).trans (h.block i hi hn),fun x=>(World.frozen?_setCell _ _ _ _).trans (h.frozen x)⟩
def blk (v:Value):List Nat:=match v with
 | .slice (some a) _ _=>[a.block]
 |_=>[]
theorem OwnV.grwS {S:List Nat}{w w':World}{g cap:Nat}{e:TypeId}{V:List Value}(h:OwnV w g cap e V)(k:GrwS S w w')(hne:g∉S):OwnV w' g cap e V:=by
 have hl:=h.lt
 obtain⟨cur,hg,r⟩:=h
 exact⟨cur,(k.block g hl hne).trans hg,r⟩
theorem Rw.lt {w:World}{v:Value}{e:TypeId}{V:List Value}(h:Rw w v e V):∀b∈blk v,b<w.heap.size:=by
 rcases h with ⟨-,rfl⟩|⟨g,cap,rfl,ho⟩
 ·intro b hb;cases hb
 ·intro b hb
  obtain rfl:b=g:=by simpa [blk] using hb
  exact ho.lt
theorem Rw.grwS {S:List Nat}{w w':World}{v:Value}{e:TypeId}{V:List Value}(h:Rw w v e V)(k:GrwS S w w')(hn:∀b∈blk v,b∉S):Rw w' v e V:=by
 rcases h with h|⟨g,cap,rfl,ho⟩
 ·exact .inl h
 ·exact .inr ⟨g,cap,rfl,ho.grwS k (hn g (by simp[blk]))⟩
theorem Rw.kept {w w':World}{v:Value}{e:TypeId}{V:List Value}(h:Rw w v e V)(k:Kept w w'):Rw w' v e V:=h.grwS (k.toS []) (fun _ _ h=>by cases h)
theorem Rw.sl {w:World}{v:Value}{L:List Int}(h:Rw w v 3 (L.map (Value.int .i64))):Sl w v L:=by
 rcases h with ⟨e,rfl⟩|⟨g,cap,rfl,ho⟩
 ·obtain rfl:L=[]:=by simpa using e
  exact⟨none,0,rfl,Nat.le_refl _,by simp[maxLen],fun h=>absurd rfl h⟩
 ·have:=(own_v.2 ho).sl
  rw[List.length_map]
  exact this
theorem Rw.shape {w:World}{v:Value}{e:TypeId}{V:List Value}(h:Rw w v e V):∃ao c,v=.slice ao V.length c:=by
 rcases h with ⟨rfl,rfl⟩|⟨g,cap,rfl,ho⟩
 ·exact⟨_,_,rfl⟩
 ·exact⟨_,_,rfl⟩
abbrev ints (L:List Int):List Value:=L.map (Value.int .i64)
end Go.Proofs.YtnniljhdcplkgaaGreatDoor
namespace Go.Proofs.YtnniljhdcplkgaaGreatDoor
open Go.ChangeShapes Go.WideShapes Go.ChangeAt Go.RowKit
set_option maxHeartbeats 16000000
set_option maxRecDepth 100000
set_option linter.unusedVariables false
set_option linter.unusedSimpArgs false
theorem Sl.shape {w:World}{v:Value}{L:List Int}(h:Sl w v L):∃ao c,v=.slice ao L.length c:=by
 obtain⟨ao,c,e,-⟩:=h
 exact⟨ao,c,e⟩
end Go.Proofs.YtnniljhdcplkgaaGreatDoor
namespace Go.Proofs.YtnniljhdcplkgaaGreatDoor
open Go.ChangeShapes Go.WideShapes Go.ChangeAt Go.RowKit
set_option maxHeartbeats 16000000
set_option maxRecDepth 100000
set_option linter.unusedVariables false
set_option linter.unusedSimpArgs false
end Go.Proofs.YtnniljhdcplkgaaGreatDoor
namespace Go.Proofs.YtnniljhdcplkgaaGreatDoor
open Go.ChangeShapes Go.WideShapes Go.ChangeAt Go.RowKit
set_option maxHeartbeats 16000000
set_option maxRecDepth 100000
set_option linter.unusedVariables false
set_option linter.unusedSimpArgs false
def updM (M:Nat→List Int)(i:Nat)(L:List Int):Nat→List Int:=fun j=>if j=i then L else M j
def Mk (n:Nat→Nat)(M:Nat→List Int)(k j:Nat):Prop:=(∀i,i<k→∀t,t<n i→(M i).getD t 0=-2-(i:Int))∧∀t,t<j→(M k).getD t 0=-2-(k:Int)
theorem Mk.start (n:Nat→Nat)(M:Nat→List Int):Mk n M 0 0:=⟨fun i h=>by omega,fun t h=>by omega⟩
theorem Mk.step {n:Nat→Nat}{M:Nat→List Int}{k j:Nat}(h:Mk n M k j)(hj:j<(M k).length):Mk n (updM M k ((M k).set j (-2-(k:Int)))) k (j+1):=by
 refine⟨fun i hi t ht=>?_,fun t ht=>?_⟩
 ·unfold updM
  rw[if_neg (by omega)]
  exact h.1 i hi t ht
 ·unfold updM
  rw[if_pos rfl,List.getD_eq_getElem?_getD,List.getElem?_set]
  split
  ·rfl
  ·rw[←List.getD_eq_getElem?_getD]
   exact h.2 t (by omega)
theorem Mk.next {n:Nat→Nat}{M:Nat→List Int}{k:Nat}(h:Mk n M k (n k)):Mk n M (k+1) 0:=by
 refine⟨fun i hi t ht=>?_,fun t ht=>by omega⟩
 by_cases e:i=k
 ·subst e;exact h.2 t ht
 ·exact h.1 i (by omega) t ht
end Go.Proofs.YtnniljhdcplkgaaGreatDoor

namespace Go.Proofs.YtnniljhdcplkgaaGreatDoor
open Go.ChangeShapes Go.WideShapes Go.ChangeAt Go.RowKit
set_option maxHeartbeats 16000000
set_option maxRecDepth 100000
set_option linter.unusedVariables false
set_option linter.unusedSimpArgs false
end Go.Proofs.YtnniljhdcplkgaaGreatDoor

namespace Go.Proofs.YtnniljhdcplkgaaGreatDoor
open Go.ChangeShapes Go.WideShapes Go.ChangeAt Go.RowKit
set_option maxHeartbeats 16000000
set_option maxRecDepth 100000
set_option linter.unusedVariables false
set_option linter.unusedSimpArgs false
theorem NumAt.shape {w:World}{v:Value}{x:Nm}(h:NumAt w v x):∃ao c,v=.agg #[.bool x.neg,.slice ao x.mag.length c,.int .i64 x.exp]:=by
 obtain⟨s,rfl,ao,c,rfl,-⟩:=h
 exact⟨ao,c,rfl⟩
end Go.Proofs.YtnniljhdcplkgaaGreatDoor
namespace Go.Proofs.YtnniljhdcplkgaaGreatDoor
open Go.ChangeShapes Go.WideShapes Go.ChangeAt Go.RowKit
set_option maxHeartbeats 16000000
set_option maxRecDepth 100000
set_option linter.unusedVariables false
set_option linter.unusedSimpArgs false
theorem turned_any (ng:Bool)(ao:Option Addr)(n c:Nat)(ex:Int)(w:World):
  Calls Tryz.prog 49 #[.agg #[.bool ng,.slice ao n c,.int .i64 ex]] w fun e w'=>e=.returned (.agg #[.bool (if n=0 then ng else !ng),.slice ao n c,.int .i64 ex])∧Kept w w':=by
 have hK:Kept w ((w.alloc (.cells #[.bool ng,.slice ao n c,.int .i64 ex] 43)).alloc nilNum):=((Kept.refl w).alloc _ _).alloc _ _
 rcases n with _|n
 all_goals
  go_enter Tryz.func49,Tryz.ntmps49
  go_wp2
 ·exact bodyPost_ret (v:=.agg #[.bool ng,.slice ao 0 c,.int .i64 ex]) (by simp[results,Tryz.results49,go_sem]) rfl ⟨rfl,((Kept.refl w).alloc _ _).alloc _ _⟩
 ·exact bodyPost_ret (v:=.agg #[.bool (!ng),.slice ao (n+1) c,.int .i64 ex]) (by simp[results,Tryz.results49,go_sem]) rfl ⟨rfl,((Kept.refl w).alloc _ _).alloc _ _⟩
end Go.Proofs.YtnniljhdcplkgaaGreatDoor
namespace Go.Proofs.YtnniljhdcplkgaaGreatDoor
open Go.ChangeShapes Go.WideShapes Go.ChangeAt Go.RowKit
set_option maxHeartbeats 16000000
set_option maxRecDepth 100000
set_option linter.unusedVariables false
set_option linter.unusedSimpArgs false
end Go.Proofs.YtnniljhdcplkgaaGreatDoor
namespace Go.Proofs.YtnniljhdcplkgaaGreatDoor
open Go.ChangeShapes Go.WideShapes Go.ChangeAt Go.RowKit
set_option maxHeartbeats 16000000
set_option maxRecDepth 100000
set_option linter.unusedVariables false
set_option linter.unusedSimpArgs false
end Go.Proofs.YtnniljhdcplkgaaGreatDoor
