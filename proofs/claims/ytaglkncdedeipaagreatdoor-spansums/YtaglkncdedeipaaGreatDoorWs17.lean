/-  -/
import Derived.Test.YtaglkncdedeipaaGreatDoorWs16
import Derived.Test.YtaglkncdedeipaaGreatDoorWs14
import Derived.Test.YtaglkncdedeipaaGreatDoorWs04
import Derived.Test.YtaglkncdedeipaaGreatDoorWs15
namespace Go.Proofs.YtaglkncdedeipaaGreatDoor
open Go.ChangeShapes Go.WideShapes Go.ChangeAt Go.RowKit
set_option linter.unusedVariables false
set_option linter.unusedSimpArgs false
set_option maxHeartbeats 16000000
set_option maxRecDepth 100000
theorem XX (n pr le fi:Int)(f:Value)(ex:Int)(ng rs:Bool)(w:World):Calls Tryz.prog 113 #[.agg #[.int .i64 n,.int .i64 pr,.int .i64 le,.int .i64 fi,f],.agg #[.bool ng,.int .i64 0,.int .i64 ex,.bool rs]] w fun e w'=>e=.returned (.tuple #[.int .i64 0,.bool false])∧Kept w w':=by
 go_enter Tryz.func113,Tryz.ntmps113
 go_wp2
 go_ret2
 exact⟨rfl,((qia _).alloc _ _).alloc _ _⟩
def ofN (b n:Int):Nm:=(frm (qS b n) (qw b n).toNat (qA b n)).getD ⟨false,[],0⟩
theorem Zy (b n:Int)(hn:n=64∨n=32)(hc:cls b n<3):fin b n=true:=by simp[fin,hn,hc]
theorem qff (b:Int)(hc:cls b 64<3):0≤qw b 64∧qw b 64<9007199254740992∧-1074≤qA b 64∧qA b 64≤971∧(qw b 64<4503599627370496→qA b 64=-1074):=by
 have hf:=Zy b 64 (.inl rfl) hc
 have hs:b%9223372036854775808<9218868437227405312:=by
  unfold cls zc at hc
  simp only[if_true]at hc
  (repeat' split at hc)<;>omega
 unfold qw qA
 rw[if_pos hf,if_pos rfl,if_pos hf,if_pos rfl]
 (repeat' split)<;>omega
theorem qg5 (b:Int)(hc:cls b 32<3):0≤qw b 32∧qw b 32<16777216∧-149≤qA b 32∧qA b 32≤104∧(qw b 32<8388608→qA b 32=-149):=by
 have hf:=Zy b 32 (.inr rfl) hc
 have hs:b%2147483648<2139095040:=by
  unfold cls zc at hc
  rw[if_neg (by decide),if_pos rfl]at hc
  (repeat' split at hc)<;>omega
 unfold qw qA
 simp only[hf,if_true,show ¬((32:Int)=64) by decide,if_false]
 (repeat' split)<;>omega
theorem yZ (b n:Int)(hn:n=64∨n=32)(hc:cls b n<3):0≤qw b n∧qw b n<2^(qF n).toNat∧qi n≤qA b n∧qA b n≤1000∧-1074≤qA b n∧(qw b n<2^((qF n).toNat-1)→qA b n=qi n):=by
 rcases hn with rfl|rfl
 ·obtain⟨h1,h2,h3,h4,h5⟩:=qff b hc
  refine⟨h1,?_,h3,by omega,h3,fun h=>h5 ?_⟩
  ·exact h2
  ·exact h
 ·obtain⟨h1,h2,h3,h4,h5⟩:=qg5 b hc
  refine⟨h1,?_,h3,by omega,by omega,fun h=>h5 ?_⟩
  ·exact h2
  ·exact h
theorem X7 (b n:Int)(hn:n=64∨n=32)(hc:cls b n<3):bl (qw b n).toNat≤(qF n).toNat∧bl (qw b n).toNat≤53:=by
 obtain⟨h1,h2,-⟩:=yZ b n hn hc
 have:=qY (qw b n).toNat (qF n).toNat (by
  have e:(((qw b n).toNat:Nat):Int)<((2^(qF n).toNat:Nat):Int):=by push_cast;rw[Int.toNat_of_nonneg h1];exact h2
  exact_mod_cast e)
 refine⟨this,?_⟩
 rcases hn with rfl|rfl
 ·exact this
 ·exact qh4 this (by decide)
theorem vD (b n:Int)(h:qw b n=0):frm (qS b n) (qw b n).toNat (qA b n)=some ⟨false,[],0⟩∧ofN b n=⟨false,[],0⟩:=by
 have:frm (qS b n) (qw b n).toNat (qA b n)=some ⟨false,[],0⟩:=by rw[h];simp[frm]
 exact⟨this,by unfold ofN;rw[this];rfl⟩
theorem YR (v:Nat)(hv:v≠0):tzn v<bl v:=by
 have h:=jP v hv
 have:=(qJ _ h.2).2.2
 omega
theorem qd3 (b n:Int)(hn:n=64∨n=32)(hc:cls b n<3)(h0:qw b n≠0):frm (qS b n) (qw b n).toNat (qA b n)=some (ofN b n)∧ofN b n=⟨qS b n,digs ((qw b n).toNat/2^tzn (qw b n).toNat),qA b n+(tzn (qw b n).toNat:Int)⟩:=by
 obtain⟨h1,h2,h3,h4,h5,h6⟩:=yZ b n hn hc
 have hb:=(X7 b n hn hc).2
 have hv:(qw b n).toNat≠0:=by omega
 have ht:=YR _ hv
 have hw:wrap64 (qA b n+(tzn (qw b n).toNat:Int))=qA b n+(tzn (qw b n).toNat:Int):=by unfold wrap64;omega
 have:frm (qS b n) (qw b n).toNat (qA b n)=some ⟨qS b n,digs ((qw b n).toNat/2^tzn (qw b n).toNat),qA b n+(tzn (qw b n).toNat:Int)⟩:=by
  unfold frm
  rw[if_neg hv,hw,if_pos ⟨by omega,by omega,by omega⟩]
 exact⟨by rw[this];unfold ofN;rw[this];rfl,by unfold ofN;rw[this];rfl⟩
theorem Zz (b n:Int)(hn:n=64∨n=32)(hc:cls b n<3):frm (qS b n) (qw b n).toNat (qA b n)=some (ofN b n):=by
 by_cases h:qw b n=0
 ·obtain⟨h1,h2⟩:=vD b n h
  rw[h1,h2]
 ·exact(qd3 b n hn hc h).1
theorem qf7 (b n:Int)(hb1:-9223372036854775808≤b)(hb2:b≤9223372036854775807)(hn:n=64∨n=32)(hc:cls b n<3)(w:World)(hT:Tab w):Calls Tryz.prog 111 #[.int .i64 b,.int .i64 n] w fun e w'=>∃v,e=.returned (.tuple #[v,.int .i64 0])∧New w w' v (ofN b n)∧Kept w w':=by
 have hK:Kept w (qD w):=(qia w).alloc _ _
 obtain⟨h1,h2,h3,h4,h5,h6⟩:=yZ b n hn hc
 have hbl:=(X7 b n hn hc).2
 have hlt:=Jx (qw b n).toNat
 have hm53:(qw b n).toNat<2^53:=qhu hlt (qhw (by decide) hbl)
 have hm:qw b n<9007199254740992:=by
  have:(2:Nat)^53=9007199254740992:=by decide
  omega
 have KK:Hid (∀u,Calls Tryz.prog 142 #[.int .i64 n] u fun e w'=>e=.returned (.tuple #[.agg #[.int .i64 n,.int .i64 (qF n),.int .i64 (qi n),.int .i64 (zV n)],.bool true])∧Kept u w'):=fun u=>xC n hn u
 have KP:Hid (∀u,Calls Tryz.prog 105 #[.int .i64 b,.int .i64 n] u fun e w'=>e=.returned (.tuple #[.bool (qS b n),.int .i64 (qw b n),.int .i64 (qA b n),.bool true])∧Kept u w'):=fun u=>by
  have:=Qz b n hb1 hb2 u
  rw[Zy b n hn hc]at this
  exact this
 have hf:=Zz b n hn hc
 generalize qw b n=s at *
 have hw1:IntKind.u64.wrap s=s:=by rw[IntKind.wrap_u64];omega
 have KD:Hid (∀u,Calls Tryz.prog 143 #[.int .u64 s] u fun e w'=>e=.returned (.slice (some ⟨u.heap.size,0,none⟩) 3 3)∧w'=u.alloc (.cells #[.int .i64 (s%1073741824),.int .i64 (s/1073741824%1073741824),.int .i64 (s/1152921504606846976)] 3)):=fun u=>Zd s h1 (by omega) u
 have hDg:Dg [s%1073741824,s/1073741824%1073741824,s/1152921504606846976]:=Dg.cons (by omega) (by omega) (Dg.cons (by omega) (by omega) (Dg.cons (by omega) (by omega) Dg.nil))
 have hnv:nv [s%1073741824,s/1073741824%1073741824,s/1152921504606846976]=s.toNat:=by
  show(s%1073741824).toNat+1073741824*((s/1073741824%1073741824).toNat+1073741824*((s/1152921504606846976).toNat+1073741824*0))=s.toNat
  omega
 have KF:Hid (∀u,Kept (qD w) u→Calls Tryz.prog 141 #[.bool (qS b n),.slice (some ⟨u.heap.size,0,none⟩) 3 3,.int .i64 (qA b n)] (u.alloc (.cells #[.int .i64 (s%1073741824),.int .i64 (s/1073741824%1073741824),.int .i64 (s/1152921504606846976)] 3)) fun e w'=>(∃v,e=.returned v∧New (qD w) w' v (ofN b n))∧Kept (qD w) w'):=fun u k=>VN _ _ hDg (by simp) _ 3 (qA b n) (qD w) _ (k.alloc _ _) k.below.size (YB u _ _ _) (hT.kept (hK.trans (k.alloc _ _))) _ (by rw[hnv];exact hf)
 generalize qF n=pr at *
 generalize qi n=le at *
 generalize zV n=fi at *
 generalize qS b n=ng at *
 generalize qA b n=ex at *
 generalize ofN b n=r at *
 clear hDg hnv hf hT h1 h2 h3 h4 h5 h6 hbl hlt hm53 hm
 go_enter Tryz.func111,Tryz.ntmps111
 go_wp2_with fail
 refine(KK.out _).mono ?_
 rintro e w1 ⟨rfl,k1⟩
 have k1':=k1.alloc #[.int .i64 n,.int .i64 pr,.int .i64 le,.int .i64 fi] 144
 go_wp2_with fail
 refine(KP.out _).mono ?_
 rintro e w2 ⟨rfl,k2⟩
 have kk:=k1'.trans k2
 go_wp2_with fail
 refine(KD.out _).mono ?_
 rintro e w3 ⟨rfl,rfl⟩
 go_wp2_with fail
 refine(KF.out _ kk).mono ?_
 rintro e w4 ⟨⟨v,rfl,hN⟩,k4⟩
 obtain⟨vn,va,vl,vc,vx,rfl⟩:=hN.shape
 obtain⟨f0,f1,f2,f3⟩:=je k4
 go_wp2_with fail
 have:=yS hN k4 (.bool vn) (.slice va vl vc) (.int .i64 vx)
 exact qh9 (v:=.tuple #[.agg #[.bool vn,.slice va vl vc,.int .i64 vx],.int .i64 0]) (by simp[results,Tryz.results111,go_sem,f0,f1,f2]) rfl ⟨_,rfl,this.1,this.2⟩
theorem yz (a b:Nat)(ha:a<9223372036854775808)(hb:b<9223372036854775808):bits .and .i64 (a:Int) (b:Int)=((a&&& b:Nat):Int):=by
 rw[zo,BitVec.toNat_and]
 have h1:=qs (a:Int)
 have h2:=qs (b:Int)
 have e1:(BitVec.ofInt 64 (a:Int)).toNat=a:=by omega
 have e2:(BitVec.ofInt 64 (b:Int)).toNat=b:=by omega
 have h3:a&&& b≤a:=Nat.and_le_left
 rw[e1,e2,qc]
 omega
theorem qa9 (a m:Nat)(ha:a<9223372036854775808)(hm:m<62):bits .and .i64 (a:Int) (((2^m-1:Nat)):Int)=((a%2^m:Nat):Int):=by
 have hp:(2:Nat)^m≤2^62:=qhw (by decide) (by omega)
 have h62:(2:Nat)^62=4611686018427387904:=by decide
 rw[yz _ _ ha (by omega),Nat.and_two_pow_sub_one_eq_mod]
theorem JG (ng:Bool)(ao:Option Addr)(c:Nat)(x:Int)(w:World):Calls Tryz.prog 114 #[.agg #[.bool ng,.slice ao 0 c,.int .i64 x]] w fun e w'=>e=.returned (.agg #[.bool false,.int .i64 0,.int .i64 0,.bool false])∧Kept w w':=by
 go_enter Tryz.func114,Tryz.ntmps114
 go_wp2
 exact qh9 (v:=.agg #[.bool false,.int .i64 0,.int .i64 0,.bool false]) (by simp[results,Tryz.results114,go_sem]) rfl ⟨rfl,((qia w).alloc _ _).alloc _ _⟩
theorem VS (neg:Bool)(v:Nat)(x:Int)(r:Nm)(h:frm neg v x=some r):vld r=true∧Rg r.mag∧r.mag.length≤2000:=by
 unfold frm at h
 split at h
 ·cases h
  exact⟨rfl,fun d hd=>(by cases hd),by simp⟩
 ·rename_i hv
  split at h
  ·rename_i hy
   cases h
   have hs:=jP v hv
   have hq:=(qJ _ hs.2).2.2
   have hl:=vy _ hs.2
   have hne:digs (v/2^tzn v)≠[]:=by
    intro he
    rw[he]at hl
    simp only[List.length_nil]at hl
    omega
   have hdg:=qK (v/2^tzn v)
   have hodd:(digs (v/2^tzn v)).getD 0 0%2=1:=by
    have h1:=(yv v hv).1
    have h2:=zg _ hdg 0
    rw[qI,Nat.mul_zero,Nat.pow_zero,Nat.div_one]at h2
    have h3:=hdg.getD 0
    omega
   refine⟨?_,hdg.rg,by dsimp only;omega⟩
   unfold vld
   dsimp only
   rw[if_neg hne]
   unfold kU
   rw[(xB _).2 hdg,vu]
   simp only[Bool.and_eq_true,qh1,bne_iff_ne,beq_iff_eq]
   exact⟨⟨⟨⟨⟨by omega,trivial⟩,jE _ hs.2⟩,hodd⟩,hy.2.1⟩,hy.2.2⟩
  ·cases h
def cbn (n:Int):Nat:=if n=64 then 4503599627370496 else 8388608
theorem ZD (n:Int)(hn:n=64∨n=32):cbn n=2^((qF n).toNat-1)∧2≤(qF n).toNat:=by
 rcases hn with rfl|rfl<;>decide
theorem VW (n:Int)(hn:n=64∨n=32)(r s:Nat)(h:r<s):rv (cbn n) r<rv (cbn n) s:=by
 rcases hn with rfl|rfl
 ·have:=za FloatKind.f64.format h
  unfold qt at this
  rw[qfp]at this
  exact this
 ·have:=za FloatKind.f32.format h
  unfold qt at this
  rw[Yg]at this
  exact this
theorem qg6 (n:Int)(hn:n=64∨n=32)(r s:Nat)(h:r≤s):rv (cbn n) r≤rv (cbn n) s:=by
 rcases Nat.lt_or_ge r s with hl|hg
 ·exact Nat.le_of_lt (VW n hn r s hl)
 ·rw[show r=s by omega]
  exact qhy _
def unN (n:Int)(r:Nm):Int:=unz (qF n).toNat (qi n) (bl (nv r.mag)) r.exp
def kpN (n:Int)(r:Nm):Nat:=flo (nv r.mag) (r.exp-unN n r)
def flN (n:Int)(r:Nm):Nat:=(unN n r-qi n).toNat*cbn n+kpN n r
def odN (n:Int)(r:Nm):Bool:=decide (kpN n r%2=1)
def hfN (n:Int)(r:Nm):Bool:=decide (flo (nv r.mag) (r.exp-unN n r+1)%2=1)
def rtN (n:Int)(r:Nm):Bool:=rst (nv r.mag) (r.exp-unN n r+1)
def mgN (n way:Int)(r:Nm):Nat:=if r.mag=[]then 0 else mgz way r.neg (ifn n) (flN n r) (odN n r) (hfN n r) (rtN n r)
def oxN (n way:Int)(r:Nm):Bool:=if r.mag=[]then false else odz way r.neg (ifn n) (flN n r) (odN n r) (hfN n r) (rtN n r)
def kyN (n way:Int)(r:Nm):Int:=if r.neg=true then -(mgN n way r:Int)else (mgN n way r:Int)
def rzN (n way:Int)(r:Nm):Int:=pz n (kyN n way r)
theorem qbd (r:Nm)(hv:vld r=true)(hne:r.mag≠[]):nv r.mag≠0:=by
 obtain⟨n,L,x⟩:=r
 exact Nat.pos_iff_ne_zero.1 (zN n L x hne hv)
theorem qg7 (n:Int)(hn:n=64∨n=32)(r:Nm)(hv:vld r=true)(hne:r.mag≠[])(s:Int)(hs:s≤r.exp)(hl:s<qi n):Cutz (cbn n) (2^(qi n-s).toNat) (vz s r).natAbs (kpN n r) (2^(unN n r-s).toNat) (2^(unN n r-1-s).toNat) (flN n r) (odN n r) (hfN n r) (rtN n r):=by
 have h0:=qbd r hv hne
 obtain⟨b1,b2,b3⟩:=qJ (nv r.mag) h0
 obtain⟨c1,c2⟩:=ZD n hn
 rw[ki]
 exact qe9 (qF n).toNat (cbn n) (qi n) (nv r.mag) (bl (nv r.mag)) r.exp s c2 c1 b1 b2 b3 hs hl (unN n r) rfl (kpN n r) (flN n r) rfl rfl
theorem qf9 (n way:Int)(r:Nm):mgN n way r≤ifn n:=by
 unfold mgN
 split
 ·omega
 ·exact qcz _ _ _ _ _ _ _
theorem jf (n way:Int)(r:Nm):-(ifn n:Int)≤kyN n way r∧kyN n way r≤(ifn n:Int):=by
 have:=qf9 n way r
 unfold kyN
 split<;>omega
theorem ZE (s:Int)(r:Nm)(hv:vld r=true):(r.neg=true→vz s r<0)∧(r.neg=false→0≤vz s r)∧(r.mag=[]→r.neg=false∧vz s r=0):=by
 by_cases hne:r.mag=[]
 ·obtain⟨n,L,x⟩:=r
  simp only at hne
  subst hne
  have hn:n=false:=by
   simp only[vld,if_pos,Bool.and_eq_true]at hv
   simpa using hv.1
  subst hn
  rw[zj]
  simp
 ·have h0:=qbd r hv hne
  have hp:=qht (r.exp-s).toNat
  have hm:0<nv r.mag*2^(r.exp-s).toNat:=Nat.mul_pos (by omega) hp
  have ha:=ki s r
  refine⟨fun h=>?_,fun h=>?_,fun h=>absurd h hne⟩
  ·unfold vz sg
   rw[h,if_pos rfl]
   have:((nv r.mag:Int)*2^(r.exp-s).toNat)=((nv r.mag*2^(r.exp-s).toNat:Nat):Int):=by push_cast;rfl
   omega
  ·unfold vz sg
   rw[h,if_neg (by decide)]
   have:((nv r.mag:Int)*2^(r.exp-s).toNat)=((nv r.mag*2^(r.exp-s).toNat:Nat):Int):=by push_cast;rfl
   omega
def kvz (n s k:Int):Int:=if k<0 then -((rv (cbn n) k.natAbs*2^(qi n-s).toNat:Nat):Int)else ((rv (cbn n) k.natAbs*2^(qi n-s).toNat:Nat):Int)
structure Nbr (n s Z d u e:Int) (o:Bool):Prop where
 same:o=false→u=d∧e=d∧Z=kvz n s d∧-(ifn n:Int)<d∧d<(ifn n:Int)
 next:o=true→u=d+1∧(e=d∨e=u)∧d<(ifn n:Int)∧-(ifn n:Int)<u∧(-(ifn n:Int)<d→kvz n s d<Z)∧(u<(ifn n:Int)→Z<kvz n s u)
 near:o=true→-(ifn n:Int)<d→u<(ifn n:Int)→(Z-kvz n s d<kvz n s u-Z→e=d)∧(kvz n s u-Z<Z-kvz n s d→e=u)∧(Z-kvz n s d=kvz n s u-Z→e%2=0)
theorem qd8 (n:Int):0<ifn n:=by unfold ifn;split<;>decide
theorem ju (n s:Int)(k:Nat):kvz n s (k:Int)=((rv (cbn n) k*2^(qi n-s).toNat:Nat):Int):=by
 unfold kvz
 rw[if_neg (by omega),Int.natAbs_natCast]
theorem jS (n s:Int)(k:Nat):kvz n s (-(k:Int))=-((rv (cbn n) k*2^(qi n-s).toNat:Nat):Int):=by
 unfold kvz
 rw[Int.natAbs_neg,Int.natAbs_natCast]
 by_cases h:k=0
 ·subst h
  have:rv (cbn n) 0=0:=by
   unfold rv cbn
   split<;>split<;>simp_all
  rw[this]
  simp
 ·rw[if_pos (by omega)]
theorem qhn (n:Int)(hn:n=64∨n=32)(r:Nm)(hv:vld r=true)(s:Int)(hs:r.mag≠[]→s≤r.exp)(hl:s<qi n):Nbr n s (vz s r) (kyN n 1 r) (kyN n 2 r) (kyN n 0 r) (oxN n 1 r)∧oxN n 2 r=oxN n 1 r∧oxN n 0 r=oxN n 1 r:=by
 obtain⟨s1,s2,s3⟩:=ZE s r hv
 have hip:=qd8 n
 by_cases h:r.mag=[]
 ·obtain⟨e1,e2⟩:=s3 h
  have hk:∀way,kyN n way r=0:=fun way=>by simp[kyN,mgN,h,e1]
  have ho:∀way,oxN n way r=false:=fun way=>by simp[oxN,h]
  rw[hk,hk,hk,ho,ho,ho,e2]
  refine⟨⟨fun _=>⟨rfl,rfl,?_,by omega,by omega⟩,fun hh=>(by cases hh),fun hh=>(by cases hh)⟩,rfl,rfl⟩
  have:=jS n s 0
  have h2:=ju n s 0
  rw[show(-((0:Nat):Int))=((0:Nat):Int) by rfl]at this
  rw[show(0:Int)=((0:Nat):Int) by rfl]
  omega
 ·have hC:=qg7 n hn r hv h s (hs h) hl
  obtain⟨B,o1,o2⟩:=hC.btw (ifn n) hip (qg6 n hn) (VW n hn) (qht _) r.neg
  obtain⟨N1,N2,N3⟩:=B
  have hox:∀way,oxN n way r=odz way r.neg (ifn n) (flN n r) (odN n r) (hfN n r) (rtN n r):=fun way=>by simp[oxN,h]
  have hmg:∀way,mgN n way r=mgz way r.neg (ifn n) (flN n r) (odN n r) (hfN n r) (rtN n r):=fun way=>by simp[mgN,h]
  rw[hox,hox,hox]
  unfold kyN
  rw[hmg,hmg,hmg]
  cases hng:r.neg
  ·rw[hng]at N1 N2 N3 o2
   have hZ:vz s r=((vz s r).natAbs:Int):=by have:=s2 hng;omega
   simp only[Bool.false_eq_true,if_false]
   rw[o1,o2]
   generalize (vz s r).natAbs=V at *
   generalize mgz 1 false (ifn n) (flN n r) (odN n r) (hfN n r) (rtN n r)=lo at *
   generalize mgz 2 false (ifn n) (flN n r) (odN n r) (hfN n r) (rtN n r)=hi at *
   generalize mgz 0 false (ifn n) (flN n r) (odN n r) (hfN n r) (rtN n r)=ne at *
   generalize odz 1 false (ifn n) (flN n r) (odN n r) (hfN n r) (rtN n r)=o at *
   rw[hZ]
   refine⟨⟨fun ho=>?_,fun ho=>?_,fun ho h1 h2=>?_⟩,rfl,rfl⟩
   ·have:=N1 ho
    rw[ju]
    omega
   ·have:=N2 ho
    rw[ju,ju]
    omega
   ·have:=N3 ho (by omega)
    have:=N2 ho
    rw[ju,ju]
    omega
  ·obtain⟨m1,m2⟩:=Yk 1 (by omega) false (ifn n) (flN n r) (odN n r) (hfN n r) (rtN n r)
   obtain⟨m3,m4⟩:=Yk 2 (by omega) false (ifn n) (flN n r) (odN n r) (hfN n r) (rtN n r)
   rw[show mir 1=2 by decide,show(!false)=true by rfl]at m1 m2
   rw[show mir 2=1 by decide,show(!false)=true by rfl]at m3 m4
   rw[hng]at N1 N2 N3 o2
   have hZ:vz s r=-((vz s r).natAbs:Int):=by have:=s1 hng;omega
   simp only[if_true]
   rw[m1,m3,m2,m4,o1,o2]
   generalize (vz s r).natAbs=V at *
   generalize mgz 1 false (ifn n) (flN n r) (odN n r) (hfN n r) (rtN n r)=lo at *
   generalize mgz 2 false (ifn n) (flN n r) (odN n r) (hfN n r) (rtN n r)=hi at *
   generalize mgz 0 true (ifn n) (flN n r) (odN n r) (hfN n r) (rtN n r)=ne at *
   generalize odz 1 false (ifn n) (flN n r) (odN n r) (hfN n r) (rtN n r)=o at *
   rw[hZ]
   refine⟨⟨fun ho=>?_,fun ho=>?_,fun ho h1 h2=>?_⟩,rfl,rfl⟩
   ·obtain⟨t1,t2,t3,t4⟩:=N1 ho
    subst t2
    rw[jS]
    omega
   ·have:=N2 ho
    rw[jS,jS]
    omega
   ·have:=N3 ho (by omega)
    have:=N2 ho
    rw[jS,jS]
    omega
theorem qga (n k:Int)(hn:n=64∨n=32)(h1:-(ifn n:Int)<k)(h2:k<(ifn n:Int))(s:Int)(hs:s< -1074)(hs2:-2000≤s):Lies s 5000 (ofN (pz n k) n)∧vz s (ofN (pz n k) n)=kvz n s k:=by
 have hc:=(VF n k hn (by omega) (by omega)).2 ⟨h1,h2⟩
 have hf:=Zz (pz n k) n hn hc
 obtain⟨f1,f2,f3,f4,f5,f6⟩:=yZ (pz n k) n hn hc
 obtain⟨g1,g2⟩:=X7 (pz n k) n hn hc
 have hng:=qc3 n k hn h1 h2
 obtain⟨c,hcc⟩:∃c,c=if n=64 then (4503599627370496:Int)else 8388608:=⟨_,rfl⟩
 obtain⟨l,hll⟩:∃l,l=if n=64 then (-1074:Int)else -149:=⟨_,rfl⟩
 obtain⟨r,hr⟩:∃r,r=if k<0 then -k else k:=⟨_,rfl⟩
 obtain⟨q1,q2⟩:=qc4 n k hn h1 h2 c hcc l hll r hr
 have hkl:qi n=l:=by rw[hll];rfl
 have hcb:(cbn n:Int)=c:=by rw[hcc];unfold cbn;split<;>rfl
 have hra:r=(k.natAbs:Int):=by rw[hr];split<;>omega
 have hval:(qw (pz n k) n).toNat*2^(qA (pz n k) n-s).toNat=rv (cbn n) k.natAbs*2^(qi n-s).toNat:=by
  unfold rv
  by_cases hb:r<c
  ·rw[if_pos hb]at q1 q2
   rw[if_pos (by omega),q1,q2,hkl,hra,Int.toNat_natCast]
  ·rw[if_neg hb]at q1 q2
   have hcp:0<cbn n:=by unfold cbn;split<;>decide
   rw[if_neg (by omega),q1,q2,hkl,qhz,←qhv]
   have hmod:(c+r%c).toNat=cbn n+k.natAbs%cbn n:=by
    rw[←hcb,hra,←Int.natCast_emod,←Int.natCast_add,Int.toNat_natCast]
   have hdiv:r/c=((k.natAbs/cbn n:Nat):Int):=by rw[←hcb,hra,Int.natCast_ediv]
   have hge:1≤k.natAbs/cbn n:=by
    rw[Nat.le_div_iff_mul_le hcp];omega
   rw[hmod]
   congr 2
   rw[hdiv]
   omega
 rw[V0]at hf
 have hsh:=zM (sg (qS (pz n k) n) ((qw (pz n k) n).toNat:Int)) (qA (pz n k) n-s).toNat s
 rw[show s+((qA (pz n k) n-s).toNat:Int)=qA (pz n k) n by omega]at hsh
 rw[←hsh]at hf
 have hz:sg (qS (pz n k) n) ((qw (pz n k) n).toNat:Int)*2^(qA (pz n k) n-s).toNat=kvz n s k:=by
  unfold kvz sg
  rw[hng]
  by_cases hk:k<0
  ·rw[qh2 hk,if_pos rfl,if_pos hk,←hval,Int.neg_mul]
   push_cast
   rfl
  ·rw[qh3 hk,if_neg (by decide),if_neg hk,←hval]
   push_cast
   rfl
 rw[hz]at hf
 obtain⟨B,hB⟩:∃B:Nat,B=5000:=⟨_,rfl⟩
 rw[←hB]
 have hlt:(kvz n s k).natAbs<2^B:=by
  have:(kvz n s k).natAbs=(qw (pz n k) n).toNat*2^(qA (pz n k) n-s).toNat:=by
   rw[hval];unfold kvz;split<;>omega
  rw[this]
  calc (qw (pz n k) n).toNat*2^(qA (pz n k) n-s).toNat<2^53*2^(qA (pz n k) n-s).toNat:=Nat.mul_lt_mul_of_pos_right (qhu (Jx _) (qhw (by decide) g2)) (qht _)
   _=2^(53+(qA (pz n k) n-s).toNat):=by rw[qhv]
   _≤2^B:=qhw (by decide) (by omega)
 obtain⟨r',hr1,hr2,hr3⟩:=jk s B (by omega) (by omega) (by omega) (kvz n s k) hlt
 rw[hr1]at hf
 injection hf with hf
 rw[←hf]
 exact⟨hr2,hr3⟩
end Go.Proofs.YtaglkncdedeipaaGreatDoor
namespace Go.Proofs.YtaglkncdedeipaaGreatDoor
open Go.ChangeShapes Go.WideShapes Go.ChangeAt Go.RowKit Ieee
set_option linter.unusedVariables false
set_option linter.unusedSimpArgs false
set_option maxHeartbeats 16000000
set_option maxRecDepth 100000
def zw (x:Nat):Int:=sg (qS (qv x) 64) (qw (qv x) 64*2^(qA (qv x) 64+1074).toNat)
theorem qep (w:World)(b:Nat)(C:List Int)(f:Nat)(hT:TotAt w b C f)(x:Nat)(p:Int)(ng:Bool)(a ex:Int)
  (KO:Hid (∀u,Calls Tryz.prog 104 #[.float .f64 x] u fun e w'=>e=.returned (.int .i64 p)∧u=w'))
  (KP:Hid (∀u,Calls Tryz.prog 105 #[.int .i64 p,.int .i64 64] u fun e w'=>e=.returned (.tuple #[.bool ng,.int .i64 a,.int .i64 ex,.bool false])∧Kept u w')):
  Calls Tryz.prog 77 #[.pointer (some ⟨b,0,none⟩),.float .f64 x] w fun e w'=>e=.returned (.tuple #[])∧TotAt w' b C x∧Grw b w w':=by
 have HM:Hid (∀u,Kept w u→TotAt u b C f):=fun u k=>hT.kept k
 have hSF:=j6
 clear hT
 go_enter Tryz.func77,Tryz.ntmps77
 go_wp2_with (first|(go_at_call 104;refine(KO.out _).mono ?_;rintro e w1 ⟨rfl,rfl⟩)|(go_at_call 105;refine(KP.out _).mono ?_;rintro e w2 ⟨rfl,k2⟩;have hi:=(HM.out _ k2).inf;have hf:=(HM.out _ k2).fz 71))
 exact qh9 (v:=.tuple #[]) (by simp[results,Tryz.results77,go_sem]) rfl ⟨rfl,(HM.out _ k2).setInf x,(k2.toGrw b).setCell _ _⟩
theorem xG (p:Int)(hc:cls p 64<3):0≤qw p 64∧qw p 64<9007199254740992∧-1074≤qA p 64∧qA p 64≤971:=by
 obtain⟨h1,h2,h3,h4,-⟩:=qff p hc
 exact⟨h1,h2,h3,h4⟩
structure Clm (C C':List Int) (V:Int):Prop where
 len:C'.length=71
 val:cv C'=cv C+V
 near:∀k,-1073741824≤C'.getD k 0-C.getD k 0∧C'.getD k 0-C.getD k 0≤1073741824
theorem J7 (C:List Int)(hl:C.length=71)(fs:Nat)(hf:fs+3≤71)(S M0 M1 M2:Int)(hS:S=1∨S=-1)(hb0:0≤M0∧M0<1073741824)(hb1:0≤M1∧M1<1073741824)(hb2:0≤M2∧M2<1073741824):Clm C (((C.set fs (C.getD fs 0+S*M0)).set (fs+1) (C.getD (fs+1) 0+S*M1)).set (fs+2) (C.getD (fs+2) 0+S*M2)) (S*ws M0 M1 M2 3*2^(30*fs)):=by
 have g1:(C.set fs (C.getD fs 0+S*M0)).getD (fs+1) 0=C.getD (fs+1) 0:=by rw[qB _ _ _ _ (by omega),if_neg (by omega)]
 have g2:((C.set fs (C.getD fs 0+S*M0)).set (fs+1) (C.getD (fs+1) 0+S*M1)).getD (fs+2) 0=C.getD (fs+2) 0:=by rw[qB _ _ _ _ (by simp;omega),if_neg (by omega),qB _ _ _ _ (by omega),if_neg (by omega)]
 refine⟨by simp[hl],?_,fun k=>?_⟩
 ·rw[kj _ _ (by simp;omega),kj _ _ (by simp;omega),kj _ _ (by omega),g1,g2]
  have e1:(2:Int)^(30*(fs+1))=1073741824*2^(30*fs):=by rw[show 30*(fs+1)=30+30*fs by omega,Int.pow_add];rfl
  have e2:(2:Int)^(30*(fs+2))=1152921504606846976*2^(30*fs):=by rw[show 30*(fs+2)=60+30*fs by omega,Int.pow_add];rfl
  rw[e1,e2]
  show _=cv C+S*(M0+M1*1073741824+M2*1152921504606846976)*2^(30*fs)
  generalize (2:Int)^(30*fs)=Q
  rw[show C.getD fs 0+S*M0-C.getD fs 0=S*M0 by omega,show C.getD (fs+1) 0+S*M1-C.getD (fs+1) 0=S*M1 by omega,show C.getD (fs+2) 0+S*M2-C.getD (fs+2) 0=S*M2 by omega]
  simp only[Int.mul_add,Int.add_mul,Int.mul_assoc,Int.mul_comm,Int.mul_left_comm]
  omega
 ·have m0:-1073741824≤S*M0∧S*M0≤1073741824:=by rcases hS with rfl|rfl<;>omega
  have m1:-1073741824≤S*M1∧S*M1≤1073741824:=by rcases hS with rfl|rfl<;>omega
  have m2:-1073741824≤S*M2∧S*M2≤1073741824:=by rcases hS with rfl|rfl<;>omega
  rw[qB _ _ _ _ (by simp;omega),qB _ _ _ _ (by simp;omega),qB _ _ _ _ (by omega)]
  by_cases h2:fs+2=k
  ·rw[if_pos h2,←h2];omega
  ·rw[if_neg h2]
   by_cases h1:fs+1=k
   ·rw[if_pos h1,←h1];omega
   ·rw[if_neg h1]
    by_cases h0:fs=k
    ·rw[if_pos h0,←h0];omega
    ·rw[if_neg h0];omega
theorem J8 (w:World)(b:Nat)(C:List Int)(f:Nat)(hT:TotAt w b C f)(hC:∀k,-1152921504606846976≤C.getD k 0∧C.getD k 0≤1152921504606846976)(x:Nat)(q:Int)(hx:Fl 64 x q):
  Calls Tryz.prog 77 #[.pointer (some ⟨b,0,none⟩),.float .f64 x] w fun e w'=>e=.returned (.tuple #[])∧(∃C',Clm C C' (if q=(ifn 64:Int)∨q=-(ifn 64:Int)then 0 else zw x)∧TotAt w' b C' (if q=(ifn 64:Int)∨q=-(ifn 64:Int)then x else f))∧Grw b w w':=by
 obtain⟨q',hq',hK,o1,o2,o3,o4,o5,o6⟩:=hx.wide
 have hqq:q'=q:=by
  have h1:=hx.ord hx
  obtain⟨c,c1,c2,c3,c4⟩:=hx
  have e:qQ c=x:=by rw[c4];simp[fl]
  have e2:qd (qv x) 64=qd c 64:=by rw[←z7 _ o4 o5,←z7 _ c2.1 c2.2,o6,e]
  omega
 rw[hqq]at o3
 have KO:Hid (∀u,Calls Tryz.prog 104 #[.float .f64 x] u fun e w'=>e=.returned (.int .i64 (qv x))∧u=w'):=fun u=>xs x u
 have KP:=fun u=>Qz (qv x) 64 o4 o5 u
 have hf:=vK (qv x) 64 (.inl rfl) o2 ⟨o4,o5⟩
 rw[o3]at hf
 by_cases hi:q=(ifn 64:Int)∨q=-(ifn 64:Int)
 ·simp only[if_pos hi]
  rw[qh3 (fun h=>h hi)]at hf
  rw[hf]at KP
  refine(qep w b C f hT x _ _ _ _ KO (fun u=>KP u)).mono ?_
  rintro e w' ⟨rfl,h1,h2⟩
  exact⟨rfl,⟨C,⟨hT.len,by omega,fun k=>by omega⟩,h1⟩,h2⟩
 ·simp only[if_neg hi]
  rw[qh2 hi]at hf
  rw[hf]at KP
  have hc:cls (qv x) 64<3:=by
   unfold fin at hf
   rw[qh1]at hf
   exact hf.2
  obtain⟨p1,p2,p3,p4⟩:=xG _ hc
  obtain⟨fs,hfs⟩:∃fs:Nat,(fs:Int)=(qA (qv x) 64+1074)/30:=⟨((qA (qv x) 64+1074)/30).toNat,by omega⟩
  obtain⟨s,hs⟩:∃s:Nat,(s:Int)=(qA (qv x) 64+1074)%30:=⟨((qA (qv x) 64+1074)%30).toNat,by omega⟩
  have hs30:s<30:=by omega
  have hpe:qA (qv x) 64+1074=30*(fs:Int)+s:=by omega
  have hfl:fs+3≤71:=by omega
  obtain⟨b0,b1,b2⟩:=ZM _ ⟨p1,p2⟩ s hs30 _ _ _ rfl rfl rfl
  have hws:=Yl (qw (qv x) 64) s hs30 _ _ _ rfl rfl rfl
  have hz:∀S:Int,S*(qw (qv x) 64*2^s)*2^(30*fs)=S*(qw (qv x) 64*2^(qA (qv x) 64+1074).toNat):=fun S=>by
   rw[show(qA (qv x) 64+1074).toNat=s+30*fs by omega,Int.pow_add]
   simp only[Int.mul_assoc]
  cases hng:qS (qv x) 64
  ·rw[hng]at KP
   refine(qb3 w b C f hT hC x _ _ _ fs s hs30 hpe hfl ⟨p3,p4⟩ _ _ _ b0 b1 b2 rfl rfl rfl KO (fun u=>KP u)).mono ?_
   rintro e w' ⟨rfl,h1,h2⟩
   have hcl:=J7 C hT.len fs hfl 1 _ _ _ (.inl rfl) b0 b1 b2
   rw[hws,hz]at hcl
   refine⟨rfl,⟨_,?_,h1⟩,h2⟩
   have:zw x=1*(qw (qv x) 64*2^(qA (qv x) 64+1074).toNat):=by unfold zw;rw[hng];simp[sg]
   rw[this]
   exact hcl
  ·rw[hng]at KP
   refine(qb4 w b C f hT hC x _ _ _ fs s hs30 hpe hfl ⟨p3,p4⟩ _ _ _ b0 b1 b2 rfl rfl rfl KO (fun u=>KP u)).mono ?_
   rintro e w' ⟨rfl,h1,h2⟩
   have hcl:=J7 C hT.len fs hfl (-1) _ _ _ (.inr rfl) b0 b1 b2
   rw[hws,hz]at hcl
   refine⟨rfl,⟨_,?_,h1⟩,h2⟩
   have:zw x=-1*(qw (qv x) 64*2^(qA (qv x) 64+1074).toNat):=by unfold zw;rw[hng];simp[sg]
   rw[this]
   exact hcl
end Go.Proofs.YtaglkncdedeipaaGreatDoor
