/-  -/
import Derived.Test.YtnniljhdcplkgaaGreatDoorWs20
import Derived.Test.YtnniljhdcplkgaaGreatDoorWs17
import Derived.Test.YtnniljhdcplkgaaGreatDoorWs14
import Derived.Test.YtnniljhdcplkgaaGreatDoorWs19
import Derived.Test.YtnniljhdcplkgaaGreatDoorWs15
import Derived.Test.YtnniljhdcplkgaaGreatDoorWs16
namespace Go.Proofs.YtnniljhdcplkgaaGreatDoor
open Go.ChangeShapes Go.WideShapes Go.ChangeAt Go.RowKit
set_option maxHeartbeats 16000000
set_option maxRecDepth 100000
set_option linter.unusedVariables false
set_option linter.unusedSimpArgs false
def ofN (b n:Int):Nm:=(frm (pneg b n) (pmag b n).toNat (pexp b n)).getD ⟨false,[],0⟩
theorem fin_of (b n:Int)(hn:n=64∨n=32)(hc:cls b n<3):fin b n=true:=by simp[fin,hn,hc]
theorem fl_64 (b:Int)(hc:cls b 64<3):0≤pmag b 64∧pmag b 64<9007199254740992∧-1074≤pexp b 64∧pexp b 64≤971∧(pmag b 64<4503599627370496→pexp b 64=-1074):=by
 have hf:=fin_of b 64 (.inl rfl) hc
 have hs:b%9223372036854775808<9218868437227405312:=by
  unfold cls clsOf at hc
  simp only[if_true]at hc
  (repeat' split at hc)<;>omega
 unfold pmag pexp
 rw[if_pos hf,if_pos rfl,if_pos hf,if_pos rfl]
 (repeat' split)<;>omega
theorem fl_32 (b:Int)(hc:cls b 32<3):0≤pmag b 32∧pmag b 32<16777216∧-149≤pexp b 32∧pexp b 32≤104∧(pmag b 32<8388608→pexp b 32=-149):=by
 have hf:=fin_of b 32 (.inr rfl) hc
 have hs:b%2147483648<2139095040:=by
  unfold cls clsOf at hc
  rw[if_neg (by decide),if_pos rfl]at hc
  (repeat' split at hc)<;>omega
 unfold pmag pexp
 simp only[hf,if_true,show ¬((32:Int)=64) by decide,if_false]
 (repeat' split)<;>omega
theorem fl_any (b n:Int)(hn:n=64∨n=32)(hc:cls b n<3):0≤pmag b n∧pmag b n<2^(kprec n).toNat∧kleast n≤pexp b n∧pexp b n≤1000∧-1074≤pexp b n∧(pmag b n<2^((kprec n).toNat-1)→pexp b n=kleast n):=by
 rcases hn with rfl|rfl
 ·obtain⟨h1,h2,h3,h4,h5⟩:=fl_64 b hc
  refine⟨h1,?_,h3,by omega,h3,fun h=>h5 ?_⟩
  ·exact h2
  ·exact h
 ·obtain⟨h1,h2,h3,h4,h5⟩:=fl_32 b hc
  refine⟨h1,?_,h3,by omega,by omega,fun h=>h5 ?_⟩
  ·exact h2
  ·exact h
theorem bl_mag (b n:Int)(hn:n=64∨n=32)(hc:cls b n<3):bl (pmag b n).toNat≤(kprec n).toNat∧bl (pmag b n).toNat≤53:=by
 obtain⟨h1,h2,-⟩:=fl_any b n hn hc
 have:=bl_le (pmag b n).toNat (kprec n).toNat (by
  have e:(((pmag b n).toNat:Nat):Int)<((2^(kprec n).toNat:Nat):Int):=by push_cast;rw[Int.toNat_of_nonneg h1];exact h2
  exact_mod_cast e)
 refine⟨this,?_⟩
 rcases hn with rfl|rfl
 ·exact this
 ·exact Nat.le_trans this (by decide)
theorem of_zero (b n:Int)(h:pmag b n=0):frm (pneg b n) (pmag b n).toNat (pexp b n)=some ⟨false,[],0⟩∧ofN b n=⟨false,[],0⟩:=by
 have:frm (pneg b n) (pmag b n).toNat (pexp b n)=some ⟨false,[],0⟩:=by rw[h];simp[frm]
 exact⟨this,by unfold ofN;rw[this];rfl⟩
theorem tzn_le_bl (v:Nat)(hv:v≠0):tzn v<bl v:=by
 have h:=bl_sub v hv
 have:=(bl_pos _ h.2).2.2
 omega
theorem of_some (b n:Int)(hn:n=64∨n=32)(hc:cls b n<3)(h0:pmag b n≠0):frm (pneg b n) (pmag b n).toNat (pexp b n)=some (ofN b n)∧ofN b n=⟨pneg b n,digs ((pmag b n).toNat/2^tzn (pmag b n).toNat),pexp b n+(tzn (pmag b n).toNat:Int)⟩:=by
 obtain⟨h1,h2,h3,h4,h5,h6⟩:=fl_any b n hn hc
 have hb:=(bl_mag b n hn hc).2
 have hv:(pmag b n).toNat≠0:=by omega
 have ht:=tzn_le_bl _ hv
 have hw:wrap64 (pexp b n+(tzn (pmag b n).toNat:Int))=pexp b n+(tzn (pmag b n).toNat:Int):=by unfold wrap64;omega
 have:frm (pneg b n) (pmag b n).toNat (pexp b n)=some ⟨pneg b n,digs ((pmag b n).toNat/2^tzn (pmag b n).toNat),pexp b n+(tzn (pmag b n).toNat:Int)⟩:=by
  unfold frm
  rw[if_neg hv,hw,if_pos ⟨by omega,by omega,by omega⟩]
 exact⟨by rw[this];unfold ofN;rw[this];rfl,by unfold ofN;rw[this];rfl⟩
theorem of_frm (b n:Int)(hn:n=64∨n=32)(hc:cls b n<3):frm (pneg b n) (pmag b n).toNat (pexp b n)=some (ofN b n):=by
 by_cases h:pmag b n=0
 ·obtain⟨h1,h2⟩:=of_zero b n h
  rw[h1,h2]
 ·exact(of_some b n hn hc h).1
theorem of_fin (b n:Int)(hb1:-9223372036854775808≤b)(hb2:b≤9223372036854775807)(hn:n=64∨n=32)(hc:cls b n<3)(w:World)(hT:Tab w):Calls Tryz.prog 73 #[.int .i64 b,.int .i64 n] w fun e w'=>∃v,e=.returned (.tuple #[v,.int .i64 0])∧New w w' v (ofN b n)∧Kept w w':=by
 have hK:Kept w (numW w):=(Kept.refl w).alloc _ _
 obtain⟨h1,h2,h3,h4,h5,h6⟩:=fl_any b n hn hc
 have hbl:=(bl_mag b n hn hc).2
 have hlt:=bl_lt (pmag b n).toNat
 have hm53:(pmag b n).toNat<2^53:=Nat.lt_of_lt_of_le hlt (Nat.pow_le_pow_right (by decide) hbl)
 have hm:pmag b n<9007199254740992:=by
  have:(2:Nat)^53=9007199254740992:=by decide
  omega
 have KK:Hid (∀u,Calls Tryz.prog 109 #[.int .i64 n] u fun e w'=>e=.returned (.tuple #[.agg #[.int .i64 n,.int .i64 (kprec n),.int .i64 (kleast n),.int .i64 (kinf n)],.bool true])∧Kept u w'):=fun u=>kindOf_ok n hn u
 have KP:Hid (∀u,Calls Tryz.prog 110 #[.int .i64 b,.int .i64 n] u fun e w'=>e=.returned (.tuple #[.bool (pneg b n),.int .i64 (pmag b n),.int .i64 (pexp b n),.bool true])∧Kept u w'):=fun u=>by
  have:=parts_any b n hb1 hb2 u
  rw[fin_of b n hn hc]at this
  exact this
 have hf:=of_frm b n hn hc
 generalize pmag b n=s at *
 have hw1:IntKind.u64.wrap s=s:=by rw[IntKind.wrap_u64];omega
 have KD:Hid (∀u,Calls Tryz.prog 75 #[.int .u64 s] u fun e w'=>e=.returned (.slice (some ⟨u.heap.size,0,none⟩) 3 3)∧w'=u.alloc (.cells #[.int .i64 (s%1073741824),.int .i64 (s/1073741824%1073741824),.int .i64 (s/1152921504606846976)] 3)):=fun u=>digitsOf_any s h1 (by omega) u
 have hDg:Dg [s%1073741824,s/1073741824%1073741824,s/1152921504606846976]:=Dg.cons (by omega) (by omega) (Dg.cons (by omega) (by omega) (Dg.cons (by omega) (by omega) Dg.nil))
 have hnv:nv [s%1073741824,s/1073741824%1073741824,s/1152921504606846976]=s.toNat:=by
  show(s%1073741824).toNat+1073741824*((s/1073741824%1073741824).toNat+1073741824*((s/1152921504606846976).toNat+1073741824*0))=s.toNat
  omega
 have KF:Hid (∀u,Kept (numW w) u→Calls Tryz.prog 74 #[.bool (pneg b n),.slice (some ⟨u.heap.size,0,none⟩) 3 3,.int .i64 (pexp b n)] (u.alloc (.cells #[.int .i64 (s%1073741824),.int .i64 (s/1073741824%1073741824),.int .i64 (s/1152921504606846976)] 3)) fun e w'=>(∃v,e=.returned v∧New (numW w) w' v (ofN b n))∧Kept (numW w) w'):=fun u k=>form_ok _ _ hDg (by simp) _ 3 (pexp b n) (numW w) _ (k.alloc _ _) k.below.size (own_three u _ _ _) (hT.kept (hK.trans (k.alloc _ _))) _ (by rw[hnv];exact hf)
 generalize kprec n=pr at *
 generalize kleast n=le at *
 generalize kinf n=fi at *
 generalize pneg b n=ng at *
 generalize pexp b n=ex at *
 generalize ofN b n=r at *
 clear hDg hnv hf hT h1 h2 h3 h4 h5 h6 hbl hlt hm53 hm
 go_enter Tryz.func73,Tryz.ntmps73
 go_wp2_with fail
 refine(KK.out _).mono ?_
 rintro e w1 ⟨rfl,k1⟩
 have k1':=k1.alloc #[.int .i64 n,.int .i64 pr,.int .i64 le,.int .i64 fi] 107
 go_wp2_with fail
 refine(KP.out _).mono ?_
 rintro e w2 ⟨rfl,k2⟩
 have kk:=k1'.trans k2
 go_wp2_with fail
 refine(KD.out _).mono ?_
 rintro e w3 ⟨rfl,rfl⟩
 go_wp2_with fail
 refine(KF.out _ kk).mono ?_
 rintro e w4 ⟨⟨v,rfl,hN⟩,k4⟩
 obtain⟨vn,va,vl,vc,vx,rfl⟩:=hN.shape
 obtain⟨f0,f1,f2,f3⟩:=num_cells k4
 go_wp2_with fail
 have:=num_done hN k4 (.bool vn) (.slice va vl vc) (.int .i64 vx)
 exact bodyPost_ret (v:=.tuple #[.agg #[.bool vn,.slice va vl vc,.int .i64 vx],.int .i64 0]) (by simp[results,Tryz.results73,go_sem,f0,f1,f2]) rfl ⟨_,rfl,this.1,this.2⟩
end Go.Proofs.YtnniljhdcplkgaaGreatDoor
namespace Go.Proofs.YtnniljhdcplkgaaGreatDoor
open Go.ChangeShapes Go.WideShapes Go.ChangeAt Go.RowKit
set_option maxHeartbeats 16000000
set_option maxRecDepth 100000
set_option linter.unusedVariables false
set_option linter.unusedSimpArgs false
theorem and_nat (a b:Nat)(ha:a<9223372036854775808)(hb:b<9223372036854775808):bits .and .i64 (a:Int) (b:Int)=((a&&& b:Nat):Int):=by
 rw[bits_and,BitVec.toNat_and]
 have h1:=ofInt_toNat (a:Int)
 have h2:=ofInt_toNat (b:Int)
 have e1:(BitVec.ofInt 64 (a:Int)).toNat=a:=by omega
 have e2:(BitVec.ofInt 64 (b:Int)).toNat=b:=by omega
 have h3:a&&& b≤a:=Nat.and_le_left
 rw[e1,e2,wrap_i64]
 omega
theorem and_mask (a m:Nat)(ha:a<9223372036854775808)(hm:m<62):bits .and .i64 (a:Int) (((2^m-1:Nat)):Int)=((a%2^m:Nat):Int):=by
 have hp:(2:Nat)^m≤2^62:=Nat.pow_le_pow_right (by decide) (by omega)
 have h62:(2:Nat)^62=4611686018427387904:=by decide
 rw[and_nat _ _ ha (by omega),Nat.and_two_pow_sub_one_eq_mod]
theorem leading_nil (ng:Bool)(ao:Option Addr)(c:Nat)(x:Int)(w:World):Calls Tryz.prog 140 #[.agg #[.bool ng,.slice ao 0 c,.int .i64 x]] w fun e w'=>e=.returned (.agg #[.bool false,.int .i64 0,.int .i64 0,.bool false])∧Kept w w':=by
 go_enter Tryz.func140,Tryz.ntmps140
 go_wp2
 exact bodyPost_ret (v:=.agg #[.bool false,.int .i64 0,.int .i64 0,.bool false]) (by simp[results,Tryz.results140,go_sem]) rfl ⟨rfl,((Kept.refl w).alloc _ _).alloc _ _⟩
end Go.Proofs.YtnniljhdcplkgaaGreatDoor
namespace Go.Proofs.YtnniljhdcplkgaaGreatDoor
open Go.ChangeShapes Go.WideShapes Go.ChangeAt Go.RowKit
set_option maxHeartbeats 16000000
set_option maxRecDepth 100000
set_option linter.unusedVariables false
set_option linter.unusedSimpArgs false
theorem frm_vld (neg:Bool)(v:Nat)(x:Int)(r:Nm)(h:frm neg v x=some r):vld r=true∧Rg r.mag∧r.mag.length≤2000:=by
 unfold frm at h
 split at h
 ·cases h
  exact⟨rfl,fun d hd=>(by cases hd),by simp⟩
 ·rename_i hv
  split at h
  ·rename_i hy
   cases h
   have hs:=bl_sub v hv
   have hq:=(bl_pos _ hs.2).2.2
   have hl:=digs_len _ hs.2
   have hne:digs (v/2^tzn v)≠[]:=by
    intro he
    rw[he]at hl
    simp only[List.length_nil]at hl
    omega
   have hdg:=dg_digs (v/2^tzn v)
   have hodd:(digs (v/2^tzn v)).getD 0 0%2=1:=by
    have h1:=(tzn_div v hv).1
    have h2:=nv_getD _ hdg 0
    rw[nv_digs,Nat.mul_zero,Nat.pow_zero,Nat.div_one]at h2
    have h3:=hdg.getD 0
    omega
   refine⟨?_,hdg.rg,by dsimp only;omega⟩
   unfold vld
   dsimp only
   rw[if_neg hne]
   unfold vldN
   rw[(dgb_iff _).2 hdg,and_one]
   simp only[Bool.and_eq_true,decide_eq_true_eq,bne_iff_ne,beq_iff_eq]
   exact⟨⟨⟨⟨⟨by omega,trivial⟩,digs_last _ hs.2⟩,hodd⟩,hy.2.1⟩,hy.2.2⟩
  ·cases h
end Go.Proofs.YtnniljhdcplkgaaGreatDoor

namespace Go.Proofs.YtnniljhdcplkgaaGreatDoor
open Go.ChangeShapes Go.WideShapes Go.ChangeAt Go.RowKit
set_option maxHeartbeats 16000000
set_option maxRecDepth 100000
set_option linter.unusedVariables false
set_option linter.unusedSimpArgs false
def cbn (n:Int):Nat:=if n=64 then 4503599627370496 else 8388608
theorem cbn_pow (n:Int)(hn:n=64∨n=32):cbn n=2^((kprec n).toNat-1)∧2≤(kprec n).toNat:=by
 rcases hn with rfl|rfl<;>decide
theorem rv_lt (n:Int)(hn:n=64∨n=32)(r s:Nat)(h:r<s):rv (cbn n) r<rv (cbn n) s:=by
 rcases hn with rfl|rfl
 ·have:=rungVal_lt FloatKind.f64.format h
  unfold rungVal at this
  rw[bin64]at this
  exact this
 ·have:=rungVal_lt FloatKind.f32.format h
  unfold rungVal at this
  rw[bin32]at this
  exact this
def unN (n:Int)(r:Nm):Int:=unz (kprec n).toNat (kleast n) (bl (nv r.mag)) r.exp
def kpN (n:Int)(r:Nm):Nat:=flo (nv r.mag) (r.exp-unN n r)
def flN (n:Int)(r:Nm):Nat:=(unN n r-kleast n).toNat*cbn n+kpN n r
def odN (n:Int)(r:Nm):Bool:=decide (kpN n r%2=1)
def hfN (n:Int)(r:Nm):Bool:=decide (flo (nv r.mag) (r.exp-unN n r+1)%2=1)
def rtN (n:Int)(r:Nm):Bool:=rst (nv r.mag) (r.exp-unN n r+1)
def mgN (n way:Int)(r:Nm):Nat:=if r.mag=[]then 0 else mgz way r.neg (ifn n) (flN n r) (odN n r) (hfN n r) (rtN n r)
def oxN (n way:Int)(r:Nm):Bool:=if r.mag=[]then false else odz way r.neg (ifn n) (flN n r) (odN n r) (hfN n r) (rtN n r)
def kyN (n way:Int)(r:Nm):Int:=if r.neg=true then -(mgN n way r:Int)else (mgN n way r:Int)
def rzN (n way:Int)(r:Nm):Int:=pz n (kyN n way r)
theorem nv_ne (r:Nm)(hv:vld r=true)(hne:r.mag≠[]):nv r.mag≠0:=by
 obtain⟨n,L,x⟩:=r
 exact Nat.pos_iff_ne_zero.1 (nv_pos_of n L x hne hv)
theorem mgN_le (n way:Int)(r:Nm):mgN n way r≤ifn n:=by
 unfold mgN
 split
 ·omega
 ·exact mgz_le _ _ _ _ _ _ _
theorem kyN_range (n way:Int)(r:Nm):-(ifn n:Int)≤kyN n way r∧kyN n way r≤(ifn n:Int):=by
 have:=mgN_le n way r
 unfold kyN
 split<;>omega
theorem vz_sign (s:Int)(r:Nm)(hv:vld r=true):(r.neg=true→vz s r<0)∧(r.neg=false→0≤vz s r)∧(r.mag=[]→r.neg=false∧vz s r=0):=by
 by_cases hne:r.mag=[]
 ·obtain⟨n,L,x⟩:=r
  simp only at hne
  subst hne
  have hn:n=false:=by
   simp only[vld,if_pos,Bool.and_eq_true]at hv
   simpa using hv.1
  subst hn
  rw[vz_nil]
  simp
 ·have h0:=nv_ne r hv hne
  have hp:=Nat.two_pow_pos (r.exp-s).toNat
  have hm:0<nv r.mag*2^(r.exp-s).toNat:=Nat.mul_pos (by omega) hp
  have ha:=vz_abs s r
  refine⟨fun h=>?_,fun h=>?_,fun h=>absurd h hne⟩
  ·unfold vz sg
   rw[h,if_pos rfl]
   have:((nv r.mag:Int)*2^(r.exp-s).toNat)=((nv r.mag*2^(r.exp-s).toNat:Nat):Int):=by push_cast;rfl
   omega
  ·unfold vz sg
   rw[h,if_neg (by decide)]
   have:((nv r.mag:Int)*2^(r.exp-s).toNat)=((nv r.mag*2^(r.exp-s).toNat:Nat):Int):=by push_cast;rfl
   omega
end Go.Proofs.YtnniljhdcplkgaaGreatDoor

namespace Go.Proofs.YtnniljhdcplkgaaGreatDoor
open Go.ChangeShapes Go.WideShapes Go.ChangeAt Go.RowKit
set_option maxHeartbeats 16000000
set_option maxRecDepth 100000
set_option linter.unusedVariables false
set_option linter.unusedSimpArgs false
theorem vld_digs (r:Nm)(hv:vld r=true)(hne:r.mag≠[]):digs (nv r.mag)=r.mag∧nv r.mag≠0∧r.mag.length≤2000∧-1048576≤r.exp∧r.exp≤1048576:=by
 have h0:=nv_ne r hv hne
 obtain⟨hl,hD⟩:=vld_dg r.neg r.mag r.exp hv
 unfold vld at hv
 rw[if_neg hne]at hv
 unfold vldN at hv
 simp only[Bool.and_eq_true,decide_eq_true_eq,bne_iff_ne]at hv
 exact⟨digs_nv r.mag hD (Or.inr hv.1.1.1.2),h0,by omega,by omega,by omega⟩
theorem rtold_64 (b:Int)(odd:Bool)(w:World):Calls Tryz.prog 78 #[.agg #[.int .i64 64,.int .i64 53,.int .i64 4503599627370496,.int .i64 2047,.int .i64 (-1074),.int .i64 1024,.int .i64 9218868437227405312,.int .i64 (-9223372036854775808),.int .i64 9221120237041090561],.int .i64 b,.bool odd] w fun e w'=>e=.returned (.tuple #[.int .i64 (if b=-9223372036854775808 then 0 else b),.bool odd])∧Kept w w':=by
 by_cases hb:b=-9223372036854775808
 ·rw[if_pos hb]
  subst hb
  go_enter Tryz.func78,Tryz.ntmps78
  go_wp2
  go_ret2
  exact⟨rfl,(Kept.refl _).alloc _ _⟩
 ·rw[if_neg hb]
  have hb2:(b==(-9223372036854775808))=false:=by simp[hb]
  go_enter Tryz.func78,Tryz.ntmps78
  go_wp2
  go_ret2
  exact⟨rfl,(Kept.refl _).alloc _ _⟩
theorem rcut_zero_64 (way x:Int)(va:Value)(w:World)(hL:RL w va []):Calls Tryz.prog 58 #[.agg #[.int .i64 64,.int .i64 53,.int .i64 4503599627370496,.int .i64 2047,.int .i64 (-1074),.int .i64 1024,.int .i64 9218868437227405312,.int .i64 (-9223372036854775808),.int .i64 9221120237041090561],.bool false,va,.int .i64 x,.bool false,.int .i64 way] w fun e w'=>e=.returned (.tuple #[.int .i64 0,.bool false])∧Kept w w':=by
 have KB:Hid (∀v,Kept w v→Calls Tryz.prog 55 #[va] v fun e w'=>e=.returned (.int .i64 0)∧v=w'):=fun v kv=>natBits_any v 0 va (hL.kept kv) (by simp[digs_zero])
 have hK:Kept w (w.alloc (.cells #[.int .i64 64,.int .i64 53,.int .i64 4503599627370496,.int .i64 2047,.int .i64 (-1074),.int .i64 1024,.int .i64 9218868437227405312,.int .i64 (-9223372036854775808),.int .i64 9221120237041090561] 66)):=(Kept.refl w).alloc _ _
 clear hL
 go_enter Tryz.func58,Tryz.ntmps58
 go_wp2_with (first|(go_at_call 55;refine(KB.out _ hK).mono ?_;rintro e w1 ⟨rfl,rfl⟩))
 go_ret2
 exact⟨rfl,hK⟩
theorem rto_64 (way:Int)(hw:way=0∨way=1∨way=2)(r:Nm)(hv:vld r=true)(va:Value)(w:World)(hL:RL w va r.mag):Calls Tryz.prog 86 #[.agg #[.int .i64 64,.int .i64 53,.int .i64 4503599627370496,.int .i64 2047,.int .i64 (-1074),.int .i64 1024,.int .i64 9218868437227405312,.int .i64 (-9223372036854775808),.int .i64 9221120237041090561],.agg #[.bool r.neg,va,.int .i64 r.exp],.int .i64 way] w fun e w'=>e=.returned (.tuple #[.int .i64 (rzN 64 way r),.bool (oxN 64 way r)])∧Kept w w':=by
 obtain⟨b,hb⟩:∃b:Int,b=(if r.neg=true then (-9223372036854775808)else 0)+(mgN 64 way r:Int):=⟨_,rfl⟩
 have KCt:Hid (∀v,Kept w v→Calls Tryz.prog 58 #[.agg #[.int .i64 64,.int .i64 53,.int .i64 4503599627370496,.int .i64 2047,.int .i64 (-1074),.int .i64 1024,.int .i64 9218868437227405312,.int .i64 (-9223372036854775808),.int .i64 9221120237041090561],.bool r.neg,va,.int .i64 r.exp,.bool false,.int .i64 way] v fun e w'=>e=.returned (.tuple #[.int .i64 b,.bool (oxN 64 way r)])∧Kept v w'):=by
  intro v kv
  by_cases hne:r.mag=[]
  ·have hng:r.neg=false:=(vz_sign 0 r hv).2.2 hne|>.1
   have e1:mgN 64 way r=0:=by unfold mgN;rw[if_pos hne]
   have e2:oxN 64 way r=false:=by unfold oxN;rw[if_pos hne]
   rw[hb,hng,e1,e2]
   rw[hne]at hL
   exact rcut_zero_64 way r.exp va v (hL.kept kv)
  ·obtain⟨hd,h0,hl,hx1,hx2⟩:=vld_digs r hv hne
   have:=rcut_64 way hw r.neg (nv r.mag) h0 r.exp false va v (by rw[hd];exact hL.kept kv) (by rw[hd];omega) (by omega) (by omega) (unN 64 r) rfl (kpN 64 r) rfl (flN 64 r) rfl (odN 64 r) (hfN 64 r) (rtN 64 r) rfl rfl rfl _ rfl
   unfold oxN mgN at *
   rw[if_neg hne]at hb ⊢
   rw[hb]
   exact this
 have e3:(if b=-9223372036854775808 then 0 else b)=rzN 64 way r:=by
  have hm:=mgN_le 64 way r
  have hi:ifn 64=9218868437227405312:=rfl
  rw[hi]at hm
  unfold rzN kyN pz
  rw[hb]
  cases r.neg
  ·simp only[Bool.false_eq_true,if_false,if_true]
   (repeat' split)<;>first|omega|(exfalso;simp_all;done)
  ·simp only[if_true]
   (repeat' split)<;>first|omega|(exfalso;simp_all;done)
 have KT:Hid (∀v,Calls Tryz.prog 78 #[.agg #[.int .i64 64,.int .i64 53,.int .i64 4503599627370496,.int .i64 2047,.int .i64 (-1074),.int .i64 1024,.int .i64 9218868437227405312,.int .i64 (-9223372036854775808),.int .i64 9221120237041090561],.int .i64 b,.bool (oxN 64 way r)] v fun e w'=>e=.returned (.tuple #[.int .i64 (rzN 64 way r),.bool (oxN 64 way r)])∧Kept v w'):=fun v=>by
  have:=rtold_64 b (oxN 64 way r) v
  rw[e3]at this
  exact this
 obtain⟨sa,sn,sc,rfl⟩:∃sa sn sc,va=.slice sa sn sc:=by
  obtain⟨ao,c,h,-⟩:=hL
  exact⟨ao,_,c,h⟩
 obtain⟨X,hX⟩:∃X,X=(w.alloc (.cells #[.int .i64 64,.int .i64 53,.int .i64 4503599627370496,.int .i64 2047,.int .i64 (-1074),.int .i64 1024,.int .i64 9218868437227405312,.int .i64 (-9223372036854775808),.int .i64 9221120237041090561] 66)).alloc (.cells #[.bool r.neg,.slice sa sn sc,.int .i64 r.exp] 43):=⟨_,rfl⟩
 have hK:Kept w X:=by rw[hX];exact((Kept.refl w).alloc _ _).alloc _ _
 have h9:K9 X w.heap.size (.int .i64 64) (.int .i64 53) (.int .i64 4503599627370496) (.int .i64 2047) (.int .i64 (-1074)) (.int .i64 1024) (.int .i64 9218868437227405312) (.int .i64 (-9223372036854775808)) (.int .i64 9221120237041090561):=by rw[hX];exact(K9.new w _ _ _ _ _ _ _ _ _ _).kept ((Kept.refl _).alloc _ _)
 have n0:X.cell? ⟨w.heap.size+1,0,none⟩=some (.bool r.neg):=by rw[hX];simp[go_sem]
 have n1:X.cell? ⟨w.heap.size+1,1,none⟩=some (.slice sa sn sc):=by rw[hX];simp[go_sem]
 have n2:X.cell? ⟨w.heap.size+1,2,none⟩=some (.int .i64 r.exp):=by rw[hX];simp[go_sem]
 have HS:Hid (∀u,Kept X u→Kept X u∧u.cell? ⟨w.heap.size,0,none⟩=some (.int .i64 64)∧u.cell? ⟨w.heap.size,1,none⟩=some (.int .i64 53)∧u.cell? ⟨w.heap.size,2,none⟩=some (.int .i64 4503599627370496)∧u.cell? ⟨w.heap.size,3,none⟩=some (.int .i64 2047)∧u.cell? ⟨w.heap.size,4,none⟩=some (.int .i64 (-1074))∧u.cell? ⟨w.heap.size,5,none⟩=some (.int .i64 1024)∧u.cell? ⟨w.heap.size,6,none⟩=some (.int .i64 9218868437227405312)∧u.cell? ⟨w.heap.size,7,none⟩=some (.int .i64 (-9223372036854775808))∧u.cell? ⟨w.heap.size,8,none⟩=some (.int .i64 9221120237041090561)∧u.cell? ⟨w.heap.size+1,0,none⟩=some (.bool r.neg)∧u.cell? ⟨w.heap.size+1,1,none⟩=some (.slice sa sn sc)∧u.cell? ⟨w.heap.size+1,2,none⟩=some (.int .i64 r.exp)):=fun u ku=>by
  obtain⟨-,g0,g1,g2,g3,g4,g5,g6,g7,g8⟩:=h9.kept ku
  have hb1:w.heap.size+1<X.heap.size:=by rw[hX];simp[go_sem]
  exact⟨ku,g0,g1,g2,g3,g4,g5,g6,g7,g8,(ku.below.cell (p:=⟨w.heap.size+1,0,none⟩) hb1).trans n0,(ku.below.cell (p:=⟨w.heap.size+1,1,none⟩) hb1).trans n1,(ku.below.cell (p:=⟨w.heap.size+1,2,none⟩) hb1).trans n2⟩
 clear e3 hb hL h9 n0 n1 n2
 have kd:=(Kept.refl X).drew
 generalize rzN 64 way r=RZ at *
 generalize oxN 64 way r=OX at *
 generalize r.neg=NG at *
 generalize r.exp=EX at *
 go_enter Tryz.func86,Tryz.ntmps86
 go_upto_region 1 with fail
 rw[←hX]
 clear hX
 go_region_held (fun u=>Kept X u∧u.cell? ⟨w.heap.size,0,none⟩=some (.int .i64 64)∧u.cell? ⟨w.heap.size,1,none⟩=some (.int .i64 53)∧u.cell? ⟨w.heap.size,2,none⟩=some (.int .i64 4503599627370496)∧u.cell? ⟨w.heap.size,3,none⟩=some (.int .i64 2047)∧u.cell? ⟨w.heap.size,4,none⟩=some (.int .i64 (-1074))∧u.cell? ⟨w.heap.size,5,none⟩=some (.int .i64 1024)∧u.cell? ⟨w.heap.size,6,none⟩=some (.int .i64 9218868437227405312)∧u.cell? ⟨w.heap.size,7,none⟩=some (.int .i64 (-9223372036854775808))∧u.cell? ⟨w.heap.size,8,none⟩=some (.int .i64 9221120237041090561)∧u.cell? ⟨w.heap.size+1,0,none⟩=some (.bool NG)∧u.cell? ⟨w.heap.size+1,1,none⟩=some (.slice sa sn sc)∧u.cell? ⟨w.heap.size+1,2,none⟩=some (.int .i64 EX)) (first|assumption|exact HS.out _ kd|exact HS.out _ (by assumption)) (first|(go_at_call 58;refine(KCt.out _ (hK.trans (by first|exact kd|assumption))).mono ?_;rintro e w1 ⟨rfl,k1⟩;replace kd:=kd.trans k1)|(go_at_call 78;refine(KT.out _).mono ?_;rintro e w2 ⟨rfl,k2⟩;replace kd:=kd.trans k2))
 go_wp2_with fail
 go_ret2
 exact⟨rfl,hK.trans kd⟩
theorem rtold_32 (b:Int)(odd:Bool)(w:World):Calls Tryz.prog 78 #[.agg #[.int .i64 32,.int .i64 24,.int .i64 8388608,.int .i64 255,.int .i64 (-149),.int .i64 128,.int .i64 2139095040,.int .i64 2147483648,.int .i64 2143289345],.int .i64 b,.bool odd] w fun e w'=>e=.returned (.tuple #[.int .i64 (if b=2147483648 then 0 else b),.bool odd])∧Kept w w':=by
 by_cases hb:b=2147483648
 ·rw[if_pos hb]
  subst hb
  go_enter Tryz.func78,Tryz.ntmps78
  go_wp2
  go_ret2
  exact⟨rfl,(Kept.refl _).alloc _ _⟩
 ·rw[if_neg hb]
  have hb2:(b==2147483648)=false:=by simp[hb]
  go_enter Tryz.func78,Tryz.ntmps78
  go_wp2
  go_ret2
  exact⟨rfl,(Kept.refl _).alloc _ _⟩
theorem rcut_zero_32 (way x:Int)(va:Value)(w:World)(hL:RL w va []):Calls Tryz.prog 58 #[.agg #[.int .i64 32,.int .i64 24,.int .i64 8388608,.int .i64 255,.int .i64 (-149),.int .i64 128,.int .i64 2139095040,.int .i64 2147483648,.int .i64 2143289345],.bool false,va,.int .i64 x,.bool false,.int .i64 way] w fun e w'=>e=.returned (.tuple #[.int .i64 0,.bool false])∧Kept w w':=by
 have KB:Hid (∀v,Kept w v→Calls Tryz.prog 55 #[va] v fun e w'=>e=.returned (.int .i64 0)∧v=w'):=fun v kv=>natBits_any v 0 va (hL.kept kv) (by simp[digs_zero])
 have hK:Kept w (w.alloc (.cells #[.int .i64 32,.int .i64 24,.int .i64 8388608,.int .i64 255,.int .i64 (-149),.int .i64 128,.int .i64 2139095040,.int .i64 2147483648,.int .i64 2143289345] 66)):=(Kept.refl w).alloc _ _
 clear hL
 go_enter Tryz.func58,Tryz.ntmps58
 go_wp2_with (first|(go_at_call 55;refine(KB.out _ hK).mono ?_;rintro e w1 ⟨rfl,rfl⟩))
 go_ret2
 exact⟨rfl,hK⟩
theorem rto_32 (way:Int)(hw:way=0∨way=1∨way=2)(r:Nm)(hv:vld r=true)(va:Value)(w:World)(hL:RL w va r.mag):Calls Tryz.prog 86 #[.agg #[.int .i64 32,.int .i64 24,.int .i64 8388608,.int .i64 255,.int .i64 (-149),.int .i64 128,.int .i64 2139095040,.int .i64 2147483648,.int .i64 2143289345],.agg #[.bool r.neg,va,.int .i64 r.exp],.int .i64 way] w fun e w'=>e=.returned (.tuple #[.int .i64 (rzN 32 way r),.bool (oxN 32 way r)])∧Kept w w':=by
 obtain⟨b,hb⟩:∃b:Int,b=(if r.neg=true then 2147483648 else 0)+(mgN 32 way r:Int):=⟨_,rfl⟩
 have KCt:Hid (∀v,Kept w v→Calls Tryz.prog 58 #[.agg #[.int .i64 32,.int .i64 24,.int .i64 8388608,.int .i64 255,.int .i64 (-149),.int .i64 128,.int .i64 2139095040,.int .i64 2147483648,.int .i64 2143289345],.bool r.neg,va,.int .i64 r.exp,.bool false,.int .i64 way] v fun e w'=>e=.returned (.tuple #[.int .i64 b,.bool (oxN 32 way r)])∧Kept v w'):=by
  intro v kv
  by_cases hne:r.mag=[]
  ·have hng:r.neg=false:=(vz_sign 0 r hv).2.2 hne|>.1
   have e1:mgN 32 way r=0:=by unfold mgN;rw[if_pos hne]
   have e2:oxN 32 way r=false:=by unfold oxN;rw[if_pos hne]
   rw[hb,hng,e1,e2]
   rw[hne]at hL
   exact rcut_zero_32 way r.exp va v (hL.kept kv)
  ·obtain⟨hd,h0,hl,hx1,hx2⟩:=vld_digs r hv hne
   have:=rcut_32 way hw r.neg (nv r.mag) h0 r.exp false va v (by rw[hd];exact hL.kept kv) (by rw[hd];omega) (by omega) (by omega) (unN 32 r) rfl (kpN 32 r) rfl (flN 32 r) rfl (odN 32 r) (hfN 32 r) (rtN 32 r) rfl rfl rfl _ rfl
   unfold oxN mgN at *
   rw[if_neg hne]at hb ⊢
   rw[hb]
   exact this
 have e3:(if b=2147483648 then 0 else b)=rzN 32 way r:=by
  have hm:=mgN_le 32 way r
  have hi:ifn 32=2139095040:=rfl
  rw[hi]at hm
  unfold rzN kyN pz
  rw[hb]
  cases r.neg
  ·simp only[Bool.false_eq_true,if_false,if_true]
   (repeat' split)<;>first|omega|(exfalso;simp_all;done)
  ·simp only[if_true]
   (repeat' split)<;>first|omega|(exfalso;simp_all;done)
 have KT:Hid (∀v,Calls Tryz.prog 78 #[.agg #[.int .i64 32,.int .i64 24,.int .i64 8388608,.int .i64 255,.int .i64 (-149),.int .i64 128,.int .i64 2139095040,.int .i64 2147483648,.int .i64 2143289345],.int .i64 b,.bool (oxN 32 way r)] v fun e w'=>e=.returned (.tuple #[.int .i64 (rzN 32 way r),.bool (oxN 32 way r)])∧Kept v w'):=fun v=>by
  have:=rtold_32 b (oxN 32 way r) v
  rw[e3]at this
  exact this
 obtain⟨sa,sn,sc,rfl⟩:∃sa sn sc,va=.slice sa sn sc:=by
  obtain⟨ao,c,h,-⟩:=hL
  exact⟨ao,_,c,h⟩
 obtain⟨X,hX⟩:∃X,X=(w.alloc (.cells #[.int .i64 32,.int .i64 24,.int .i64 8388608,.int .i64 255,.int .i64 (-149),.int .i64 128,.int .i64 2139095040,.int .i64 2147483648,.int .i64 2143289345] 66)).alloc (.cells #[.bool r.neg,.slice sa sn sc,.int .i64 r.exp] 43):=⟨_,rfl⟩
 have hK:Kept w X:=by rw[hX];exact((Kept.refl w).alloc _ _).alloc _ _
 have h9:K9 X w.heap.size (.int .i64 32) (.int .i64 24) (.int .i64 8388608) (.int .i64 255) (.int .i64 (-149)) (.int .i64 128) (.int .i64 2139095040) (.int .i64 2147483648) (.int .i64 2143289345):=by rw[hX];exact(K9.new w _ _ _ _ _ _ _ _ _ _).kept ((Kept.refl _).alloc _ _)
 have n0:X.cell? ⟨w.heap.size+1,0,none⟩=some (.bool r.neg):=by rw[hX];simp[go_sem]
 have n1:X.cell? ⟨w.heap.size+1,1,none⟩=some (.slice sa sn sc):=by rw[hX];simp[go_sem]
 have n2:X.cell? ⟨w.heap.size+1,2,none⟩=some (.int .i64 r.exp):=by rw[hX];simp[go_sem]
 have HS:Hid (∀u,Kept X u→Kept X u∧u.cell? ⟨w.heap.size,0,none⟩=some (.int .i64 32)∧u.cell? ⟨w.heap.size,1,none⟩=some (.int .i64 24)∧u.cell? ⟨w.heap.size,2,none⟩=some (.int .i64 8388608)∧u.cell? ⟨w.heap.size,3,none⟩=some (.int .i64 255)∧u.cell? ⟨w.heap.size,4,none⟩=some (.int .i64 (-149))∧u.cell? ⟨w.heap.size,5,none⟩=some (.int .i64 128)∧u.cell? ⟨w.heap.size,6,none⟩=some (.int .i64 2139095040)∧u.cell? ⟨w.heap.size,7,none⟩=some (.int .i64 2147483648)∧u.cell? ⟨w.heap.size,8,none⟩=some (.int .i64 2143289345)∧u.cell? ⟨w.heap.size+1,0,none⟩=some (.bool r.neg)∧u.cell? ⟨w.heap.size+1,1,none⟩=some (.slice sa sn sc)∧u.cell? ⟨w.heap.size+1,2,none⟩=some (.int .i64 r.exp)):=fun u ku=>by
  obtain⟨-,g0,g1,g2,g3,g4,g5,g6,g7,g8⟩:=h9.kept ku
  have hb1:w.heap.size+1<X.heap.size:=by rw[hX];simp[go_sem]
  exact⟨ku,g0,g1,g2,g3,g4,g5,g6,g7,g8,(ku.below.cell (p:=⟨w.heap.size+1,0,none⟩) hb1).trans n0,(ku.below.cell (p:=⟨w.heap.size+1,1,none⟩) hb1).trans n1,(ku.below.cell (p:=⟨w.heap.size+1,2,none⟩) hb1).trans n2⟩
 clear e3 hb hL h9 n0 n1 n2
 have kd:=(Kept.refl X).drew
 generalize rzN 32 way r=RZ at *
 generalize oxN 32 way r=OX at *
 generalize r.neg=NG at *
 generalize r.exp=EX at *
 go_enter Tryz.func86,Tryz.ntmps86
 go_upto_region 1 with fail
 rw[←hX]
 clear hX
 go_region_held (fun u=>Kept X u∧u.cell? ⟨w.heap.size,0,none⟩=some (.int .i64 32)∧u.cell? ⟨w.heap.size,1,none⟩=some (.int .i64 24)∧u.cell? ⟨w.heap.size,2,none⟩=some (.int .i64 8388608)∧u.cell? ⟨w.heap.size,3,none⟩=some (.int .i64 255)∧u.cell? ⟨w.heap.size,4,none⟩=some (.int .i64 (-149))∧u.cell? ⟨w.heap.size,5,none⟩=some (.int .i64 128)∧u.cell? ⟨w.heap.size,6,none⟩=some (.int .i64 2139095040)∧u.cell? ⟨w.heap.size,7,none⟩=some (.int .i64 2147483648)∧u.cell? ⟨w.heap.size,8,none⟩=some (.int .i64 2143289345)∧u.cell? ⟨w.heap.size+1,0,none⟩=some (.bool NG)∧u.cell? ⟨w.heap.size+1,1,none⟩=some (.slice sa sn sc)∧u.cell? ⟨w.heap.size+1,2,none⟩=some (.int .i64 EX)) (first|assumption|exact HS.out _ kd|exact HS.out _ (by assumption)) (first|(go_at_call 58;refine(KCt.out _ (hK.trans (by first|exact kd|assumption))).mono ?_;rintro e w1 ⟨rfl,k1⟩;replace kd:=kd.trans k1)|(go_at_call 78;refine(KT.out _).mono ?_;rintro e w2 ⟨rfl,k2⟩;replace kd:=kd.trans k2))
 go_wp2_with fail
 go_ret2
 exact⟨rfl,hK.trans kd⟩
end Go.Proofs.YtnniljhdcplkgaaGreatDoor
