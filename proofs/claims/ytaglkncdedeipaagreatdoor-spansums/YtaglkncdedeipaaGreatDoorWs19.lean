/-  -/
import Derived.Test.YtaglkncdedeipaaGreatDoorWs18
import Derived.Test.YtaglkncdedeipaaGreatDoorWs08
import Derived.Laws.Shifts
import Derived.Test.YtaglkncdedeipaaGreatDoorWs17
namespace Go.Proofs.YtaglkncdedeipaaGreatDoor
open Go.ChangeShapes Go.WideShapes Go.ChangeAt Go.RowKit
set_option linter.unusedVariables false
set_option linter.unusedSimpArgs false
set_option maxHeartbeats 16000000
set_option maxRecDepth 100000
theorem VT (h m:Nat):h&&& 2^m=(h/2^m%2)*2^m:=by
 apply Nat.eq_of_testBit_eq
 intro i
 rw[Nat.testBit_and,Nat.testBit_two_pow]
 by_cases hi:m=i
 ·subst hi
  rw[Nat.testBit_mul_two_pow]
  simp[Nat.testBit_eq_decide_div_mod_eq]
 ·rw [Nat.testBit_mul_two_pow]
  rcases Nat.mod_two_eq_zero_or_one (h/2^m)with h0|h0
  ·simp[h0,hi]
  ·rw[h0]
   by_cases hl:m≤i
   ·have h1:(1:Nat).testBit (i-m)=false:=by
     rw[Nat.testBit_eq_decide_div_mod_eq,Nat.div_eq_of_lt (Nat.one_lt_two_pow (by omega))]
     rfl
    simp[hi,h1]
   ·simp[hi,hl]
theorem qd4 (h m:Nat)(hh:h<2^62)(hm:m<62):(bits .and .i64 (h:Int) (wrap64 (2^m)) != 0)=decide (h/2^m%2=1)∧(bits .and .i64 (h:Int) (IntKind.i64.wrap (wrap64 (2^m)-1)) != 0)=(h%2^m != 0):=by
 have h60:(2:Nat)^62=4611686018427387904:=by decide
 have h1:(2:Nat)^m≤2^61:=qhw (by decide) (by omega)
 have h61:(2:Nat)^61=2305843009213693952:=by decide
 have hpos:=qht m
 have hw:wrap64 (2^m)=((2^m:Nat):Int):=by
  rw[show((2:Int)^m)=((2^m:Nat):Int) by push_cast;rfl]
  unfold wrap64
  omega
 rw[hw]
 constructor
 ·rw[yz h (2^m) (by omega) (by omega),VT]
  by_cases hb:h/2^m%2=1
  ·rw[qh2 hb,hb,Nat.one_mul]
   have:¬((2^m:Nat):Int)=0:=by omega
   simpa [bne_iff_ne] using this
  ·rw[qh3 hb,show h/2^m%2=0 by omega,Nat.zero_mul]
   rfl
 ·have hw2:IntKind.i64.wrap (((2^m:Nat):Int)-1)=((2^m-1:Nat):Int):=by rw[qc];omega
  rw[hw2,qa9 h m (by omega) hm]
  by_cases hb:h%2^m=0
  ·simp[hb]
  ·rw[show(h%2^m != 0)=true by simpa using hb]
   have:¬((h%2^m:Nat):Int)=0:=by omega
   simpa [bne_iff_ne] using this
theorem JI (h m:Nat)(hh:h<2^62)(hm:62≤m)(hm2:m≤63):bits .and .i64 (h:Int) ((2^m-1:Nat):Int)=(h:Int):=by
 have h60:(2:Nat)^62=4611686018427387904:=by decide
 have h63:(2:Nat)^63=9223372036854775808:=by decide
 have h1:(2:Nat)^m≤2^63:=qhw (by decide) hm2
 have h2:(2:Nat)^62≤2^m:=qhw (by decide) hm
 rw[yz h (2^m-1) (by omega) (by omega),Nat.and_two_pow_sub_one_eq_mod,Nat.mod_eq_of_lt (by omega)]
theorem qd5 (m:Nat)(hm:62≤m):∃P,Op.shift .shl .i64 1 .i64 (m:Int)=pure (.int .i64 P)∧∀h:Nat,h<2^62→bits .and .i64 (h:Int) P=0∧bits .and .i64 (h:Int) (IntKind.i64.wrap (P-1))=(h:Int):=by
 have h60:(2:Nat)^62=4611686018427387904:=by decide
 have hs:=shift_shl_any .i64 .i64 1 (m:Int) (by omega)
 rw[Int.one_mul,Int.toNat_natCast]at hs
 by_cases h62:m=62
 ·refine⟨_,hs,fun h hh=>?_⟩
  subst h62
  rw[show IntKind.i64.wrap (2^min 62 IntKind.i64.bits)=((2^62:Nat):Int) by decide]
  constructor
  ·rw[yz h (2^62) (by omega) (by decide),VT,Nat.div_eq_of_lt (by omega),Nat.zero_mod,Nat.zero_mul]
   rfl
  ·rw[show IntKind.i64.wrap (((2^62:Nat):Int)-1)=((2^62-1:Nat):Int) by decide]
   exact JI h 62 hh (by decide) (by decide)
 ·by_cases h63:m=63
  ·refine⟨_,hs,fun h hh=>?_⟩
   subst h63
   rw[show IntKind.i64.wrap (2^min 63 IntKind.i64.bits)=-9223372036854775808 by decide]
   constructor
   ·rw[Zl (h:Int) (by omega) (by omega),if_neg (by omega)]
   ·rw[show IntKind.i64.wrap ((-9223372036854775808:Int)-1)=((2^63-1:Nat):Int) by decide]
    exact JI h 63 hh (by decide) (by decide)
  ·refine⟨_,hs,fun h hh=>?_⟩
   rw[show min m IntKind.i64.bits=64 by show min m 64=64;omega,show IntKind.i64.wrap (2^64)=0 by decide]
   constructor
   ·rw[zo];simp[qc]
   ·rw[show IntKind.i64.wrap ((0:Int)-1)=-1 by decide,zo,show BitVec.ofInt 64 (-1)=BitVec.allOnes 64 by decide,BitVec.and_allOnes,qs,qc]
    omega
theorem VU (h m:Nat)(hh:h<2^62)(hm:62≤m):Op.shift .shr .i64 (h:Int) .i64 ((m:Int)+1)=pure (.int .i64 0):=by
 rw[shift_shr_any .i64 .i64 (h:Int) ((m:Int)+1) (by omega)]
 have h1:(2:Nat)^62≤2^min ((m:Int)+1).toNat IntKind.i64.bits:=qhw (by decide) (by show 62≤min ((m:Int)+1).toNat 64;omega)
 have h2:(h:Int)/2^min ((m:Int)+1).toNat IntKind.i64.bits=((h/2^min ((m:Int)+1).toNat IntKind.i64.bits:Nat):Int):=by push_cast;rfl
 rw[h2,Nat.div_eq_of_lt (by omega)]
 rfl
def kyz (ng:Bool)(m:Nat):Int:=if ng=true then -(m:Int)else (m:Int)
theorem jH (n:Int)(hn:n=64∨n=32):((qF n).toNat:Int)=qF n∧(qF n=53∨qF n=24)∧(qi n=-1074∨qi n=-149):=by
 rcases hn with rfl|rfl<;>decide
theorem qd6 (n:Int)(hn:n=64∨n=32)(ng:Bool)(k2 F:Nat)(un:Int)(hE:qi n≤un)(hk:un=qi n∨cbn n≤k2)(hk3:k2≤2*cbn n)(hF:(un-qi n).toNat*cbn n+k2=F)(hlt:F<ifn n)(w:World)(hT:Tab w):Calls Tryz.prog 147 #[.bool (ng&&decide (0<(k2:Int))),.int .i64 (k2:Int),.int .i64 un,.int .i64 n] w fun e w'=>e=.returned (.tuple #[.int .i64 (pz n (kyz ng F)),.bool true])∧Kept w w':=by
 rcases hn with rfl|rfl
 ·simp only[show qi 64=-1074 by rfl,show cbn 64=4503599627370496 by rfl,show ifn 64=9218868437227405312 by rfl]at *
  refine YI _ (k2:Int) un (F:Int) _ (by omega) (by omega) hE (by omega) (by omega) (by omega) ?_ w hT
  unfold pz kyz
  have hF0:k2=0↔F=0:=by omega
  cases ng
  ·simp only[Bool.false_and,Bool.false_eq_true,if_false,reduceIte]
   rw[if_neg (by omega)]
  ·simp only[Bool.true_and,if_true,qh1,reduceIte]
   by_cases h0:k2=0
   ·rw[if_neg (by omega),if_neg (by omega)];omega
   ·rw[if_pos (by omega),if_pos (by omega)];omega
 ·simp only[show qi 32=-149 by rfl,show cbn 32=8388608 by rfl,show ifn 32=2139095040 by rfl]at *
  refine YJ _ (k2:Int) un (F:Int) _ (by omega) (by omega) hE (by omega) (by omega) (by omega) ?_ w hT
  unfold pz kyz
  have hF0:k2=0↔F=0:=by omega
  cases ng
  ·simp only[Bool.false_and,Bool.false_eq_true,if_false,show ¬((32:Int)=64) by decide,if_false]
   rw[if_neg (by omega)]
  ·simp only[Bool.true_and,if_true,qh1,show ¬((32:Int)=64) by decide,if_false]
   by_cases h0:k2=0
   ·rw[if_neg (by omega),if_neg (by omega)];omega
   ·rw[if_pos (by omega),if_pos (by omega)];omega
theorem qba (n:Int)(hn:n=64∨n=32)(p:Bool)(k2 F:Nat)(un:Int)(hE:qi n≤un)(hk:un=qi n∨cbn n≤k2)(hk3:k2≤2*cbn n)(hF:(un-qi n).toNat*cbn n+k2=F)(hlt:ifn n≤F)(w:World)(hT:Tab w):Calls Tryz.prog 147 #[.bool p,.int .i64 (k2:Int),.int .i64 un,.int .i64 n] w fun e w'=>e=.returned (.tuple #[.int .i64 0,.bool false])∧Kept w w':=by
 rcases hn with rfl|rfl
 ·simp only[show qi 64=-1074 by rfl,show cbn 64=4503599627370496 by rfl,show ifn 64=9218868437227405312 by rfl]at *
  exact XP _ (k2:Int) un (F:Int) (by omega) (by omega) hE (by omega) (by omega) (by omega) w hT
 ·simp only[show qi 32=-149 by rfl,show cbn 32=8388608 by rfl,show ifn 32=2139095040 by rfl]at *
  exact XQ _ (k2:Int) un (F:Int) (by omega) (by omega) hE (by omega) (by omega) (by omega) w hT
theorem YS (n:Int)(hn:n=64∨n=32)(K:Nat)(hcall:∀a w,(callFunc K #[a]).run Tryz.prog w=.ok (.enter K #[a]) w)(pr le:Int)(ng aw:Bool)(w:World)
  (KA:Hid (∀u,Calls Tryz.prog K #[.agg #[.bool ng,.bool false,.bool true,.bool true]] u fun e w'=>e=.returned (.bool aw)∧Kept u w')):
  Calls Tryz.prog 148 #[.agg #[.int .i64 n,.int .i64 pr,.int .i64 le,.int .i64 (zV n),.func (.func K) #[] #[]],.bool ng] w fun e w'=>e=.returned (.int .i64 (pz n (kyz ng (if aw=true then ifn n else ifn n-1))))∧Kept w w':=by
 have KP:Hid (∀u,Calls Tryz.prog 169 #[.int .i64 (zV n),.int .i64 n] u fun e w'=>e=.returned (.int .i64 (prv (zV n) n))∧Kept u w'):=fun u=>qch (zV n) n (by rcases hn with rfl|rfl<;>decide) (by rcases hn with rfl|rfl<;>decide) u
 cases ng
 ·cases aw
  ·have e:pz n (kyz false (ifn n-1))=prv (zV n) n:=by rcases hn with rfl|rfl<;>decide
   rw[if_neg (by decide),e]
   exact xX K hcall n pr le (zV n) _ _ w KA KP (fun u=>xI (prv (zV n) n) n (by rcases hn with rfl|rfl<;>decide) (by rcases hn with rfl|rfl<;>decide) u)
  ·have e:pz n (kyz false (ifn n))=zV n:=by rcases hn with rfl|rfl<;>decide
   rw[if_pos rfl,e]
   exact vE K hcall n pr le (zV n) _ _ w KA KP (fun u=>xI (zV n) n (by rcases hn with rfl|rfl<;>decide) (by rcases hn with rfl|rfl<;>decide) u)
 ·cases aw
  ·have e:pz n (kyz true (ifn n-1))=ngt (prv (zV n) n) n:=by rcases hn with rfl|rfl<;>decide
   rw[if_neg (by decide),e]
   exact vF K hcall n pr le (zV n) _ _ w KA KP (fun u=>xI (prv (zV n) n) n (by rcases hn with rfl|rfl<;>decide) (by rcases hn with rfl|rfl<;>decide) u)
  ·have e:pz n (kyz true (ifn n))=ngt (zV n) n:=by rcases hn with rfl|rfl<;>decide
   rw[if_pos rfl,e]
   exact vV K hcall n pr le (zV n) _ _ w KA KP (fun u=>xI (zV n) n (by rcases hn with rfl|rfl<;>decide) (by rcases hn with rfl|rfl<;>decide) u)
theorem qbb (ng:Bool)(h:Nat)(ex:Int)(rs:Bool)(m:Nat)(hh:h<2^62)(h0:h≠0)(hm9:m<8000000)(w:World):Calls Tryz.prog 146 #[.agg #[.bool ng,.int .i64 (h:Int),.int .i64 ex,.bool rs],.int .i64 ((m:Int)+1)] w fun e w'=>e=.returned (.tuple #[.int .i64 ((h/2^(m+1):Nat):Int),.agg #[.bool ng,.bool (decide (h/2^(m+1)%2=1)),.bool (decide (h/2^m%2=1)),.bool (rs||h%2^m != 0)]])∧Kept w w':=by
 by_cases hm:m<62
 ·obtain⟨b1,b2⟩:=qd4 h m hh hm
  have hk:(h:Int)/2^(m+1)=((h/2^(m+1):Nat):Int):=by push_cast;rfl
  have ho:(bits .and .i64 ((h/2^(m+1):Nat):Int) 1==1)=decide (h/2^(m+1)%2=1):=by
   rw[vu]
   by_cases hb:h/2^(m+1)%2=1
   ·rw[qh2 hb,beq_iff_eq];omega
   ·rw[qh3 hb,beq_eq_false_iff_ne];omega
  cases rs
  ·exact JB ng (h:Int) ex _ _ _ m hm _ _ _ hk rfl rfl _ _ _ rfl rfl rfl ho b1 (by rw[b2,Bool.false_or]) w
  ·exact XW ng (h:Int) ex _ _ _ m hm _ _ _ hk rfl rfl _ _ _ rfl rfl rfl ho b1 (by rw[Bool.true_or]) w
 ·have hb1:h<2^m:=qhu hh (qhw (by decide) (by omega))
  have hb2:h<2^(m+1):=qhu hh (qhw (by decide) (by omega))
  obtain⟨P,hsl,hP⟩:=qd5 m (by omega)
  obtain⟨q1,q2⟩:=hP h hh
  rw[Nat.div_eq_of_lt hb1,Nat.div_eq_of_lt hb2,Nat.mod_eq_of_lt hb1]
  have hr:((h:Int) != 0)=(rs||h != 0):=by
   have:(h != 0)=true:=by simpa using h0
   rw[this,Bool.or_true]
   have:¬(h:Int)=0:=by omega
   simpa [bne_iff_ne] using this
  cases rs
  ·exact ZC ng (h:Int) ex 0 P _ ((m:Int)+1) (m:Int) (by omega) (by omega) (VU h m hh (by omega)) (by rw[qc];omega) hsl _ _ _ rfl _ _ _ rfl q1 q2 rfl rfl hr w
  ·exact JH ng (h:Int) ex 0 P _ ((m:Int)+1) (m:Int) (by omega) (by omega) (VU h m hh (by omega)) (by rw[qc];omega) hsl _ _ _ rfl _ _ _ rfl q1 q2 rfl rfl (by rw[Bool.true_or]) w
structure Ldz (n:Int) (h B:Nat) (ex un:Int) (m k F:Nat):Prop where
 hun:un=max (ex+(B:Int)-qF n) (qi n)
 hm:un-ex=(m:Int)+1
 hk:k=h/2^(m+1)
 hF:F=(un-qi n).toNat*cbn n+k
theorem YT {n:Int}(hn:n=64∨n=32){h B:Nat}{ex un:Int}{m k F:Nat}(H:Ldz n h B ex un m k F)(h1:2^(B-1)≤h)(h2:h<2^B)(hB:54≤B):qi n≤un∧k<2*cbn n∧(un=qi n∨cbn n≤k):=by
 obtain⟨e1,e2,e3,e4⟩:=H
 obtain⟨c1,c2⟩:=ZD n hn
 obtain⟨p1,p2,p3⟩:=jH n hn
 have hp:2*cbn n=2^(qF n).toNat:=by rw[c1,←Nat.pow_succ'];congr 1;omega
 refine⟨by omega,?_,?_⟩
 ·rw[hp,e3,Nat.div_lt_iff_lt_mul (qht _),←qhv]
  exact qhu h2 (qhw (by decide) (by omega))
 ·by_cases hu:un=qi n
  ·exact Or.inl hu
  ·right
   rw[c1,e3,Nat.le_div_iff_mul_le (qht _),←qhv]
   exact qh4 (qhw (by decide) (by omega)) h1
theorem JK (way:Int)(hw:way=0∨way=1∨way=2)(ng od hf rt:Bool)(w:World):Calls Tryz.prog (wfv way) #[.agg #[.bool ng,.bool od,.bool hf,.bool rt]] w fun e w'=>e=.returned (.bool (awz way ng od hf rt))∧Kept w w':=by
 rcases hw with rfl|rfl|rfl
 ·exact qf1 ng od hf rt w
 ·exact qf2 ng od hf rt w
 ·exact qf3 ng od hf rt w
theorem qd7 (way:Int)(hw:way=0∨way=1∨way=2)(n:Int)(hn:n=64∨n=32)(ng:Bool)(h B:Nat)(ex:Int)(rs:Bool)(un:Int)(m k F:Nat)(H:Ldz n h B ex un m k F)(h1:2^(B-1)≤h)(h2:h<2^B)(hB:54≤B)(hB2:B≤62)(x1:-3000000≤ex)(x2:ex≤3000000)(od hf rt:Bool)(hod:od=decide (k%2=1))(hhf:hf=decide (h/2^m%2=1))(hrt:rt=(rs||h%2^m != 0))(w:World)(hT:Tab w):
  Calls Tryz.prog 113 #[.agg #[.int .i64 n,.int .i64 (qF n),.int .i64 (qi n),.int .i64 (zV n),.func (.func (wfv way)) #[] #[]],.agg #[.bool ng,.int .i64 (h:Int),.int .i64 ex,.bool rs]] w fun e w'=>e=.returned (.tuple #[.int .i64 (pz n (kyz ng (mgz way ng (ifn n) F od hf rt))),.bool (odz way ng (ifn n) F od hf rt)])∧Kept w w':=by
 obtain⟨u1,u2,u3⟩:=YT hn H h1 h2 hB
 obtain⟨e1,e2,e3,e4⟩:=H
 obtain⟨p1,p2,p3⟩:=jH n hn
 have hc:cbn n≤4503599627370496:=by unfold cbn;split<;>decide
 have h62:h<2^62:=qhu h2 (qhw (by decide) hB2)
 have hpp:(2:Nat)^62=4611686018427387904:=by decide
 have h0:0<h:=qhu (qht _) h1
 obtain⟨aw,haw⟩:∃aw,awz way ng od hf rt=aw:=⟨_,rfl⟩
 have hcall:=qa4 way hw
 have KL:Hid (∀u,Calls Tryz.prog 145 #[.int .u64 (h:Int)] u fun e w'=>e=.returned (.int .i64 (B:Int))∧u=w'):=fun u=>by
  have:=len (h:Int) u (by omega) (by omega)
  rw[Int.toNat_natCast,show Lib.bitLen h=B by have:=jQ (B-1) h (by omega) h1 (by rw[show B-1+1=B by omega];exact h2);omega]at this
  exact this
 have hk2:(if aw=true then (k:Int)+1 else (k:Int))=((k+aw.toNat:Nat):Int):=by cases aw<;>simp
 have hal:aw.toNat≤1:=Bool.toNat_le _
 have hFa:(un-qi n).toNat*cbn n+(k+aw.toNat)=F+aw.toNat:=by omega
 obtain⟨ok,hok⟩:∃ok,decide (F+aw.toNat<ifn n)=ok:=⟨_,rfl⟩
 have hmg:mgz way ng (ifn n) F od hf rt=if ok=true then F+aw.toNat else if awz way ng false true true=true then ifn n else ifn n-1:=by
  unfold mgz
  rw[haw,←hok]
  simp only[qh1]
 have hoz:odz way ng (ifn n) F od hf rt=if ok=true then (hf||rt)else true:=by
  unfold odz
  rw[haw,←hok]
  by_cases hl:F+aw.toNat<ifn n
  ·rw[qh2 hl,if_pos rfl,qh3 (by omega),Bool.or_false]
  ·rw[qh3 hl,if_neg (by decide),qh2 (by omega),Bool.or_true]
 rw[hmg,hoz]
 refine XT (wfv way) hcall n (qF n) (qi n) (zV n) (h:Int) ex (B:Int) (ex+(B:Int)) (ex+(B:Int)-qF n) un (k:Int) ((k:Int)+1) ((k+aw.toNat:Nat):Int) _ m ng od hf rt rs aw _ ok (by rw[beq_eq_false_iff_ne];omega) (by omega) (by rw[qc];omega) hk2 rfl (by rw[qam _ (by omega) (by omega)]) (by rw[qc];omega) (by rw[qc];omega) e1.symm (by rw[qc];omega) w KL (fun u=>?_) (fun u=>?_) (fun u ku=>?_) (fun ho u=>?_)
 ·rw[hod,hhf,hrt,e3]
  exact qbb ng h ex rs m h62 (by omega) (by omega) u
 ·refine(JK way hw ng od hf rt u).mono fun _ _ hh=>⟨?_,hh.2⟩
  rw[hh.1,haw]
 ·cases ok
  ·rw[if_neg (by decide)]
   exact qba n hn _ (k+aw.toNat) (F+aw.toNat) un u1 (by omega) (by omega) hFa (by have:=of_decide_eq_false hok;omega) u (hT.kept ku)
  ·rw[if_pos rfl,if_pos rfl]
   exact qd6 n hn ng (k+aw.toNat) (F+aw.toNat) un u1 (by omega) (by omega) hFa (of_decide_eq_true hok) u (hT.kept ku)
 ·rw[ho,if_neg (by decide)]
  refine YS n hn (wfv way) hcall _ _ ng _ u (fun u=>(JK way hw ng false true true u).mono fun _ _ hh=>⟨?_,hh.2⟩)
  rw[hh.1]
theorem qf8 (n:Int)(hn:n=64∨n=32)(r:Nm)(hv:vld r=true)(hne:r.mag≠[]):∃m:Nat,Ldz n (hd (nv r.mag)) 60 (r.exp+((bl (nv r.mag):Int)-60)) (unN n r) m (kpN n r) (flN n r)∧odN n r=decide (kpN n r%2=1)∧hfN n r=decide (hd (nv r.mag)/2^m%2=1)∧rtN n r=(decide (60<(bl (nv r.mag):Int))||hd (nv r.mag)%2^m != 0)∧2^(60-1)≤hd (nv r.mag)∧hd (nv r.mag)<2^60∧-3000000≤r.exp+((bl (nv r.mag):Int)-60)∧r.exp+((bl (nv r.mag):Int)-60)≤3000000:=by
 obtain⟨p1,p2,p3,p4,p5,p6⟩:=qX r.neg r.mag r.exp hne hv
 have hodd:=Zb r.mag p2 p4
 have h0:nv r.mag≠0:=by omega
 have hbl:=qY _ _ (zp r.mag p2)
 obtain⟨b1,b2,b3⟩:=qJ (nv r.mag) h0
 have hb:=xD _ h0
 obtain⟨q1,q2,q3⟩:=jH n hn
 obtain⟨u,hu⟩:∃u,unN n r=u:=⟨_,rfl⟩
 have hu2:=hu
 unfold unN unz at hu2
 obtain⟨m,hm⟩:∃m:Nat,u-(r.exp+((bl (nv r.mag):Int)-60))=(m:Int)+1:=⟨(u-(r.exp+((bl (nv r.mag):Int)-60))-1).toNat,by omega⟩
 refine⟨m,⟨?_,?_,?_,rfl⟩,rfl,?_,?_,hb.1,hb.2,by omega,by omega⟩
 ·rw[hu];omega
 ·rw[hu];exact hm
 ·unfold kpN hd
  rw[hu]
  exact(Xu (nv r.mag) (bl (nv r.mag)) (m+1) (r.exp-u) (by omega)).symm
 ·unfold hfN hd
  rw[hu,Xu (nv r.mag) (bl (nv r.mag)) m (r.exp-u+1) (by omega)]
 ·unfold rtN hd
  rw[hu]
  exact qcx (nv r.mag) (bl (nv r.mag)) m (r.exp-u+1) (by omega) hodd b2
theorem VV (way:Int)(fv:Nat)(n pr le fi:Int)(ng:Bool)(ao:Option Addr)(l c:Nat)(x res:Int)(ox:Bool)(ld:Array Value)(l0 l1 l2 l3:Value)(w:World)
  (KR:Hid (∀u,Kept ((w.alloc (.cells #[.bool ng,.slice ao l c,.int .i64 x] 31)).alloc (.cells #[.bool ng,.slice ao l c,.int .i64 x] 31)) u→Calls Tryz.prog 112 #[.int .i64 n,.int .i64 way,.slice (some ⟨w.heap.size+1,0,none⟩) 1 1] u fun e w'=>e=.returned (.tuple #[.agg #[.int .i64 n,.int .i64 pr,.int .i64 le,.int .i64 fi,.func (.func fv) #[] #[]],.int .i64 0])∧Kept u w'))
  (KD:Hid (∀u,Kept w u→Calls Tryz.prog 114 #[.agg #[.bool ng,.slice ao l c,.int .i64 x]] u fun e w'=>e=.returned (.agg #[l0,l1,l2,l3])∧Kept u w'))
  (KO:Hid (∀u,Kept w u→Calls Tryz.prog 113 #[.agg #[.int .i64 n,.int .i64 pr,.int .i64 le,.int .i64 fi,.func (.func fv) #[] #[]],.agg #[l0,l1,l2,l3]] u fun e w'=>e=.returned (.tuple #[.int .i64 res,.bool ox])∧Kept u w')):
  Calls Tryz.prog 84 #[.agg #[.bool ng,.slice ao l c,.int .i64 x],.int .i64 n,.int .i64 way] w fun e w'=>e=.returned (.tuple #[.int .i64 res,.bool ox,.int .i64 0])∧Kept w w':=by
 have hK:Kept w ((w.alloc (.cells #[.bool ng,.slice ao l c,.int .i64 x] 31)).alloc (.cells #[.bool ng,.slice ao l c,.int .i64 x] 31)):=((qia w).alloc _ _).alloc _ _
 go_enter Tryz.func84,Tryz.ntmps84
 go_wp2_with fail
 refine(KR.out _ (qia _)).mono ?_
 rintro e w1 ⟨rfl,k1⟩
 have k1':=k1.alloc #[.int .i64 n,.int .i64 pr,.int .i64 le,.int .i64 fi,.func (.func fv) #[] #[]] 149
 have hs1:=k1.below.size
 simp only[World.size_alloc]at hs1
 have kX:Kept (w.alloc (.cells #[.bool ng,.slice ao l c,.int .i64 x] 31)) (w1.alloc (.cells #[.int .i64 n,.int .i64 pr,.int .i64 le,.int .i64 fi,.func (.func fv) #[] #[]] 149)):=((qia _).alloc _ _).trans k1'
 have HS:Hid (∀u,Kept (w1.alloc (.cells #[.int .i64 n,.int .i64 pr,.int .i64 le,.int .i64 fi,.func (.func fv) #[] #[]] 149)) u→(u.cell? ⟨w1.heap.size,0,none⟩=some (.int .i64 n)∧u.cell? ⟨w1.heap.size,1,none⟩=some (.int .i64 pr)∧u.cell? ⟨w1.heap.size,2,none⟩=some (.int .i64 le)∧u.cell? ⟨w1.heap.size,3,none⟩=some (.int .i64 fi)∧u.cell? ⟨w1.heap.size,4,none⟩=some (.func (.func fv) #[] #[]))∧u.cell? ⟨w.heap.size,0,none⟩=some (.bool ng)∧u.cell? ⟨w.heap.size,1,none⟩=some (.slice ao l c)∧u.cell? ⟨w.heap.size,2,none⟩=some (.int .i64 x)):=fun u k=>⟨⟨(qg k 0).trans (by simp[go_sem]),(qg k 1).trans (by simp[go_sem]),(qg k 2).trans (by simp[go_sem]),(qg k 3).trans (by simp[go_sem]),(qg k 4).trans (by simp[go_sem])⟩,(qg (kX.trans k) 0).trans (by simp[go_sem]),(qg (kX.trans k) 1).trans (by simp[go_sem]),(qg (kX.trans k) 2).trans (by simp[go_sem])⟩
 have kD:Kept (w1.alloc (.cells #[.int .i64 n,.int .i64 pr,.int .i64 le,.int .i64 fi,.func (.func fv) #[] #[]] 149)) (w1.alloc (.cells #[.int .i64 n,.int .i64 pr,.int .i64 le,.int .i64 fi,.func (.func fv) #[] #[]] 149)).drew:=(qia _).drew
 go_wp2_with fail
 go_region_held (fun u=>(u.cell? ⟨w1.heap.size,0,none⟩=some (.int .i64 n)∧u.cell? ⟨w1.heap.size,1,none⟩=some (.int .i64 pr)∧u.cell? ⟨w1.heap.size,2,none⟩=some (.int .i64 le)∧u.cell? ⟨w1.heap.size,3,none⟩=some (.int .i64 fi)∧u.cell? ⟨w1.heap.size,4,none⟩=some (.func (.func fv) #[] #[]))∧u.cell? ⟨w.heap.size,0,none⟩=some (.bool ng)∧u.cell? ⟨w.heap.size,1,none⟩=some (.slice ao l c)∧u.cell? ⟨w.heap.size,2,none⟩=some (.int .i64 x)) (first|exact HS.out _ kD|assumption) (first|(go_at_call 114;refine(KD.out _ (hK.trans (k1'.trans kD))).mono ?_;rintro e w2 ⟨rfl,k2⟩;have e0:=HS.out _ (kD.trans k2))|(go_at_call 113;refine(KO.out _ (hK.trans (k1'.trans (kD.trans k2)))).mono ?_;rintro e w3 ⟨rfl,k3⟩;have e0:=HS.out _ (kD.trans (k2.trans k3))))
 all_goals
  go_wp2_with fail
  exact qh9 (v:=.tuple #[.int .i64 res,.bool ox,.int .i64 0]) (by simp[results,Tryz.results84,go_sem]) rfl ⟨rfl,hK.trans (k1'.trans (kD.trans (k2.trans k3)))⟩
theorem qbc (n way:Int)(hn:n=64∨n=32)(hw:way=0∨way=1∨way=2)(r:Nm)(hv:vld r=true)(ao:Option Addr)(c:Nat)(w:World)(hT:Tab w)(h:Sl w (.slice ao r.mag.length c) r.mag):
  Calls Tryz.prog 84 #[.agg #[.bool r.neg,.slice ao r.mag.length c,.int .i64 r.exp],.int .i64 n,.int .i64 way] w fun e w'=>e=.returned (.tuple #[.int .i64 (rzN n way r),.bool (oxN n way r),.int .i64 0])∧Kept w w':=by
 obtain⟨hlen,hDg⟩:=Za r.neg r.mag r.exp hv
 have KR:Hid (∀u,Kept ((w.alloc (.cells #[.bool r.neg,.slice ao r.mag.length c,.int .i64 r.exp] 31)).alloc (.cells #[.bool r.neg,.slice ao r.mag.length c,.int .i64 r.exp] 31)) u→Calls Tryz.prog 112 #[.int .i64 n,.int .i64 way,.slice (some ⟨w.heap.size+1,0,none⟩) 1 1] u fun e w'=>e=.returned (.tuple #[.agg #[.int .i64 n,.int .i64 (qF n),.int .i64 (qi n),.int .i64 (zV n),.func (.func (wfv way)) #[] #[]],.int .i64 0])∧Kept u w'):=fun u k=>by
  refine kW n way hn hw _ u ?_
  have hb:w.heap.size+1<((w.alloc (.cells #[.bool r.neg,.slice ao r.mag.length c,.int .i64 r.exp] 31)).alloc (.cells #[.bool r.neg,.slice ao r.mag.length c,.int .i64 r.exp] 31)).heap.size:=by simp
  exact Jg (w.heap.size+1) (qhu hb k.below.size) r.neg r.mag hDg.rg (by omega) ao c r.exp (h.kept ((((qia w).alloc _ _).alloc _ _).trans k)) ((k.below.cell (p:=⟨w.heap.size+1,0,none⟩) hb).trans (by simp[go_sem])) ((k.below.cell (p:=⟨w.heap.size+1,1,none⟩) hb).trans (by simp[go_sem])) ((k.below.cell (p:=⟨w.heap.size+1,2,none⟩) hb).trans (by simp[go_sem])) true hv
 by_cases hne:r.mag=[]
 ·have hng:=((ZE 0 r hv).2.2 hne).1
  have e1:rzN n way r=0:=by
   unfold rzN kyN mgN
   rw[if_pos hne,hng]
   rcases hn with rfl|rfl<;>decide
  have e2:oxN n way r=false:=by unfold oxN;rw[if_pos hne]
  rw[e1,e2]
  have hl0:r.mag.length=0:=by rw[hne];rfl
  rw[hl0]at KR h ⊢
  exact VV way _ n _ _ _ r.neg ao 0 c r.exp 0 false #[] _ _ _ _ w KR (fun u k=>JG r.neg ao c r.exp u) (fun u k=>XX n _ _ _ _ 0 false false u)
 ·obtain⟨m,H,o1,o2,o3,b1,b2,x1,x2⟩:=qf8 n hn r hv hne
  have e1:rzN n way r=pz n (kyz r.neg (mgz way r.neg (ifn n) (flN n r) (odN n r) (hfN n r) (rtN n r))):=by
   unfold rzN kyN kyz mgN
   rw[if_neg hne]
  have e2:oxN n way r=odz way r.neg (ifn n) (flN n r) (odN n r) (hfN n r) (rtN n r):=by unfold oxN;rw[if_neg hne]
  rw[e1,e2]
  exact VV way _ n _ _ _ r.neg ao r.mag.length c r.exp _ _ #[] _ _ _ _ w KR (fun u k=>JD r.neg r.mag r.exp hne hv ao c u (h.kept k)) (fun u k=>qd7 way hw n hn r.neg _ 60 _ _ _ m _ _ H b1 b2 (by decide) (by decide) x1 x2 _ _ _ o1 o2 o3 u (hT.kept k))
end Go.Proofs.YtaglkncdedeipaaGreatDoor
namespace Go.Proofs.YtaglkncdedeipaaGreatDoor
open Go.ChangeShapes Go.WideShapes Go.ChangeAt Go.RowKit Ieee
set_option linter.unusedVariables false
set_option linter.unusedSimpArgs false
set_option maxHeartbeats 16000000
set_option maxRecDepth 100000
theorem P2.grw {w w':World}{b c:Nat}{u v:Value}(h:P2 w b u v)(g:Grw c w w')(hne:b≠c):P2 w' b u v:=by
 have hb:=g.grown.block b h.lt (by simpa using hne)
 refine⟨?_,?_,fun o=>(g.frozen _).trans (h.fz o)⟩
 ·have:=h.c0
  simpa [World.cell?,hb] using this
 ·have:=h.c1
  simpa [World.cell?,hb] using this
theorem kn (n way:Int)(hn:n=64∨n=32)(r:Nm):RB (rzN n way r):=by
 have h:=jf n way r
 exact Xv n _ hn h.1 h.2
theorem qb5 (n way:Int)(hn:n=64∨n=32)(r:Nm):Fl n (flv (rzN n way r) n) (kyN n way r):=by
 have h:=jf n way r
 have hr:=kn n way hn r
 have:=Fl.flv (qc0 n _ hn h.1 h.2) hr.1 hr.2
 rw[qc1 n _ hn h.1 h.2]at this
 exact this
theorem xH {w w':World}{vn:Bool}{va:Option Addr}{vl vc:Nat}{vx:Int}{r:Nm}(h:New w w' (.agg #[.bool vn,.slice va vl vc,.int .i64 vx]) r):vn=r.neg∧vl=r.mag.length∧vx=r.exp∧Sl w' (.slice va vl vc) r.mag:=by
 have hs:=h.numAt
 obtain⟨s,e,hsl⟩:=hs
 simp only[Value.agg.injEq,Array.mk.injEq,List.cons.injEq,Value.bool.injEq,Value.int.injEq,true_and,and_true]at e
 obtain⟨e1,rfl,e3⟩:=e
 have hl:vl=r.mag.length:=by
  obtain⟨ao,cap,e,-⟩:=hsl
  injection e
 exact⟨e1,hl,e3,hsl⟩
theorem J9 (n way:Int)(hn:n=64∨n=32)(hw:way=0∨way=1∨way=2)(w:World)(hT:Tab w)(b:Nat)(C:List Int)(hC:∀j,-9223372036854775807≤C.getD j 0∧C.getD j 0≤9223372036854775807)(h:TotAt w b C 0)(r:Nm)(hr:cfm (cv C) (-1074)=some r):
  Calls Tryz.prog 78 #[.pointer (some ⟨b,0,none⟩),.int .i64 n,.int .i64 way] w fun e w'=>e=.returned (.float .f64 (flv (rzN n way r) n))∧Kept w w':=by
 have hlen:=h.len
 have hv:=(VS _ _ _ _ hr).1
 have hL:=(VS _ _ _ _ hr).2.2
 have KI:Hid (∀u,Calls Tryz.prog 81 #[.float .f64 0,.int .i64 0] u fun e w'=>e=.returned (.bool false)∧u=w'):=fun u=>by
  have:=xF (Fl.zero 64 (.inl rfl)) u
  rw[show decide ((0:Int)=(ifn 64:Int)∨(0:Int)=-(ifn 64:Int))=false by decide]at this
  exact this
 have KC:Hid (∀u,Kept w u→Calls Tryz.prog 106 #[.slice (some ⟨b,0,none⟩) 71 71,.int .i64 (-1074)] u fun e w'=>∃v,e=.returned (.tuple #[v,.int .i64 0])∧New u w' v r∧Kept u w'):=fun u k=>by
  have hu:=h.kept k
  have:=Xw u (hT.kept k) b 0 71 hu.lt C (by omega) hC (-1074) (fun j hj=>by rw[Nat.zero_add];exact hu.col j (by omega)) r hr
  rw[hlen]at this
  exact this
 have KR:Hid (∀u (a0:Option Addr) (c:Nat),Kept w u→Sl u (.slice a0 r.mag.length c) r.mag→Calls Tryz.prog 84 #[.agg #[.bool r.neg,.slice a0 r.mag.length c,.int .i64 r.exp],.int .i64 n,.int .i64 way] u fun e w'=>e=.returned (.tuple #[.int .i64 (rzN n way r),.bool (oxN n way r),.int .i64 0])∧Kept u w'):=fun u a0 c k hs=>qbc n way hn hw r hv a0 c u (hT.kept k) hs
 have KF:Hid (∀u,Calls Tryz.prog 85 #[.int .i64 (rzN n way r),.int .i64 n] u fun e w'=>e=.returned (.float .f64 (flv (rzN n way r) n))∧Kept u w'):=fun u=>jU _ n (kn n way hn r).1 (kn n way hn r).2 u
 have hinf:=h.inf
 generalize rzN n way r=z at *
 generalize oxN n way r=ox at *
 generalize flv z n=y at *
 go_enter Tryz.func78,Tryz.ntmps78
 go_upto_region 4 with (first|(go_at_call 81;refine(KI.out _).mono ?_;rintro e w1 ⟨rfl,rfl⟩)|(go_at_call 106;refine(KC.out _ (qia _)).mono ?_;rintro e w2 ⟨v,rfl,hN,k2⟩;obtain⟨vn,va,vl,vc,vx,rfl⟩:=hN.shape))
 obtain⟨rfl,rfl,rfl,hsl⟩:=xH hN
 have HS:Hid (Sl w2 (.slice va r.mag.length vc) r.mag):=hsl
 have HK:Hid (Kept w w2):=k2
 clear hsl hN hinf KC KI hC h hT hr
 go_wp2_with (first|(go_at_call 84;refine(KR.out _ _ _ (HK.out.alloc _ _) (HS.out.kept ((qia _).alloc _ _))).mono ?_;rintro e w3 ⟨rfl,k3⟩)|(go_at_call 85;refine(KF.out _).mono ?_;rintro e w4 ⟨rfl,k4⟩))
 go_ret
 exact⟨rfl,((HK.out.alloc _ _).trans k3).trans k4⟩
theorem Xa (n way:Int)(w:World)(b:Nat)(C:List Int)(f:Nat)(q:Int)(hf:Fl 64 f q)(hq:q=(ifn 64:Int)∨q=-(ifn 64:Int))(h:TotAt w b C f):
  Calls Tryz.prog 78 #[.pointer (some ⟨b,0,none⟩),.int .i64 n,.int .i64 way] w fun e w'=>e=.returned (.float .f64 f)∧Kept w w':=by
 have KI:Hid (∀u,Calls Tryz.prog 81 #[.float .f64 f,.int .i64 0] u fun e w'=>e=.returned (.bool true)∧u=w'):=fun u=>by
  have:=xF hf u
  rw[qh2 hq]at this
  exact this
 have hinf:=h.inf
 clear h hf
 go_enter Tryz.func78,Tryz.ntmps78
 go_wp2_with (first|(go_at_call 81;refine(KI.out _).mono ?_;rintro e w1 ⟨rfl,rfl⟩))
 go_ret
 exact⟨rfl,qia _⟩
abbrev ze (q:Int):Prop:=q=(ifn 64:Int)∨q=-(ifn 64:Int)
def sV (f:Nat→Nat)(q:Nat→Int):Nat→Int
 |0=>0
 |m+1=>sV f q m+(if ze (q m)then 0 else zw (f m))
def iW (f:Nat→Nat)(q:Nat→Int):Nat→Nat
 |0=>0
 |m+1=>if ze (q m)then f m else iW f q m
def iQ (q:Nat→Int):Nat→Int
 |0=>0
 |m+1=>if ze (q m)then q m else iQ q m
theorem qhc (f:Nat→Nat)(q:Nat→Int)(m:Nat)(h:∀i,i<m→Fl 64 (f i) (q i)):Fl 64 (iW f q m) (iQ q m):=by
 induction m with
 |zero=>exact Fl.zero 64 (.inl rfl)
 |succ m ih=>
  unfold iW iQ
  split
  ·exact h m (by omega)
  ·exact ih (fun i hi=>h i (by omega))
theorem V5 (q:Nat→Int)(m:Nat):ze (iQ q m)∨(iQ q m=0∧∀i,i<m→¬ze (q i)):=by
 induction m with
 |zero=>exact .inr ⟨rfl,fun i h=>by omega⟩
 | succ m ih=>
  unfold iQ
  split
  ·rename_i h;exact .inl h
  ·rename_i h
   rcases ih with g|⟨g1,g2⟩
   ·exact .inl g
   ·refine .inr ⟨g1,fun i hi=>?_⟩
    by_cases hm:i=m
    ·subst hm;exact h
    ·exact g2 i (by omega)
theorem qeq (f:Nat→Nat)(q:Nat→Int)(m:Nat)(h:∀i,i<m→¬ze (q i)):iW f q m=0:=by
 induction m with
 |zero=>rfl
 |succ m ih=>
  unfold iW
  rw[if_neg (h m (by omega))]
  exact ih (fun i hi=>h i (by omega))
theorem qfn (x:Nat)(hc:cls (qv x) 64<3):(zw x).natAbs<2^2099:=by
 obtain⟨p1,p2,p3,p4⟩:=xG _ hc
 unfold zw
 have e:∀(s:Bool) (a:Int),(sg s a).natAbs=a.natAbs:=fun s a=>by cases s<;>simp[sg]
 rw[e,Int.natAbs_mul,Int.natAbs_pow]
 obtain⟨e,he⟩:∃e,e=(qA (qv x) 64+1074).toNat:=⟨_,rfl⟩
 rw[←he]
 have h3:(qw (qv x) 64).natAbs<2^53:=by
  have:(2:Nat)^53=9007199254740992:=by decide
  omega
 have h4:(2:Int).natAbs=2:=rfl
 rw[h4]
 have hp:0<2^e:=qht e
 have h5:(qw (qv x) 64).natAbs*2^e<2^(53+e):=by
  rw[qhv]
  exact Nat.mul_lt_mul_of_pos_right h3 hp
 obtain⟨K,hK⟩:∃K:Nat,K=2099:=⟨_,rfl⟩
 rw[←hK]
 have h6:(2:Nat)^(53+e)≤2^K:=qhw (by decide) (by omega)
 omega
end Go.Proofs.YtaglkncdedeipaaGreatDoor
