/-  -/
import Derived.Test.YtnniljhdcplkgaaGreatDoorWs22
import Derived.Test.YtnniljhdcplkgaaGreatDoorWs04
import Derived.Laws.Shifts
import Derived.Test.YtnniljhdcplkgaaGreatDoorWs21
namespace Go.Proofs.YtnniljhdcplkgaaGreatDoor
open Go.ChangeShapes Go.WideShapes Go.ChangeAt Go.RowKit
set_option maxHeartbeats 16000000
set_option maxRecDepth 100000
set_option linter.unusedVariables false
set_option linter.unusedSimpArgs false
theorem and_pow (h m:Nat):h&&& 2^m=(h/2^m%2)*2^m:=by
 apply Nat.eq_of_testBit_eq
 intro i
 rw[Nat.testBit_and,Nat.testBit_two_pow]
 by_cases hi:m=i
 ·subst hi
  rw[Nat.testBit_mul_two_pow]
  simp[Nat.testBit_eq_decide_div_mod_eq]
 ·rw [Nat.testBit_mul_two_pow]
  rcases Nat.mod_two_eq_zero_or_one (h/2^m)with h0|h0
  ·simp[h0,hi]
  ·rw[h0]
   by_cases hl:m≤i
   ·have h1:(1:Nat).testBit (i-m)=false:=by
     rw[Nat.testBit_eq_decide_div_mod_eq,Nat.div_eq_of_lt (Nat.one_lt_two_pow (by omega))]
     rfl
    simp[hi,h1]
   ·simp[hi,hl]
theorem bit_any (h m:Nat)(hh:h<2^62)(hm:m<62):(bits .and .i64 (h:Int) (wrap64 (2^m)) != 0)=decide (h/2^m%2=1)∧(bits .and .i64 (h:Int) (IntKind.i64.wrap (wrap64 (2^m)-1)) != 0)=(h%2^m != 0):=by
 have h60:(2:Nat)^62=4611686018427387904:=by decide
 have h1:(2:Nat)^m≤2^61:=Nat.pow_le_pow_right (by decide) (by omega)
 have h61:(2:Nat)^61=2305843009213693952:=by decide
 have hpos:=Nat.two_pow_pos m
 have hw:wrap64 (2^m)=((2^m:Nat):Int):=by
  rw[show((2:Int)^m)=((2^m:Nat):Int) by push_cast;rfl]
  unfold wrap64
  omega
 rw[hw]
 constructor
 ·rw[and_nat h (2^m) (by omega) (by omega),and_pow]
  by_cases hb:h/2^m%2=1
  ·rw[decide_eq_true hb,hb,Nat.one_mul]
   have:¬((2^m:Nat):Int)=0:=by omega
   simpa [bne_iff_ne] using this
  ·rw[decide_eq_false hb,show h/2^m%2=0 by omega,Nat.zero_mul]
   rfl
 ·have hw2:IntKind.i64.wrap (((2^m:Nat):Int)-1)=((2^m-1:Nat):Int):=by rw[wrap_i64];omega
  rw[hw2,and_mask h m (by omega) hm]
  by_cases hb:h%2^m=0
  ·simp[hb]
  ·rw[show(h%2^m != 0)=true by simpa using hb]
   have:¬((h%2^m:Nat):Int)=0:=by omega
   simpa [bne_iff_ne] using this
theorem and_ones (h m:Nat)(hh:h<2^62)(hm:62≤m)(hm2:m≤63):bits .and .i64 (h:Int) ((2^m-1:Nat):Int)=(h:Int):=by
 have h60:(2:Nat)^62=4611686018427387904:=by decide
 have h63:(2:Nat)^63=9223372036854775808:=by decide
 have h1:(2:Nat)^m≤2^63:=Nat.pow_le_pow_right (by decide) hm2
 have h2:(2:Nat)^62≤2^m:=Nat.pow_le_pow_right (by decide) hm
 rw[and_nat h (2^m-1) (by omega) (by omega),Nat.and_two_pow_sub_one_eq_mod,Nat.mod_eq_of_lt (by omega)]
theorem shl_far (m:Nat)(hm:62≤m):∃P,Op.shift .shl .i64 1 .i64 (m:Int)=pure (.int .i64 P)∧∀h:Nat,h<2^62→bits .and .i64 (h:Int) P=0∧bits .and .i64 (h:Int) (IntKind.i64.wrap (P-1))=(h:Int):=by
 have h60:(2:Nat)^62=4611686018427387904:=by decide
 have hs:=shift_shl_any .i64 .i64 1 (m:Int) (by omega)
 rw[Int.one_mul,Int.toNat_natCast]at hs
 by_cases h62:m=62
 ·refine⟨_,hs,fun h hh=>?_⟩
  subst h62
  rw[show IntKind.i64.wrap (2^min 62 IntKind.i64.bits)=((2^62:Nat):Int) by decide]
  constructor
  ·rw[and_nat h (2^62) (by omega) (by decide),and_pow,Nat.div_eq_of_lt (by omega),Nat.zero_mod,Nat.zero_mul]
   rfl
  ·rw[show IntKind.i64.wrap (((2^62:Nat):Int)-1)=((2^62-1:Nat):Int) by decide]
   exact and_ones h 62 hh (by decide) (by decide)
 ·by_cases h63:m=63
  ·refine⟨_,hs,fun h hh=>?_⟩
   subst h63
   rw[show IntKind.i64.wrap (2^min 63 IntKind.i64.bits)=-9223372036854775808 by decide]
   constructor
   ·rw[and_min (h:Int) (by omega) (by omega),if_neg (by omega)]
   ·rw[show IntKind.i64.wrap ((-9223372036854775808:Int)-1)=((2^63-1:Nat):Int) by decide]
    exact and_ones h 63 hh (by decide) (by decide)
  ·refine⟨_,hs,fun h hh=>?_⟩
   rw[show min m IntKind.i64.bits=64 by show min m 64=64;omega,show IntKind.i64.wrap (2^64)=0 by decide]
   constructor
   ·rw[bits_and];simp[wrap_i64]
   ·rw[show IntKind.i64.wrap ((0:Int)-1)=-1 by decide,bits_and,show BitVec.ofInt 64 (-1)=BitVec.allOnes 64 by decide,BitVec.and_allOnes,ofInt_toNat,wrap_i64]
    omega
theorem shr_far (h m:Nat)(hh:h<2^62)(hm:62≤m):Op.shift .shr .i64 (h:Int) .i64 ((m:Int)+1)=pure (.int .i64 0):=by
 rw[shift_shr_any .i64 .i64 (h:Int) ((m:Int)+1) (by omega)]
 have h1:(2:Nat)^62≤2^min ((m:Int)+1).toNat IntKind.i64.bits:=Nat.pow_le_pow_right (by decide) (by show 62≤min ((m:Int)+1).toNat 64;omega)
 have h2:(h:Int)/2^min ((m:Int)+1).toNat IntKind.i64.bits=((h/2^min ((m:Int)+1).toNat IntKind.i64.bits:Nat):Int):=by push_cast;rfl
 rw[h2,Nat.div_eq_of_lt (by omega)]
 rfl
end Go.Proofs.YtnniljhdcplkgaaGreatDoor
namespace Go.Proofs.YtnniljhdcplkgaaGreatDoor
open Go.ChangeShapes Go.WideShapes Go.ChangeAt Go.RowKit
set_option maxHeartbeats 16000000
set_option maxRecDepth 100000
set_option linter.unusedVariables false
set_option linter.unusedSimpArgs false
def kyz (ng:Bool)(m:Nat):Int:=if ng=true then -(m:Int)else (m:Int)
theorem kp_toNat (n:Int)(hn:n=64∨n=32):((kprec n).toNat:Int)=kprec n∧(kprec n=53∨kprec n=24)∧(kleast n=-1074∨kleast n=-149):=by
 rcases hn with rfl|rfl<;>decide
theorem join_kz (n:Int)(hn:n=64∨n=32)(ng:Bool)(k2 F:Nat)(un:Int)(hE:kleast n≤un)(hk:un=kleast n∨cbn n≤k2)(hk3:k2≤2*cbn n)(hF:(un-kleast n).toNat*cbn n+k2=F)(hlt:F<ifn n)(w:World)(hT:Tab w):Calls Tryz.prog 127 #[.bool (ng&&decide (0<(k2:Int))),.int .i64 (k2:Int),.int .i64 un,.int .i64 n] w fun e w'=>e=.returned (.tuple #[.int .i64 (pz n (kyz ng F)),.bool true])∧Kept w w':=by
 rcases hn with rfl|rfl
 ·simp only[show kleast 64=-1074 by rfl,show cbn 64=4503599627370496 by rfl,show ifn 64=9218868437227405312 by rfl]at *
  refine join_r_64 _ (k2:Int) un (F:Int) _ (by omega) (by omega) hE (by omega) (by omega) (by omega) ?_ w hT
  unfold pz kyz
  have hF0:k2=0↔F=0:=by omega
  cases ng
  ·simp only[Bool.false_and,Bool.false_eq_true,if_false,reduceIte]
   rw[if_neg (by omega)]
  ·simp only[Bool.true_and,if_true,decide_eq_true_eq,reduceIte]
   by_cases h0:k2=0
   ·rw[if_neg (by omega),if_neg (by omega)];omega
   ·rw[if_pos (by omega),if_pos (by omega)];omega
 ·simp only[show kleast 32=-149 by rfl,show cbn 32=8388608 by rfl,show ifn 32=2139095040 by rfl]at *
  refine join_r_32 _ (k2:Int) un (F:Int) _ (by omega) (by omega) hE (by omega) (by omega) (by omega) ?_ w hT
  unfold pz kyz
  have hF0:k2=0↔F=0:=by omega
  cases ng
  ·simp only[Bool.false_and,Bool.false_eq_true,if_false,show ¬((32:Int)=64) by decide,if_false]
   rw[if_neg (by omega)]
  ·simp only[Bool.true_and,if_true,decide_eq_true_eq,show ¬((32:Int)=64) by decide,if_false]
   by_cases h0:k2=0
   ·rw[if_neg (by omega),if_neg (by omega)];omega
   ·rw[if_pos (by omega),if_pos (by omega)];omega
theorem join_kno (n:Int)(hn:n=64∨n=32)(p:Bool)(k2 F:Nat)(un:Int)(hE:kleast n≤un)(hk:un=kleast n∨cbn n≤k2)(hk3:k2≤2*cbn n)(hF:(un-kleast n).toNat*cbn n+k2=F)(hlt:ifn n≤F)(w:World)(hT:Tab w):Calls Tryz.prog 127 #[.bool p,.int .i64 (k2:Int),.int .i64 un,.int .i64 n] w fun e w'=>e=.returned (.tuple #[.int .i64 0,.bool false])∧Kept w w':=by
 rcases hn with rfl|rfl
 ·simp only[show kleast 64=-1074 by rfl,show cbn 64=4503599627370496 by rfl,show ifn 64=9218868437227405312 by rfl]at *
  exact join_no_64 _ (k2:Int) un (F:Int) (by omega) (by omega) hE (by omega) (by omega) (by omega) w hT
 ·simp only[show kleast 32=-149 by rfl,show cbn 32=8388608 by rfl,show ifn 32=2139095040 by rfl]at *
  exact join_no_32 _ (k2:Int) un (F:Int) (by omega) (by omega) hE (by omega) (by omega) (by omega) w hT
theorem beyond_kz (n:Int)(hn:n=64∨n=32)(K:Nat)(hcall:∀a w,(callFunc K #[a]).run Tryz.prog w=.ok (.enter K #[a]) w)(pr le:Int)(ng aw:Bool)(w:World)
  (KA:Hid (∀u,Calls Tryz.prog K #[.agg #[.bool ng,.bool false,.bool true,.bool true]] u fun e w'=>e=.returned (.bool aw)∧Kept u w')):
  Calls Tryz.prog 128 #[.agg #[.int .i64 n,.int .i64 pr,.int .i64 le,.int .i64 (kinf n),.func (.func K) #[] #[]],.bool ng] w fun e w'=>e=.returned (.int .i64 (pz n (kyz ng (if aw=true then ifn n else ifn n-1))))∧Kept w w':=by
 have KP:Hid (∀u,Calls Tryz.prog 150 #[.int .i64 (kinf n),.int .i64 n] u fun e w'=>e=.returned (.int .i64 (prv (kinf n) n))∧Kept u w'):=fun u=>prev_any (kinf n) n (by rcases hn with rfl|rfl<;>decide) (by rcases hn with rfl|rfl<;>decide) u
 cases ng
 ·cases aw
  ·have e:pz n (kyz false (ifn n-1))=prv (kinf n) n:=by rcases hn with rfl|rfl<;>decide
   rw[if_neg (by decide),e]
   exact beyond_false_false K hcall n pr le (kinf n) _ _ w KA KP (fun u=>neg_any (prv (kinf n) n) n (by rcases hn with rfl|rfl<;>decide) (by rcases hn with rfl|rfl<;>decide) u)
  ·have e:pz n (kyz false (ifn n))=kinf n:=by rcases hn with rfl|rfl<;>decide
   rw[if_pos rfl,e]
   exact beyond_false_true K hcall n pr le (kinf n) _ _ w KA KP (fun u=>neg_any (kinf n) n (by rcases hn with rfl|rfl<;>decide) (by rcases hn with rfl|rfl<;>decide) u)
 ·cases aw
  ·have e:pz n (kyz true (ifn n-1))=ngt (prv (kinf n) n) n:=by rcases hn with rfl|rfl<;>decide
   rw[if_neg (by decide),e]
   exact beyond_true_false K hcall n pr le (kinf n) _ _ w KA KP (fun u=>neg_any (prv (kinf n) n) n (by rcases hn with rfl|rfl<;>decide) (by rcases hn with rfl|rfl<;>decide) u)
  ·have e:pz n (kyz true (ifn n))=ngt (kinf n) n:=by rcases hn with rfl|rfl<;>decide
   rw[if_pos rfl,e]
   exact beyond_true_true K hcall n pr le (kinf n) _ _ w KA KP (fun u=>neg_any (kinf n) n (by rcases hn with rfl|rfl<;>decide) (by rcases hn with rfl|rfl<;>decide) u)
theorem split_kz (ng:Bool)(h:Nat)(ex:Int)(rs:Bool)(m:Nat)(hh:h<2^62)(h0:h≠0)(hm9:m<8000000)(w:World):Calls Tryz.prog 126 #[.agg #[.bool ng,.int .i64 (h:Int),.int .i64 ex,.bool rs],.int .i64 ((m:Int)+1)] w fun e w'=>e=.returned (.tuple #[.int .i64 ((h/2^(m+1):Nat):Int),.agg #[.bool ng,.bool (decide (h/2^(m+1)%2=1)),.bool (decide (h/2^m%2=1)),.bool (rs||h%2^m != 0)]])∧Kept w w':=by
 by_cases hm:m<62
 ·obtain⟨b1,b2⟩:=bit_any h m hh hm
  have hk:(h:Int)/2^(m+1)=((h/2^(m+1):Nat):Int):=by push_cast;rfl
  have ho:(bits .and .i64 ((h/2^(m+1):Nat):Int) 1==1)=decide (h/2^(m+1)%2=1):=by
   rw[and_one]
   by_cases hb:h/2^(m+1)%2=1
   ·rw[decide_eq_true hb,beq_iff_eq];omega
   ·rw[decide_eq_false hb,beq_eq_false_iff_ne];omega
  cases rs
  ·exact split_false ng (h:Int) ex _ _ _ m hm _ _ _ hk rfl rfl _ _ _ rfl rfl rfl ho b1 (by rw[b2,Bool.false_or]) w
  ·exact split_true ng (h:Int) ex _ _ _ m hm _ _ _ hk rfl rfl _ _ _ rfl rfl rfl ho b1 (by rw[Bool.true_or]) w
 ·have hb1:h<2^m:=Nat.lt_of_lt_of_le hh (Nat.pow_le_pow_right (by decide) (by omega))
  have hb2:h<2^(m+1):=Nat.lt_of_lt_of_le hh (Nat.pow_le_pow_right (by decide) (by omega))
  obtain⟨P,hsl,hP⟩:=shl_far m (by omega)
  obtain⟨q1,q2⟩:=hP h hh
  rw[Nat.div_eq_of_lt hb1,Nat.div_eq_of_lt hb2,Nat.mod_eq_of_lt hb1]
  have hr:((h:Int) != 0)=(rs||h != 0):=by
   have:(h != 0)=true:=by simpa using h0
   rw[this,Bool.or_true]
   have:¬(h:Int)=0:=by omega
   simpa [bne_iff_ne] using this
  cases rs
  ·exact splitg_false ng (h:Int) ex 0 P _ ((m:Int)+1) (m:Int) (by omega) (by omega) (shr_far h m hh (by omega)) (by rw[wrap_i64];omega) hsl _ _ _ rfl _ _ _ rfl q1 q2 rfl rfl hr w
  ·exact splitg_true ng (h:Int) ex 0 P _ ((m:Int)+1) (m:Int) (by omega) (by omega) (shr_far h m hh (by omega)) (by rw[wrap_i64];omega) hsl _ _ _ rfl _ _ _ rfl q1 q2 rfl rfl (by rw[Bool.true_or]) w
structure Ldz (n:Int) (h B:Nat) (ex un:Int) (m k F:Nat):Prop where
 hun:un=max (ex+(B:Int)-kprec n) (kleast n)
 hm:un-ex=(m:Int)+1
 hk:k=h/2^(m+1)
 hF:F=(un-kleast n).toNat*cbn n+k
theorem ld_bounds {n:Int}(hn:n=64∨n=32){h B:Nat}{ex un:Int}{m k F:Nat}(H:Ldz n h B ex un m k F)(h1:2^(B-1)≤h)(h2:h<2^B)(hB:54≤B):kleast n≤un∧k<2*cbn n∧(un=kleast n∨cbn n≤k):=by
 obtain⟨e1,e2,e3,e4⟩:=H
 obtain⟨c1,c2⟩:=cbn_pow n hn
 obtain⟨p1,p2,p3⟩:=kp_toNat n hn
 have hp:2*cbn n=2^(kprec n).toNat:=by rw[c1,←Nat.pow_succ'];congr 1;omega
 refine⟨by omega,?_,?_⟩
 ·rw[hp,e3,Nat.div_lt_iff_lt_mul (Nat.two_pow_pos _),←Nat.pow_add]
  exact Nat.lt_of_lt_of_le h2 (Nat.pow_le_pow_right (by decide) (by omega))
 ·by_cases hu:un=kleast n
  ·exact Or.inl hu
  ·right
   rw[c1,e3,Nat.le_div_iff_mul_le (Nat.two_pow_pos _),←Nat.pow_add]
   exact Nat.le_trans (Nat.pow_le_pow_right (by decide) (by omega)) h1
theorem away_any (way:Int)(hw:way=0∨way=1∨way=2)(ng od hf rt:Bool)(w:World):Calls Tryz.prog (wfv way) #[.agg #[.bool ng,.bool od,.bool hf,.bool rt]] w fun e w'=>e=.returned (.bool (awz way ng od hf rt))∧Kept w w':=by
 rcases hw with rfl|rfl|rfl
 ·exact away_1 ng od hf rt w
 ·exact away_2 ng od hf rt w
 ·exact away_3 ng od hf rt w
theorem ldround (way:Int)(hw:way=0∨way=1∨way=2)(n:Int)(hn:n=64∨n=32)(ng:Bool)(h B:Nat)(ex:Int)(rs:Bool)(un:Int)(m k F:Nat)(H:Ldz n h B ex un m k F)(h1:2^(B-1)≤h)(h2:h<2^B)(hB:54≤B)(hB2:B≤62)(x1:-3000000≤ex)(x2:ex≤3000000)(od hf rt:Bool)(hod:od=decide (k%2=1))(hhf:hf=decide (h/2^m%2=1))(hrt:rt=(rs||h%2^m != 0))(w:World)(hT:Tab w):
  Calls Tryz.prog 100 #[.agg #[.int .i64 n,.int .i64 (kprec n),.int .i64 (kleast n),.int .i64 (kinf n),.func (.func (wfv way)) #[] #[]],.agg #[.bool ng,.int .i64 (h:Int),.int .i64 ex,.bool rs]] w fun e w'=>e=.returned (.tuple #[.int .i64 (pz n (kyz ng (mgz way ng (ifn n) F od hf rt))),.bool (odz way ng (ifn n) F od hf rt)])∧Kept w w':=by
 obtain⟨u1,u2,u3⟩:=ld_bounds hn H h1 h2 hB
 obtain⟨e1,e2,e3,e4⟩:=H
 obtain⟨p1,p2,p3⟩:=kp_toNat n hn
 have hc:cbn n≤4503599627370496:=by unfold cbn;split<;>decide
 have h62:h<2^62:=Nat.lt_of_lt_of_le h2 (Nat.pow_le_pow_right (by decide) hB2)
 have hpp:(2:Nat)^62=4611686018427387904:=by decide
 have h0:0<h:=Nat.lt_of_lt_of_le (Nat.two_pow_pos _) h1
 obtain⟨aw,haw⟩:∃aw,awz way ng od hf rt=aw:=⟨_,rfl⟩
 have hcall:=wfv_call way hw
 have KL:Hid (∀u,Calls Tryz.prog 119 #[.int .u64 (h:Int)] u fun e w'=>e=.returned (.int .i64 (B:Int))∧u=w'):=fun u=>by
  have:=len (h:Int) u (by omega) (by omega)
  rw[Int.toNat_natCast,show Lib.bitLen h=B by have:=bitLen_top (B-1) h (by omega) h1 (by rw[show B-1+1=B by omega];exact h2);omega]at this
  exact this
 have hk2:(if aw=true then (k:Int)+1 else (k:Int))=((k+aw.toNat:Nat):Int):=by cases aw<;>simp
 have hal:aw.toNat≤1:=Bool.toNat_le _
 have hFa:(un-kleast n).toNat*cbn n+(k+aw.toNat)=F+aw.toNat:=by omega
 obtain⟨ok,hok⟩:∃ok,decide (F+aw.toNat<ifn n)=ok:=⟨_,rfl⟩
 have hmg:mgz way ng (ifn n) F od hf rt=if ok=true then F+aw.toNat else if awz way ng false true true=true then ifn n else ifn n-1:=by
  unfold mgz
  rw[haw,←hok]
  simp only[decide_eq_true_eq]
 have hoz:odz way ng (ifn n) F od hf rt=if ok=true then (hf||rt)else true:=by
  unfold odz
  rw[haw,←hok]
  by_cases hl:F+aw.toNat<ifn n
  ·rw[decide_eq_true hl,if_pos rfl,decide_eq_false (by omega),Bool.or_false]
  ·rw[decide_eq_false hl,if_neg (by decide),decide_eq_true (by omega),Bool.or_true]
 rw[hmg,hoz]
 refine roundg_all (wfv way) hcall n (kprec n) (kleast n) (kinf n) (h:Int) ex (B:Int) (ex+(B:Int)) (ex+(B:Int)-kprec n) un (k:Int) ((k:Int)+1) ((k+aw.toNat:Nat):Int) _ m ng od hf rt rs aw _ ok (by rw[beq_eq_false_iff_ne];omega) (by omega) (by rw[wrap_i64];omega) hk2 rfl (by rw[u64_id _ (by omega) (by omega)]) (by rw[wrap_i64];omega) (by rw[wrap_i64];omega) e1.symm (by rw[wrap_i64];omega) w KL (fun u=>?_) (fun u=>?_) (fun u ku=>?_) (fun ho u=>?_)
 ·rw[hod,hhf,hrt,e3]
  exact split_kz ng h ex rs m h62 (by omega) (by omega) u
 ·refine(away_any way hw ng od hf rt u).mono fun _ _ hh=>⟨?_,hh.2⟩
  rw[hh.1,haw]
 ·cases ok
  ·rw[if_neg (by decide)]
   exact join_kno n hn _ (k+aw.toNat) (F+aw.toNat) un u1 (by omega) (by omega) hFa (by have:=of_decide_eq_false hok;omega) u (hT.kept ku)
  ·rw[if_pos rfl,if_pos rfl]
   exact join_kz n hn ng (k+aw.toNat) (F+aw.toNat) un u1 (by omega) (by omega) hFa (of_decide_eq_true hok) u (hT.kept ku)
 ·rw[ho,if_neg (by decide)]
  refine beyond_kz n hn (wfv way) hcall _ _ ng _ u (fun u=>(away_any way hw ng false true true u).mono fun _ _ hh=>⟨?_,hh.2⟩)
  rw[hh.1]
theorem ld_num (n:Int)(hn:n=64∨n=32)(r:Nm)(hv:vld r=true)(hne:r.mag≠[]):∃m:Nat,Ldz n (hd (nv r.mag)) 60 (r.exp+((bl (nv r.mag):Int)-60)) (unN n r) m (kpN n r) (flN n r)∧odN n r=decide (kpN n r%2=1)∧hfN n r=decide (hd (nv r.mag)/2^m%2=1)∧rtN n r=(decide (60<(bl (nv r.mag):Int))||hd (nv r.mag)%2^m != 0)∧2^(60-1)≤hd (nv r.mag)∧hd (nv r.mag)<2^60∧-3000000≤r.exp+((bl (nv r.mag):Int)-60)∧r.exp+((bl (nv r.mag):Int)-60)≤3000000:=by
 obtain⟨p1,p2,p3,p4,p5,p6⟩:=vld_some r.neg r.mag r.exp hne hv
 have hodd:=nv_odd r.mag p2 p4
 have h0:nv r.mag≠0:=by omega
 have hbl:=bl_le _ _ (nv_lt r.mag p2)
 obtain⟨b1,b2,b3⟩:=bl_pos (nv r.mag) h0
 have hb:=hd_bounds _ h0
 obtain⟨q1,q2,q3⟩:=kp_toNat n hn
 obtain⟨u,hu⟩:∃u,unN n r=u:=⟨_,rfl⟩
 have hu2:=hu
 unfold unN unz at hu2
 obtain⟨m,hm⟩:∃m:Nat,u-(r.exp+((bl (nv r.mag):Int)-60))=(m:Int)+1:=⟨(u-(r.exp+((bl (nv r.mag):Int)-60))-1).toNat,by omega⟩
 refine⟨m,⟨?_,?_,?_,rfl⟩,rfl,?_,?_,hb.1,hb.2,by omega,by omega⟩
 ·rw[hu];omega
 ·rw[hu];exact hm
 ·unfold kpN hd
  rw[hu]
  exact(flo_head (nv r.mag) (bl (nv r.mag)) (m+1) (r.exp-u) (by omega)).symm
 ·unfold hfN hd
  rw[hu,flo_head (nv r.mag) (bl (nv r.mag)) m (r.exp-u+1) (by omega)]
 ·unfold rtN hd
  rw[hu]
  exact rst_head (nv r.mag) (bl (nv r.mag)) m (r.exp-u+1) (by omega) hodd b2
theorem xroundg (way:Int)(fv:Nat)(n pr le fi:Int)(ng:Bool)(ao:Option Addr)(l c:Nat)(x res:Int)(ox:Bool)(ld:Array Value)(l0 l1 l2 l3:Value)(w:World)
  (KR:Hid (∀u,Kept ((w.alloc (.cells #[.bool ng,.slice ao l c,.int .i64 x] 43)).alloc (.cells #[.bool ng,.slice ao l c,.int .i64 x] 43)) u→Calls Tryz.prog 98 #[.int .i64 n,.int .i64 way,.slice (some ⟨w.heap.size+1,0,none⟩) 1 1] u fun e w'=>e=.returned (.tuple #[.agg #[.int .i64 n,.int .i64 pr,.int .i64 le,.int .i64 fi,.func (.func fv) #[] #[]],.int .i64 0])∧Kept u w'))
  (KD:Hid (∀u,Kept w u→Calls Tryz.prog 140 #[.agg #[.bool ng,.slice ao l c,.int .i64 x]] u fun e w'=>e=.returned (.agg #[l0,l1,l2,l3])∧Kept u w'))
  (KO:Hid (∀u,Kept w u→Calls Tryz.prog 100 #[.agg #[.int .i64 n,.int .i64 pr,.int .i64 le,.int .i64 fi,.func (.func fv) #[] #[]],.agg #[l0,l1,l2,l3]] u fun e w'=>e=.returned (.tuple #[.int .i64 res,.bool ox])∧Kept u w')):
  Calls Tryz.prog 118 #[.agg #[.bool ng,.slice ao l c,.int .i64 x],.int .i64 n,.int .i64 way] w fun e w'=>e=.returned (.tuple #[.int .i64 res,.bool ox,.int .i64 0])∧Kept w w':=by
 have hK:Kept w ((w.alloc (.cells #[.bool ng,.slice ao l c,.int .i64 x] 43)).alloc (.cells #[.bool ng,.slice ao l c,.int .i64 x] 43)):=((Kept.refl w).alloc _ _).alloc _ _
 go_enter Tryz.func118,Tryz.ntmps118
 go_wp2_with fail
 refine(KR.out _ (Kept.refl _)).mono ?_
 rintro e w1 ⟨rfl,k1⟩
 have k1':=k1.alloc #[.int .i64 n,.int .i64 pr,.int .i64 le,.int .i64 fi,.func (.func fv) #[] #[]] 112
 have hs1:=k1.below.size
 simp only[World.size_alloc]at hs1
 have kX:Kept (w.alloc (.cells #[.bool ng,.slice ao l c,.int .i64 x] 43)) (w1.alloc (.cells #[.int .i64 n,.int .i64 pr,.int .i64 le,.int .i64 fi,.func (.func fv) #[] #[]] 112)):=((Kept.refl _).alloc _ _).trans k1'
 have HS:Hid (∀u,Kept (w1.alloc (.cells #[.int .i64 n,.int .i64 pr,.int .i64 le,.int .i64 fi,.func (.func fv) #[] #[]] 112)) u→(u.cell? ⟨w1.heap.size,0,none⟩=some (.int .i64 n)∧u.cell? ⟨w1.heap.size,1,none⟩=some (.int .i64 pr)∧u.cell? ⟨w1.heap.size,2,none⟩=some (.int .i64 le)∧u.cell? ⟨w1.heap.size,3,none⟩=some (.int .i64 fi)∧u.cell? ⟨w1.heap.size,4,none⟩=some (.func (.func fv) #[] #[]))∧u.cell? ⟨w.heap.size,0,none⟩=some (.bool ng)∧u.cell? ⟨w.heap.size,1,none⟩=some (.slice ao l c)∧u.cell? ⟨w.heap.size,2,none⟩=some (.int .i64 x)):=fun u k=>⟨⟨(laid_cell k 0).trans (by simp[go_sem]),(laid_cell k 1).trans (by simp[go_sem]),(laid_cell k 2).trans (by simp[go_sem]),(laid_cell k 3).trans (by simp[go_sem]),(laid_cell k 4).trans (by simp[go_sem])⟩,(laid_cell (kX.trans k) 0).trans (by simp[go_sem]),(laid_cell (kX.trans k) 1).trans (by simp[go_sem]),(laid_cell (kX.trans k) 2).trans (by simp[go_sem])⟩
 have kD:Kept (w1.alloc (.cells #[.int .i64 n,.int .i64 pr,.int .i64 le,.int .i64 fi,.func (.func fv) #[] #[]] 112)) (w1.alloc (.cells #[.int .i64 n,.int .i64 pr,.int .i64 le,.int .i64 fi,.func (.func fv) #[] #[]] 112)).drew:=(Kept.refl _).drew
 go_wp2_with fail
 go_region_held (fun u=>(u.cell? ⟨w1.heap.size,0,none⟩=some (.int .i64 n)∧u.cell? ⟨w1.heap.size,1,none⟩=some (.int .i64 pr)∧u.cell? ⟨w1.heap.size,2,none⟩=some (.int .i64 le)∧u.cell? ⟨w1.heap.size,3,none⟩=some (.int .i64 fi)∧u.cell? ⟨w1.heap.size,4,none⟩=some (.func (.func fv) #[] #[]))∧u.cell? ⟨w.heap.size,0,none⟩=some (.bool ng)∧u.cell? ⟨w.heap.size,1,none⟩=some (.slice ao l c)∧u.cell? ⟨w.heap.size,2,none⟩=some (.int .i64 x)) (first|exact HS.out _ kD|assumption) (first|(go_at_call 140;refine(KD.out _ (hK.trans (k1'.trans kD))).mono ?_;rintro e w2 ⟨rfl,k2⟩;have e0:=HS.out _ (kD.trans k2))|(go_at_call 100;refine(KO.out _ (hK.trans (k1'.trans (kD.trans k2)))).mono ?_;rintro e w3 ⟨rfl,k3⟩;have e0:=HS.out _ (kD.trans (k2.trans k3))))
 all_goals
  go_wp2_with fail
  exact bodyPost_ret (v:=.tuple #[.int .i64 res,.bool ox,.int .i64 0]) (by simp[results,Tryz.results118,go_sem]) rfl ⟨rfl,hK.trans (k1'.trans (kD.trans (k2.trans k3)))⟩
theorem roundz (n way:Int)(hn:n=64∨n=32)(hw:way=0∨way=1∨way=2)(r:Nm)(hv:vld r=true)(ao:Option Addr)(c:Nat)(w:World)(hT:Tab w)(h:Sl w (.slice ao r.mag.length c) r.mag):
  Calls Tryz.prog 118 #[.agg #[.bool r.neg,.slice ao r.mag.length c,.int .i64 r.exp],.int .i64 n,.int .i64 way] w fun e w'=>e=.returned (.tuple #[.int .i64 (rzN n way r),.bool (oxN n way r),.int .i64 0])∧Kept w w':=by
 obtain⟨hlen,hDg⟩:=vld_dg r.neg r.mag r.exp hv
 have KR:Hid (∀u,Kept ((w.alloc (.cells #[.bool r.neg,.slice ao r.mag.length c,.int .i64 r.exp] 43)).alloc (.cells #[.bool r.neg,.slice ao r.mag.length c,.int .i64 r.exp] 43)) u→Calls Tryz.prog 98 #[.int .i64 n,.int .i64 way,.slice (some ⟨w.heap.size+1,0,none⟩) 1 1] u fun e w'=>e=.returned (.tuple #[.agg #[.int .i64 n,.int .i64 (kprec n),.int .i64 (kleast n),.int .i64 (kinf n),.func (.func (wfv way)) #[] #[]],.int .i64 0])∧Kept u w'):=fun u k=>by
  refine roundingOf_ok n way hn hw _ u ?_
  have hb:w.heap.size+1<((w.alloc (.cells #[.bool r.neg,.slice ao r.mag.length c,.int .i64 r.exp] 43)).alloc (.cells #[.bool r.neg,.slice ao r.mag.length c,.int .i64 r.exp] 43)).heap.size:=by simp
  exact allValid_at (w.heap.size+1) (Nat.lt_of_lt_of_le hb k.below.size) r.neg r.mag hDg.rg (by omega) ao c r.exp (h.kept ((((Kept.refl w).alloc _ _).alloc _ _).trans k)) ((k.below.cell (p:=⟨w.heap.size+1,0,none⟩) hb).trans (by simp[go_sem])) ((k.below.cell (p:=⟨w.heap.size+1,1,none⟩) hb).trans (by simp[go_sem])) ((k.below.cell (p:=⟨w.heap.size+1,2,none⟩) hb).trans (by simp[go_sem])) true hv
 by_cases hne:r.mag=[]
 ·have hng:=((vz_sign 0 r hv).2.2 hne).1
  have e1:rzN n way r=0:=by
   unfold rzN kyN mgN
   rw[if_pos hne,hng]
   rcases hn with rfl|rfl<;>decide
  have e2:oxN n way r=false:=by unfold oxN;rw[if_pos hne]
  rw[e1,e2]
  have hl0:r.mag.length=0:=by rw[hne];rfl
  rw[hl0]at KR h ⊢
  exact xroundg way _ n _ _ _ r.neg ao 0 c r.exp 0 false #[] _ _ _ _ w KR (fun u k=>leading_nil r.neg ao c r.exp u) (fun u k=>round_zero n _ _ _ _ 0 false false u)
 ·obtain⟨m,H,o1,o2,o3,b1,b2,x1,x2⟩:=ld_num n hn r hv hne
  have e1:rzN n way r=pz n (kyz r.neg (mgz way r.neg (ifn n) (flN n r) (odN n r) (hfN n r) (rtN n r))):=by
   unfold rzN kyN kyz mgN
   rw[if_neg hne]
  have e2:oxN n way r=odz way r.neg (ifn n) (flN n r) (odN n r) (hfN n r) (rtN n r):=by unfold oxN;rw[if_neg hne]
  rw[e1,e2]
  exact xroundg way _ n _ _ _ r.neg ao r.mag.length c r.exp _ _ #[] _ _ _ _ w KR (fun u k=>leading_any r.neg r.mag r.exp hne hv ao c u (h.kept k)) (fun u k=>ldround way hw n hn r.neg _ 60 _ _ _ m _ _ H b1 b2 (by decide) (by decide) x1 x2 _ _ _ o1 o2 o3 u (hT.kept k))
end Go.Proofs.YtnniljhdcplkgaaGreatDoor
