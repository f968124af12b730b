/-  -/
import Derived.Laws.BitsAllLaws
import Derived.Laws.Entries
import Derived.OrdersHeld
import Derived.Test.YtaglkncdedeipaaGreatDoorRows
import Derived.WalkKit
import Derived.ProofKit
import Derived.OpenShut
import Derived.Below
import Derived.WalkLawsBesides
import Derived.Deep.QuietTactic
import Derived.BigQuiet
import Derived.Lib.TrailingZeros
import Derived.Laws.MathBits
import Derived.Laws.Bits64b
import Derived.Lib.Strings
import Derived.Lib.Slices
import Derived.Lib.Small
import Derived.Lib.Walk
import Derived.Lib.BitFns
import Derived.Deep.Light
import Derived.Deep.RegionHeld
namespace Go.Proofs.YtaglkncdedeipaaGreatDoor
set_option linter.unusedVariables false
set_option linter.unusedSimpArgs false
set_option maxHeartbeats 16000000
set_option maxRecDepth 100000
theorem qD (x:Int):((BitVec.ofInt 64 x).toNat:Int)=x%18446744073709551616:=by
 rw[BitVec.toNat_ofInt]
 omega
theorem qg (n:Int):IntKind.i64.wrap n=(n+9223372036854775808)%18446744073709551616-9223372036854775808:=by
 simp[IntKind.wrap,IntKind.bits,IntKind.signed]
 omega
theorem Zh (i x:Nat)(h:x<2^i):x^^^2^i=x+2^i:=by
 have e:x+2^i=2^i*1+x:=by omega
 rw[e,Nat.two_pow_add_eq_or_of_lt h]
 apply Nat.eq_of_testBit_eq
 intro j
 rw[Nat.testBit_xor,Nat.testBit_or,Nat.mul_one,Nat.testBit_two_pow]
 by_cases hj:i=j
 ·subst hj
  simp[Nat.testBit_lt_two_pow h]
 ·simp[hj]
theorem YH (i x:Nat)(h:2^i≤x)(h2:x<2^(i+1)):x^^^2^i=x-2^i:=by
 obtain⟨y,rfl⟩:∃y,x=y+2^i:=⟨x-2^i,by omega⟩
 have hy:y<2^i:=by rw[Nat.pow_succ]at h2;omega
 rw[←Zh i y hy,Nat.xor_assoc,Nat.xor_self,Nat.xor_zero]
 rw[Zh i y hy];omega
theorem yb (x y:Int):bits .andNot .i64 x y=IntKind.i64.wrap ((BitVec.ofInt 64 x&&& ~~~ BitVec.ofInt 64 y).toNat:Int):=rfl
theorem ji (x y:Int):bits .and .i64 x y=IntKind.i64.wrap ((BitVec.ofInt 64 x&&& BitVec.ofInt 64 y).toNat:Int):=rfl
theorem Qe (x y:Int):bits .or .i64 x y=IntKind.i64.wrap ((BitVec.ofInt 64 x|||BitVec.ofInt 64 y).toNat:Int):=rfl
theorem YI (x y:Int):bits .xor .i64 x y=IntKind.i64.wrap ((BitVec.ofInt 64 x^^^BitVec.ofInt 64 y).toNat:Int):=rfl
theorem kC (b:Int):bits .andNot .i64 b (-9223372036854775808)=b%9223372036854775808:=by
 have e:(~~~ BitVec.ofInt 64 (-9223372036854775808):BitVec 64).toNat=2^63-1:=by decide
 have h:=qD b
 rw[yb,BitVec.toNat_and,e,Nat.and_two_pow_sub_one_eq_mod,qg]
 omega
theorem Vn (b:Int)(h1:-9223372036854775808≤b)(h2:b≤9223372036854775807):bits .and .i64 b (-9223372036854775808)=if b<0 then -9223372036854775808 else 0:=by
 have e:(BitVec.ofInt 64 (-9223372036854775808):BitVec 64).toNat=2^63:=by decide
 have h:=qD b
 rw[ji,BitVec.toNat_and,e,nat_bit,qg]
 split<;>omega
theorem qjt (b:Int)(h1:-9223372036854775808≤b)(h2:b≤9223372036854775807):bits .xor .i64 b (-9223372036854775808)=if b<0 then b+9223372036854775808 else b-9223372036854775808:=by
 have e:(BitVec.ofInt 64 (-9223372036854775808):BitVec 64).toNat=2^63:=by decide
 have h:=qD b
 rw[YI,BitVec.toNat_xor,e,qg]
 by_cases hb:b<0
 ·rw[YH 63 _ (by omega) (by omega),if_pos hb];omega
 ·rw[Zh 63 _ (by omega),if_neg hb];omega
theorem QF (b:Int)(h1:0≤b)(h2:b<4294967296):bits .andNot .i64 b 2147483648=b%2147483648:=by
 have e:(~~~ BitVec.ofInt 64 2147483648:BitVec 64).toNat=2^64-1-2^31:=by decide
 have h:=qD b
 have hx:(BitVec.ofInt 64 b).toNat<2^32:=by omega
 have k:(BitVec.ofInt 64 b).toNat&&& (2^64-1-2^31)=(BitVec.ofInt 64 b).toNat%2^31:=by
  rw[←Nat.and_two_pow_sub_one_eq_mod]
  apply Nat.eq_of_testBit_eq
  intro j
  have f:(2^64-1-2^31:Nat)=2^32*(2^32-1)+(2^31-1):=by decide
  rw[Nat.testBit_and,Nat.testBit_and,f]
  by_cases hj:j<32
  ·rw[Nat.testBit_two_pow_mul_add _ (by decide),if_pos hj]
  ·rw[Nat.testBit_lt_two_pow (i:=j) (x:=(BitVec.ofInt 64 b).toNat) (Nat.lt_of_lt_of_le hx (Nat.pow_le_pow_right (by decide) (by omega)))]
   simp
 rw[yb,BitVec.toNat_and,e,k,qg]
 omega
theorem qgv (b:Int)(h1:0≤b)(h2:b<4294967296):bits .and .i64 b 2147483648=if b<2147483648 then 0 else 2147483648:=by
 have e:(BitVec.ofInt 64 2147483648:BitVec 64).toNat=2^31:=by decide
 have h:=qD b
 rw[ji,BitVec.toNat_and,e,nat_bit,qg]
 split<;>omega
theorem qmo (b:Int)(h1:0≤b)(h2:b<4294967296):bits .xor .i64 b 2147483648=if b<2147483648 then b+2147483648 else b-2147483648:=by
 have e:(BitVec.ofInt 64 2147483648:BitVec 64).toNat=2^31:=by decide
 have h:=qD b
 rw[YI,BitVec.toNat_xor,e,qg]
 by_cases hb:b<2147483648
 ·rw[Zh 31 _ (by omega),if_pos hb];omega
 ·rw[YH 31 _ (by omega) (by omega),if_neg hb];omega
theorem qju (s:Int):bits .and .i64 s 4503599627370495=s%4503599627370496:=by
 have e:(BitVec.ofInt 64 4503599627370495:BitVec 64).toNat=2^52-1:=by decide
 have h:=qD s
 rw[ji,BitVec.toNat_and,e,Nat.and_two_pow_sub_one_eq_mod,qg]
 omega
theorem qjv (s:Int):bits .and .i64 s 8388607=s%8388608:=by
 have e:(BitVec.ofInt 64 8388607:BitVec 64).toNat=2^23-1:=by decide
 have h:=qD s
 rw[ji,BitVec.toNat_and,e,Nat.and_two_pow_sub_one_eq_mod,qg]
 omega
theorem qnn (m:Int)(h0:0≤m)(h1:m<4503599627370496):bits .or .i64 m 4503599627370496=m+4503599627370496:=by
 have e:(BitVec.ofInt 64 4503599627370496:BitVec 64).toNat=2^52*1:=by decide
 have h:=qD m
 rw[Qe,BitVec.toNat_or,e,Nat.or_comm,←Nat.two_pow_add_eq_or_of_lt (by omega),qg]
 omega
theorem qno (m:Int)(h0:0≤m)(h1:m<8388608):bits .or .i64 m 8388608=m+8388608:=by
 have e:(BitVec.ofInt 64 8388608:BitVec 64).toNat=2^23*1:=by decide
 have h:=qD m
 rw[Qe,BitVec.toNat_or,e,Nat.or_comm,←Nat.two_pow_add_eq_or_of_lt (by omega),qg]
 omega
def zX (s inf hid:Int):Int:=if inf<s then 4 else if s=inf then 3 else if s=0 then 0 else if s<hid then 1 else 2
def val (b n:Int):Bool:=decide (n=64∨(n=32∧0≤b∧b<4294967296))
def cls (b n:Int):Int:=
 if n=64 then zX (b%9223372036854775808) 9218868437227405312 4503599627370496
 else if n=32 then (if 0≤b∧b<4294967296 then zX (b%2147483648) 2139095040 8388608 else 4)else 0
def sgn (b n:Int):Bool:=if n=64 then decide (b<0)else decide (2147483648≤b)
def fin (b n:Int):Bool:=decide ((n=64∨n=32)∧cls b n<3)
def zv (b n:Int):Bool:=fin b n&&sgn b n
def qI (b n:Int):Int:=
 if fin b n=true then
  if n=64 then (if b%9223372036854775808<4503599627370496 then b%9223372036854775808 else b%9223372036854775808%4503599627370496+4503599627370496)
  else (if b%2147483648<8388608 then b%2147483648 else b%2147483648%8388608+8388608)
 else 0
def qK (b n:Int):Int:=
 if fin b n=true then
  if n=64 then (if b%9223372036854775808<4503599627370496 then -1074 else b%9223372036854775808/4503599627370496-1075)
  else (if b%2147483648<8388608 then -149 else b%2147483648/8388608-150)
 else 0
def qj (b n:Int):Bool:=decide ((n=64∨n=32)∧cls b n≠4)
def jU (n:Int):Int:=if n=64 then 9221120237041090561 else if n=32 then 2143289345 else 0
def ngt (b n:Int):Int:=
 if qj b n=true then
  if n=64 then (if b<0 then b+9223372036854775808 else b-9223372036854775808)else (if b<2147483648 then b+2147483648 else b-2147483648)
 else jU n
def can (b n:Int):Int:=
 if qj b n=true then (if n=64 then (if b=-9223372036854775808 then 0 else b)else (if b=2147483648 then 0 else b))else jU n
def nxt (b n:Int):Int:=
 if qj b n=true then
  if n=64 then (if b=9218868437227405312 then b else if b=-9223372036854775808 then 1 else if b<0 then b-1 else b+1)
  else (if b=2139095040 then b else if b=2147483648 then 1 else if 2147483648≤b then b-1 else b+1)
 else jU n
theorem YJ (b:Int):qj b 64=decide (cls b 64≠4):=by simp[qj]
theorem qgw (b:Int):qj b 32=decide (cls b 32≠4):=by simp[qj]
theorem jW (b n:Int)(h64:n≠64)(h32:n≠32):qj b n=false:=by simp[qj,h64,h32]
theorem Zi (n:Int)(h64:n≠64)(h32:n≠32):jU n=0:=by simp[jU,h64,h32]
theorem qV (b:Int)(h:cls b 32≠4):0≤b∧b<4294967296:=by
 unfold cls at h
 rw[if_neg (by decide),if_pos rfl]at h
 split at h
 ·assumption
 ·omega
def nv:List Int→Nat
 |[]=>0
 |d::l=>d.toNat+1073741824*nv l
def Dg (L:List Int):Prop:=∀d∈L,0≤d∧d<1073741824
def QT:Nat→Nat→List Int
 |0,_=>[]
 |f+1,n=>if n=0 then []else ((n%1073741824:Nat):Int)::QT f (n/1073741824)
def digs (n:Nat):List Int:=QT n n
theorem qgx:∀(f g n:Nat),n≤f→n≤g→QT f n=QT g n:=by
 intro f
 induction f with
 |zero=>
  intro g n hf hg
  obtain rfl:n=0:=by omega
  cases g with
  |zero=>rfl
  |succ g=>simp[QT]
 | succ f ih=>
  intro g n hf hg
  cases g with
  |zero=>
   obtain rfl:n=0:=by omega
   simp[QT]
  |succ g=>
   unfold QT
   by_cases h:n=0
   ·rw[if_pos h,if_pos h]
   ·rw[if_neg h,if_neg h,ih g _ (by omega) (by omega)]
theorem Dg.nil:Dg []:=by intro d h;simp at h
theorem Dg.head {d:Int}{L:List Int}(h:Dg (d::L)):0≤d∧d<1073741824:=h d (by simp)
theorem Dg.tail {d:Int}{L:List Int}(h:Dg (d::L)):Dg L:=fun x hx=>h x (by simp[hx])
theorem Dg.cons {d:Int}{L:List Int}(h0:0≤d)(h1:d<1073741824)(h:Dg L):Dg (d::L):=by
 intro x hx
 rcases List.mem_cons.1 hx with rfl|hx
 ·exact⟨h0,h1⟩
 ·exact h x hx
theorem Dg.getD {L:List Int}(h:Dg L)(i:Nat):0≤L.getD i 0∧L.getD i 0<1073741824:=by
 by_cases hi:i<L.length
 ·rw[List.getD_eq_getElem?_getD,List.getElem?_eq_getElem hi]
  exact h _ (List.getElem_mem hi)
 ·rw[List.getD_eq_getElem?_getD,List.getElem?_eq_none (by omega)]
  simp
theorem Dg.of_getD {L:List Int}(h:∀i,i<L.length→0≤L.getD i 0∧L.getD i 0<1073741824):Dg L:=by
 intro d hd
 obtain⟨i,hi,rfl⟩:=List.getElem_of_mem hd
 have:=h i hi
 rw[List.getD_eq_getElem?_getD,List.getElem?_eq_getElem hi]at this
 exact this
theorem qN:digs 0=[]:=rfl
theorem jJ (n:Nat)(h:n≠0):digs n=((n%1073741824:Nat):Int)::digs (n/1073741824):=by
 obtain⟨m,rfl⟩:∃m,n=m+1:=⟨n-1,by omega⟩
 unfold digs
 conv=>lhs;unfold QT
 rw[if_neg h,qgx m ((m+1)/1073741824) _ (by omega) (Nat.le_refl _)]
theorem qQ (n:Nat):nv (digs n)=n:=by
 induction n using Nat.strongRecOn with
 |ind n ih=>
  by_cases h:n=0
  ·subst h;rw[qN];rfl
  ·rw[jJ n h,nv,ih _ (by omega)];omega
theorem za (n:Nat):Dg (digs n):=by
 induction n using Nat.strongRecOn with
 |ind n ih=>
  by_cases h:n=0
  ·subst h;rw[qN];exact Dg.nil
  ·rw[jJ n h];exact Dg.cons (by omega) (by omega) (ih _ (by omega))
theorem Qf (i:Nat):2^(30*(i+1))=1073741824*2^(30*i):=by
 rw[Nat.mul_add,Nat.mul_one,Nat.pow_add,Nat.mul_comm]
theorem zJ (L:List Int)(h:Dg L):nv L<2^(30*L.length):=by
 induction L with
 |nil=>simp[nv]
 |cons d L ih=>
  have:=ih h.tail
  have:=h.head
  rw[List.length_cons,Qf,nv]
  omega
theorem zZ (L:List Int)(h:Dg L)(i:Nat):(L.getD i 0).toNat=nv L/2^(30*i)%1073741824:=by
 induction L generalizing i with
 |nil=>simp[nv]
 | cons d L ih=>
  have hd:=h.head
  cases i with
  |zero=>simp[nv];omega
  |succ i=>
   rw[List.getD_cons_succ,ih h.tail,nv,Qf,←Nat.div_div_eq_div_mul]
   congr 2
   omega
theorem qgy (L M:List Int)(hL:Dg L)(hM:Dg M)(hl:L.length=M.length)(h:nv L=nv M):L=M:=by
 induction L generalizing M with
 |nil=>cases M with
  |nil=>rfl
  |cons=>simp at hl
 | cons d L ih=>cases M with
  |nil=>simp at hl
  |cons e M=>
   have h1:=hL.head
   have h2:=hM.head
   simp only[nv]at h
   have:nv L=nv M:=by omega
   rw[ih M hL.tail hM.tail (by simpa using hl) this]
   congr 1
   omega
theorem QG (L M:List Int):nv (L++M)=nv L+2^(30*L.length)*nv M:=by
 induction L with
 |nil=>simp[nv]
 |cons d L ih=>
  simp only[List.cons_append,nv,ih,List.length_cons,Qf]
  rw[Nat.mul_add,Nat.add_assoc,Nat.mul_assoc]
theorem jj (L:List Int)(h:Dg L):nv L=0↔∀i,L.getD i 0=0:=by
 constructor
 ·intro h0 i
  have h1:=zZ L h i
  have h2:=h.getD i
  rw[h0,Nat.zero_div]at h1
  omega
 ·intro hz
  induction L with
  |nil=>rfl
  |cons d L ih=>
   have h0:=hz 0
   simp at h0
   rw[nv,ih h.tail (fun i=>by have:=hz (i+1);simpa using this),h0]
   rfl
theorem qgz (L:List Int)(h:Dg L)(hl:L.getD (L.length-1) 0≠0):2^(30*(L.length-1))≤nv L:=by
 have h1:=zZ L h (L.length-1)
 have h2:=h.getD (L.length-1)
 have h3:nv L/2^(30*(L.length-1))≠0:=by
  intro hz;rw[hz]at h1;omega
 by_cases hlt:nv L<2^(30*(L.length-1))
 ·exact absurd (Nat.div_eq_of_lt hlt) h3
 ·omega
theorem qC (n k:Nat)(h:n<2^(30*k)):(digs n).length≤k:=by
 induction k generalizing n with
 |zero=>simp at h;subst h;rw[qN];simp
 | succ k ih=>
  by_cases h0:n=0
  ·subst h0;rw[qN];simp
  ·rw[jJ n h0,List.length_cons]
   rw[Qf]at h
   have:=ih (n/1073741824) (by omega)
   omega
theorem jk (n k:Nat)(h:2^(30*k)≤n):k<(digs n).length:=by
 induction k generalizing n with
 |zero=>simp at h;rw[jJ n (by omega)];simp
 |succ k ih=>
  rw[Qf]at h
  have hp:0<2^(30*k):=Nat.two_pow_pos _
  rw[jJ n (by omega),List.length_cons]
  have:=ih (n/1073741824) (by omega)
  omega
theorem vw (n:Nat)(h:n≠0):(digs n).getD ((digs n).length-1) 0≠0:=by
 induction n using Nat.strongRecOn with
 | ind n ih=>
  rw[jJ n h,List.length_cons,Nat.add_sub_cancel]
  by_cases h0:n/1073741824=0
  ·rw[h0,qN];simp;omega
  ·have:=ih _ (by omega) h0
   have hpos:0<(digs (n/1073741824)).length:=jk _ 0 (by simp;omega)
   obtain⟨m,hm⟩:∃m,(digs (n/1073741824)).length=m+1:=⟨_,(Nat.sub_add_cancel hpos).symm⟩
   rw[hm]at this ⊢
   rw[List.getD_cons_succ]
   exact this
theorem Zj (L:List Int)(h:Dg L)(hl:L=[]∨L.getD (L.length-1) 0≠0):digs (nv L)=L:=by
 rcases hl with rfl|hl
 ·exact qN
 ·by_cases hn:L=[]
  ·subst hn;exact qN
  ·refine qgy _ _ (za _) h ?_ (qQ _)
   have h1:=qC _ _ (zJ L h)
   have h2:=jk _ _ (qgz L h hl)
   have:0<L.length:=List.length_pos_iff.2 hn
   omega
def bl (n:Nat):Nat:=if n=0 then 0 else n.log2+1
theorem Xl (n m:Nat)(h1:2^m≤n)(h2:n<2^(m+1)):bl n=m+1:=by
 have hn:n≠0:=by have:=Nat.two_pow_pos m;omega
 rw[bl,if_neg hn,(Nat.log2_eq_iff hn).2 ⟨h1,h2⟩]
theorem xP:bl 0=0:=rfl
theorem qO (n:Nat)(h:n≠0):2^(bl n-1)≤n∧n<2^bl n∧0<bl n:=by
 rw[bl,if_neg h]
 exact⟨by rw[Nat.add_sub_cancel];exact Nat.log2_self_le h,Nat.lt_log2_self,by omega⟩
theorem Z0 (n:Nat):n<2^bl n:=by
 by_cases h:n=0
 ·subst h;exact Nat.two_pow_pos _
 ·exact(qO n h).2.1
theorem zg (n m:Nat)(h:n<2^m):bl n≤m:=by
 by_cases h0:n=0
 ·subst h0;rw[xP];omega
 ·have h1:=qO n h0
  have:=(Nat.pow_lt_pow_iff_right (a:=2) (by decide)).1 (Nat.lt_of_le_of_lt h1.1 h)
  omega
theorem qg0 (n m:Nat)(h:2^m≤n):m<bl n:=by
 have:=Z0 n
 exact(Nat.pow_lt_pow_iff_right (a:=2) (by decide)).1 (Nat.lt_of_le_of_lt h this)
theorem Z3 (n k:Nat)(h:n≠0):bl (n*2^k)=bl n+k:=by
 have h1:=qO n h
 have hp:=Nat.two_pow_pos k
 have e:bl n-1+k+1=bl n+k:=by omega
 rw[←e]
 apply Xl
 ·rw[Nat.pow_add];exact Nat.mul_le_mul_right _ h1.1
 ·rw[show bl n-1+k+1=bl n+k by omega,Nat.pow_add]
  exact Nat.mul_lt_mul_of_lt_of_le h1.2.1 (Nat.le_refl _) hp
def Vo:Nat→Nat→Nat
 |0,_=>0
 |f+1,n=>if n=0 then 0 else if n%2=1 then 0 else 1+Vo f (n/2)
def tzn (n:Nat):Nat:=Vo n n
theorem qjw:∀(f g n:Nat),n≤f→n≤g→Vo f n=Vo g n:=by
 intro f
 induction f with
 |zero=>
  intro g n hf hg
  obtain rfl:n=0:=by omega
  cases g with
  |zero=>rfl
  |succ g=>simp[Vo]
 | succ f ih=>
  intro g n hf hg
  cases g with
  |zero=>
   obtain rfl:n=0:=by omega
   simp[Vo]
  |succ g=>
   unfold Vo
   by_cases h:n=0
   ·rw[if_pos h,if_pos h]
   ·rw[if_neg h,if_neg h,ih g _ (by omega) (by omega)]
theorem Qg (n:Nat)(h:n%2=1):tzn n=0:=by
 obtain⟨m,rfl⟩:∃m,n=m+1:=⟨n-1,by omega⟩
 unfold tzn Vo
 rw[if_neg (by omega),if_pos h]
theorem YK (n:Nat)(h0:n≠0)(h:n%2=0):tzn n=1+tzn (n/2):=by
 obtain⟨m,rfl⟩:∃m,n=m+1:=⟨n-1,by omega⟩
 unfold tzn
 conv=>lhs;unfold Vo
 rw[if_neg h0,if_neg (by omega),qjw m ((m+1)/2) _ (by omega) (Nat.le_refl _)]
theorem Qh (o k:Nat)(h:o%2=1):tzn (o*2^k)=k:=by
 induction k with
 |zero=>simp[Qg o h]
 |succ k ih=>
  have hp:=Nat.two_pow_pos k
  have e:o*2^(k+1)=2*(o*2^k):=by rw[Nat.pow_succ,←Nat.mul_assoc,Nat.mul_comm]
  have h1:0<o*2^k:=Nat.mul_pos (by omega) hp
  rw[e,YK _ (by omega) (by omega),show 2*(o*2^k)/2=o*2^k by omega,ih]
  omega
theorem jK (n:Nat)(h:n≠0):∃o,o%2=1∧n=o*2^tzn n:=by
 induction n using Nat.strongRecOn with
 | ind n ih=>
  by_cases h1:n%2=1
  ·exact⟨n,h1,by rw[Qg n h1];simp⟩
  ·obtain⟨o,ho,e⟩:=ih (n/2) (by omega) (by omega)
   refine⟨o,ho,?_⟩
   rw[YK n h (by omega),Nat.add_comm,Nat.pow_succ,←Nat.mul_assoc,←e]
   omega
theorem Zk (n:Nat)(h:n≠0):n/2^tzn n%2=1∧n=n/2^tzn n*2^tzn n:=by
 obtain⟨o,ho,e⟩:=jK n h
 have hp:=Nat.two_pow_pos (tzn n)
 have:n/2^tzn n=o:=by
  conv=>lhs;rw[e]
  rw[show tzn (o*2^tzn n)=tzn n from Qh o _ ho]
  exact Nat.mul_div_cancel _ hp
 rw[this]
 exact⟨ho,e⟩
theorem Xm (v s:Nat)(hs:s<30)(i:Nat):(v/2^(30*i)%1073741824/2^s+v/2^(30*(i+1))%1073741824*2^(30-s))%1073741824=v/2^(30*i+s)%1073741824:=by
 rw[Nat.pow_add,Qf,Nat.mul_comm 1073741824,←Nat.div_div_eq_div_mul,←Nat.div_div_eq_div_mul]
 generalize v/2^(30*i)=u
 obtain⟨p,q,hp,hq,e⟩:∃p q:Nat,2^s=p∧2^(30-s)=q∧p*q=1073741824:=⟨_,_,rfl,rfl,by rw[←Nat.pow_add,show s+(30-s)=30 by omega]⟩
 rw[hp,hq,←e]
 have hp0:0<p:=by rw[←hp];exact Nat.two_pow_pos _
 have hq0:0<q:=by rw[←hq];exact Nat.two_pow_pos _
 rw[Nat.mod_mul_right_div_self,←Nat.div_div_eq_div_mul]
 generalize u/p=a
 have e1:∀x y n:Nat,(x+y%n*q)%n=(x+y*q)%n:=by
  intro x y n
  rw[Nat.add_mod,Nat.mul_mod (y%n),Nat.mod_mod,←Nat.mul_mod,←Nat.add_mod]
 rw[e1]
 congr 1
 have:=Nat.div_add_mod a q
 rw[Nat.mul_comm q]at this
 omega
def pcz (v:Nat)(p:Int):Int:=if 0≤p then ((v/2^p.toNat%1073741824:Nat):Int)else ((v*2^(-p).toNat%1073741824:Nat):Int)
theorem xW (s:Int):bits .and .i64 s 1073741823=s%1073741824:=by
 have e:(BitVec.ofInt 64 1073741823:BitVec 64).toNat=2^30-1:=by decide
 have h:=qD s
 rw[ji,BitVec.toNat_and,e,Nat.and_two_pow_sub_one_eq_mod,qg]
 omega
theorem qbc (x y k:Nat)(h:x<2^k)(hb:x+y*2^k<9223372036854775808):bits .or .i64 (x:Int) ((y*2^k:Nat):Int)=((x+y*2^k:Nat):Int):=by
 rw[Qe,BitVec.toNat_or]
 have h1:=qD (x:Int)
 have h2:=qD ((y*2^k:Nat):Int)
 have e1:(BitVec.ofInt 64 (x:Int)).toNat=x:=by omega
 have e2:(BitVec.ofInt 64 ((y*2^k:Nat):Int)).toNat=y*2^k:=by omega
 rw[e1,e2,Nat.or_comm,Nat.mul_comm,←Nat.two_pow_add_eq_or_of_lt h,qg,Nat.mul_comm (2^k) y]
 generalize y*2^k=z at *
 omega
abbrev qoj:=@Nat.two_pow_pos
abbrev qok:=@Nat.lt_of_lt_of_le
abbrev qol:=@Nat.pow_add
abbrev qom:=@Nat.pow_le_pow_right
abbrev qon:=@List.getD_eq_getElem?_getD
abbrev qoo:=@Nat.le_refl
abbrev qop:=@Nat.mul_assoc
abbrev qoq:=@Nat.mul_comm
abbrev qor:=@decide_eq_true_eq
abbrev qos:=@decide_eq_true
abbrev qot:=@decide_eq_false
abbrev qou:=@Nat.le_trans
abbrev qov:=@Nat.pow_succ
end Go.Proofs.YtaglkncdedeipaaGreatDoor
namespace Go.Proofs.YtaglkncdedeipaaGreatDoor
open Go.ChangeShapes Go.WideShapes Go.ChangeAt Go.RowKit
set_option linter.unusedVariables false
set_option linter.unusedSimpArgs false
set_option maxHeartbeats 16000000
set_option maxRecDepth 100000
structure Kept (w w':World):Prop where
 below:Below w.heap.size w w'
 frozen:∀a,w'.frozen? a=w.frozen? a
theorem Kept.refl (w:World):Kept w w:=⟨Below.refl _ _,fun _=>rfl⟩
theorem Kept.trans {a b c:World}(h:Kept a b)(k:Kept b c):Kept a c:=
 ⟨h.below.trans (k.below.mono h.below.size),fun x=>(k.frozen x).trans (h.frozen x)⟩
theorem Kept.alloc {a b:World}(h:Kept a b)(c:Array Value)(t:TypeId):Kept a (b.alloc (.cells c t)):=
 ⟨h.below.alloc h.below.size _,fun x=>(frozen?_alloc_cells _ _ _ x).trans (h.frozen x)⟩
theorem Kept.setCell {a b:World}(h:Kept a b){p:Addr}(hp:a.heap.size≤p.block)(u:Value):Kept a (b.setCell p u):=
 ⟨h.below.setCell hp u,fun x=>(World.frozen?_setCell _ _ _ _).trans (h.frozen x)⟩
theorem Kept.drew {a b:World}(h:Kept a b):Kept a b.drew:=⟨h.below.drew,h.frozen⟩
theorem Kept.drewN {a b:World}(h:Kept a b)(n:Nat):Kept a (b.drewN n):=⟨below_drewN h.below n,h.frozen⟩
theorem Kept.grown {a b:World}(h:Kept a b):Grown a b:=⟨h.below.frame _,h.frozen,h.below.size⟩
theorem zd (w:World):Calls Tryz.prog 129 #[.int .i64 64] w fun e w'=>e=.returned (.tuple #[.agg #[.int .i64 (-9223372036854775808),.int .i64 9218868437227405312,.int .i64 9221120237041090561,.int .i64 52,.int .i64 (-1074)],.bool true])∧Kept w w':=by
 go_enter Tryz.func129,Tryz.ntmps129
 go_wp2
 exact bodyPost_ret (v:=.tuple #[.agg #[.int .i64 (-9223372036854775808),.int .i64 9218868437227405312,.int .i64 9221120237041090561,.int .i64 52,.int .i64 (-1074)],.bool true]) (by simp[results,Tryz.results129,go_sem]) rfl ⟨rfl,(Kept.refl _).alloc _ _⟩
theorem zj (w:World):Calls Tryz.prog 129 #[.int .i64 32] w fun e w'=>e=.returned (.tuple #[.agg #[.int .i64 2147483648,.int .i64 2139095040,.int .i64 2143289345,.int .i64 23,.int .i64 (-149)],.bool true])∧Kept w w':=by
 go_enter Tryz.func129,Tryz.ntmps129
 go_wp2
 exact bodyPost_ret (v:=.tuple #[.agg #[.int .i64 2147483648,.int .i64 2139095040,.int .i64 2143289345,.int .i64 23,.int .i64 (-149)],.bool true]) (by simp[results,Tryz.results129,go_sem]) rfl ⟨rfl,(Kept.refl _).alloc _ _⟩
theorem vG (n:Int)(h1:(n==32)=false)(h2:(n==64)=false)(w:World):Calls Tryz.prog 129 #[.int .i64 n] w fun e w'=>e=.returned (.tuple #[.agg #[.int .i64 0,.int .i64 0,.int .i64 0,.int .i64 0,.int .i64 0],.bool false])∧Kept w w':=by
 go_enter Tryz.func129,Tryz.ntmps129
 go_wp2
 exact bodyPost_ret (v:=.tuple #[.agg #[.int .i64 0,.int .i64 0,.int .i64 0,.int .i64 0,.int .i64 0],.bool false]) (by simp[results,Tryz.results129,go_sem]) rfl ⟨rfl,(Kept.refl _).alloc _ _⟩
theorem Yo (b:Int)(w:World):Calls Tryz.prog 65 #[.int .i64 b,.int .i64 64] w fun e w'=>e=.returned (.bool true)∧w=w':=by
 go_enter Tryz.func65,Tryz.ntmps65
 go_wp2
 go_ret
 exact⟨rfl,rfl⟩
theorem Yp (b:Int)(w:World):Calls Tryz.prog 65 #[.int .i64 b,.int .i64 32] w fun e w'=>e=.returned (.bool (b/4294967296==0))∧w=w':=by
 go_enter Tryz.func65,Tryz.ntmps65
 go_wp2
 go_ret
 exact⟨rfl,rfl⟩
theorem X9 (b n:Int)(h1:(n==32)=false)(h2:(n==64)=false)(w:World):Calls Tryz.prog 65 #[.int .i64 b,.int .i64 n] w fun e w'=>e=.returned (.bool false)∧w=w':=by
 go_enter Tryz.func65,Tryz.ntmps65
 go_wp2
 go_ret
 exact⟨rfl,rfl⟩
theorem qB {k:IntKind}{a b:Int}(h:a=b):Ending.returned (.int k a)=.returned (.int k b):=by rw[h]
theorem qge (b s:Int)(hs:bits .andNot .i64 b (-9223372036854775808)=s)(w:World):Calls Tryz.prog 133 #[.int .i64 b,.int .i64 64] w fun e w'=>e=.returned (.int .i64 (zX s 9218868437227405312 4503599627370496))∧Kept w w':=by
 go_enter Tryz.func133,Tryz.ntmps133
 go_wp2_with (first|(go_at_call 129;refine(zd _).mono ?_;rintro e w1 ⟨rfl,hk1⟩)|(go_at_call 65;refine(Yo _ _).mono ?_;rintro e w2 ⟨rfl,rfl⟩))
 all_goals
  go_ret
  refine⟨qB ?_,hk1.alloc _ _⟩
  unfold zX
  try simp only[beq_iff_eq,beq_eq_false_iff_ne]at *
  (repeat' split)<;>omega
def qmi (b s:Int):Int:=if (b/4294967296==0)=true then zX s 2139095040 8388608 else 4
theorem qgf (b s:Int)(hs:bits .andNot .i64 b 2147483648=s)(w:World):Calls Tryz.prog 133 #[.int .i64 b,.int .i64 32] w fun e w'=>e=.returned (.int .i64 (qmi b s))∧Kept w w':=by
 go_enter Tryz.func133,Tryz.ntmps133
 go_wp2_with (first|(go_at_call 129;refine(zj _).mono ?_;rintro e w1 ⟨rfl,hk1⟩)|(go_at_call 65;refine(Yp _ _).mono ?_;rintro e w2 ⟨rfl,rfl⟩))
 all_goals
  go_ret
  refine⟨qB ?_,hk1.alloc _ _⟩
  unfold qmi zX
  try simp only[beq_iff_eq,beq_eq_false_iff_ne]at *
  (repeat' split)<;>omega
theorem qjp (b n:Int)(h1:(n==32)=false)(h2:(n==64)=false)(w:World):Calls Tryz.prog 133 #[.int .i64 b,.int .i64 n] w fun e w'=>e=.returned (.int .i64 0)∧Kept w w':=by
 go_enter Tryz.func133,Tryz.ntmps133
 go_wp2_with (first|(go_at_call 129;refine(vG _ h1 h2 _).mono ?_;rintro e w1 ⟨rfl,hk1⟩)|(go_at_call 65;refine(X9 _ _ h1 h2 _).mono ?_;rintro e w2 ⟨rfl,rfl⟩))
 go_ret
 exact⟨rfl,hk1.alloc _ _⟩
theorem Xc (b n:Int)(w:World):Calls Tryz.prog 65 #[.int .i64 b,.int .i64 n] w fun e w'=>e=.returned (.bool (val b n))∧w=w':=by
 by_cases h64:n=64
 ·subst h64
  refine(Yo b w).mono ?_
  rintro e w' ⟨rfl,rfl⟩
  exact⟨by simp[val],rfl⟩
 ·by_cases h32:n=32
  ·subst h32
   refine(Yp b w).mono ?_
   rintro e w' ⟨rfl,rfl⟩
   refine⟨?_,rfl⟩
   have:(b/4294967296==0)=val b 32:=by
    rw[Bool.eq_iff_iff];simp[val];omega
   rw[this]
  ·refine(X9 b n (by simpa using h32) (by simpa using h64) w).mono ?_
   rintro e w' ⟨rfl,rfl⟩
   exact⟨by simp[val,h64,h32],rfl⟩
theorem zV (b n:Int)(w:World):Calls Tryz.prog 133 #[.int .i64 b,.int .i64 n] w fun e w'=>e=.returned (.int .i64 (cls b n))∧Kept w w':=by
 by_cases h64:n=64
 ·subst h64
  refine(qge b _ (kC b) w).mono ?_
  rintro e w' ⟨rfl,hk⟩
  exact⟨qB (by simp[cls]),hk⟩
 ·by_cases h32:n=32
  ·subst h32
   refine(qgf b _ rfl w).mono ?_
   rintro e w' ⟨rfl,hk⟩
   refine⟨qB ?_,hk⟩
   unfold qmi cls
   by_cases hv:0≤b∧b<4294967296
   ·rw[if_pos (by rw[beq_iff_eq];omega),QF b hv.1 hv.2,if_neg (by decide),if_pos rfl,if_pos hv]
   ·rw[if_neg (by rw[beq_iff_eq];omega),if_neg (by decide),if_pos rfl,if_neg hv]
  ·refine(qjp b n (by simpa using h32) (by simpa using h64) w).mono ?_
   rintro e w' ⟨rfl,hk⟩
   exact⟨qB (by simp[cls,h64,h32]),hk⟩
def Tab (w:World):Prop:=3≤w.heap.size∧∀j,j<64→w.cell? ⟨2,j,none⟩=some (.int .u8 (Lib.deBruijn64tab.getD j 0))
theorem Tab.kept {w w':World}(h:Tab w)(k:Kept w w'):Tab w':=
 ⟨qou h.1 k.below.size,fun j hj=>(k.below.cell (p:=⟨2,j,none⟩) (by have:=h.1;show 2<_;omega)).trans (h.2 j hj)⟩
theorem qeb (x k idx:Nat)(w:World)(hx0:((x:Int)==0)=false)
  (key:IntKind.u64.wrap (bits BinOp.and IntKind.u64 (x:Int) (IntKind.u64.wrap (-(x:Int)))*285870213051353865)/288230376151711744=(idx:Int))
  (hi:idx<64) (hk:k<64) (hcell:w.cell? ⟨2,idx,none⟩=some (.int .u8 k)):
  Calls Tryz.prog 178 #[.int .u64 x] w fun e w'=>e=.returned (.int .i64 k)∧w=w':=by
 go_enter Tryz.func178,Tryz.ntmps178
 go_wp2_with (simp only[key])
 go_ret
 exact⟨rfl,rfl⟩
theorem qgg (x a:Nat)(hx:x<18446744073709551616)(hx0:x≠0)(hlow:x&&& (18446744073709551616-x)=a):
  IntKind.u64.wrap (bits BinOp.and IntKind.u64 (x:Int) (IntKind.u64.wrap (-(x:Int)))*285870213051353865)/288230376151711744=((a*285870213051353865%18446744073709551616/288230376151711744:Nat):Int):=by
 have e1:IntKind.u64.wrap (-(x:Int))=((18446744073709551616-x:Nat):Int):=by rw[IntKind.wrap_u64];omega
 rw[e1,bits_and_u64_nat x _ hx (by omega),hlow,IntKind.wrap_u64]
 omega
theorem qn8 (x:Nat)(hx:x<18446744073709551616)(hx0:x≠0)(w:World)(hT:Tab w):
  Calls Tryz.prog 178 #[.int .u64 x] w fun e w'=>e=.returned (.int .i64 (Lib.ctz 64 x))∧w=w':=by
 obtain⟨hlow,hk⟩:=Lib.lowest_bit 64 x hx0 hx
 obtain⟨hi,htab⟩:=Lib.deBruijn64_at _ hk
 have hcell:=hT.2 _ hi
 rw[htab]at hcell
 exact qeb x _ _ w (by simp;omega) (qgg x _ hx hx0 hlow) hi hk hcell
theorem tz (x:Nat)(hx:x<18446744073709551616)(hx0:x≠0)(w:World)(hT:Tab w):
  Calls Tryz.prog 168 #[.int .u64 x] w fun e w'=>e=.returned (.int .i64 (Lib.ctz 64 x))∧w=w':=by
 have hc:=qn8 x hx hx0 w hT
 obtain⟨c,hcx⟩:∃c,c=Lib.ctz 64 x:=⟨_,rfl⟩
 rw[←hcx]at hc ⊢
 have HC:Hid (Calls Tryz.prog 178 #[.int .u64 x] w fun e w'=>e=.returned (.int .i64 c)∧w=w'):=hc
 clear hc hcx hT hx0 hx
 go_enter Tryz.func168,Tryz.ntmps168
 go_wp2_with fail
 refine HC.out.mono ?_
 rintro e w1 ⟨rfl,rfl⟩
 go_wp2
 go_ret
 exact⟨rfl,rfl⟩
theorem Va:(Lib.len8tab.size:Int)=256:=by
 have:Lib.len8tab.size=256:=by decide
 omega
theorem xt (k a b:Nat)(hk:k≤56)(ha:a≤8)(hb:b=k+a):wrap64 ((k:Int)+wrap64 (a:Int))=(b:Int):=by
 unfold wrap64
 omega
theorem qec (a:Nat)(ha:a≤8):wrap64 (wrap64 (a:Int))=(a:Int):=by
 unfold wrap64
 omega
theorem jI (y:Int)(h:y.toNat<Lib.len8tab.size):((Lib.len8tab[y.toNat]'h).toNat:Int)=Lib.len8 y:=by
 unfold Lib.len8
 rw[getElem?_pos Lib.len8tab y.toNat h]
 rfl
theorem qnk (x:Int)(w:World)(h0:0≤x)(h1:x≤18446744073709551615):
    Calls Tryz.prog 166 #[.int .u64 x] w fun e w'=>e=.returned (.int .i64 (Lib.bitLen x.toNat))∧w=w':=by
  go_enter Tryz.func166,Tryz.ntmps166
  go_wp2
  all_goals first
    |(go_ret;refine⟨congrArg Ending.returned (congrArg (Value.int IntKind.i64) ?_),rfl⟩;go_light)
    | (exfalso
       go_light
       have hs:=Va
       omega)
  all_goals first
    | (rw[jI (x/4294967296/65536/256) _,Lib.len8_of (x/4294967296/65536/256) (by omega) (by omega)]
       have e:(x/4294967296/65536/256).toNat=x.toNat/72057594037927936:=by omega
       have l:=Lib.bitLen_le8' (x/4294967296/65536/256) (by omega) (by omega)
       have s:=Lib.bitLen_shift56 x.toNat (by omega) (by omega)
       rw[e]at l ⊢
       exact xt 56 _ _ (by decide) l s)
    | (rw[jI (x/4294967296/65536) _,Lib.len8_of (x/4294967296/65536) (by omega) (by omega)]
       have e:(x/4294967296/65536).toNat=x.toNat/281474976710656:=by omega
       have l:=Lib.bitLen_le8' (x/4294967296/65536) (by omega) (by omega)
       have s:=Lib.bitLen_shift48 x.toNat (by omega) (by omega)
       rw[e]at l ⊢
       exact xt 48 _ _ (by decide) l s)
    | (rw[jI (x/4294967296/256) _,Lib.len8_of (x/4294967296/256) (by omega) (by omega)]
       have e:(x/4294967296/256).toNat=x.toNat/1099511627776:=by omega
       have l:=Lib.bitLen_le8' (x/4294967296/256) (by omega) (by omega)
       have s:=Lib.bitLen_shift40 x.toNat (by omega) (by omega)
       rw[e]at l ⊢
       exact xt 40 _ _ (by decide) l s)
    | (rw[jI (x/4294967296) _,Lib.len8_of (x/4294967296) (by omega) (by omega)]
       have e:(x/4294967296).toNat=x.toNat/4294967296:=by omega
       have l:=Lib.bitLen_le8' (x/4294967296) (by omega) (by omega)
       have s:=Lib.bitLen_shift32 x.toNat (by omega) (by omega)
       rw[e]at l ⊢
       exact xt 32 _ _ (by decide) l s)
    | (rw[jI (x/65536/256) _,Lib.len8_of (x/65536/256) (by omega) (by omega)]
       have e:(x/65536/256).toNat=x.toNat/16777216:=by omega
       have l:=Lib.bitLen_le8' (x/65536/256) (by omega) (by omega)
       have s:=Lib.bitLen_shift24 x.toNat (by omega) (by omega)
       rw[e]at l ⊢
       exact xt 24 _ _ (by decide) l s)
    | (rw[jI (x/65536) _,Lib.len8_of (x/65536) (by omega) (by omega)]
       have e:(x/65536).toNat=x.toNat/65536:=by omega
       have l:=Lib.bitLen_le8' (x/65536) (by omega) (by omega)
       have s:=Lib.bitLen_shift16 x.toNat (by omega) (by omega)
       rw[e]at l ⊢
       exact xt 16 _ _ (by decide) l s)
    | (rw[jI (x/256) _,Lib.len8_of (x/256) (by omega) (by omega)]
       have e:(x/256).toNat=x.toNat/256:=by omega
       have l:=Lib.bitLen_le8' (x/256) (by omega) (by omega)
       have s:=Lib.bitLen_shift8 x.toNat (by omega) (by omega)
       rw[e]at l ⊢
       exact xt 8 _ _ (by decide) l s)
    | (rw[jI x _,Lib.len8_of x (by omega) (by omega)]
       have l:=Lib.bitLen_le8' x (by omega) (by omega)
       exact qec _ l)
theorem len (x:Int)(w:World)(h0:0≤x)(h1:x≤18446744073709551615):
  Calls Tryz.prog 145 #[.int .u64 x] w fun e w'=>e=.returned (.int .i64 (Lib.bitLen x.toNat))∧w=w':=by
 have hc:=qnk x w h0 h1
 obtain⟨c,hcx⟩:∃c,c=Lib.bitLen x.toNat:=⟨_,rfl⟩
 rw[←hcx]at hc ⊢
 have HC:Hid (Calls Tryz.prog 166 #[.int .u64 x] w fun e w'=>e=.returned (.int .i64 c)∧w=w'):=hc
 clear hc hcx
 go_enter Tryz.func145,Tryz.ntmps145
 go_wp2_with fail
 refine HC.out.mono ?_
 rintro e w1 ⟨rfl,rfl⟩
 go_wp2
 go_ret
 exact⟨rfl,rfl⟩
theorem qh {w1 w2:World}{c:Array Value}{t:TypeId}(h:Kept (w1.alloc (.cells c t)) w2)(o:Nat):w2.cell? ⟨w1.heap.size,o,none⟩=(w1.alloc (.cells c t)).cell? ⟨w1.heap.size,o,none⟩:=
 h.below.cell (p:=⟨w1.heap.size,o,none⟩) (by simp)
theorem vo {w1 w2:World}{c:Array Value}{t:TypeId}(h:Kept (w1.alloc (.cells c t)) w2):w1.heap.size<w2.heap.size:=by
 have:=h.below.size
 simp at this
 omega
theorem v9 {w1 w2:World}{c:Array Value}{t:TypeId}(h:Kept (w1.alloc (.cells c t)) w2)(k o:Nat)(hk:k<w1.heap.size):w2.cell? ⟨k,o,none⟩=w1.cell? ⟨k,o,none⟩:=
 (((Kept.refl w1).alloc c t).trans h).below.cell (p:=⟨k,o,none⟩) hk
theorem Yq (b:Int)(blk:Nat)(w:World)(hcell:w.cell? ⟨blk,0,none⟩=some (.int .i64 b))(hblk:blk<w.heap.size):Calls Tryz.prog 128 #[.int .i64 64,.slice (some ⟨blk,0,none⟩) 1 1] w fun e w'=>e=.returned (.tuple #[.agg #[.int .i64 (-9223372036854775808),.int .i64 9218868437227405312,.int .i64 9221120237041090561,.int .i64 52,.int .i64 (-1074)],.bool (cls b 64 != 4)])∧Kept w w':=by
 go_enter Tryz.func128,Tryz.ntmps128
 go_wp2_with (first|(go_at_call 129;refine(zd _).mono ?_;rintro e w1 ⟨rfl,hk1⟩))
 have s1:=vo hk1
 have hc1:w1.cell? ⟨blk,0,none⟩=some (.int .i64 b):=(v9 hk1 blk 0 hblk).trans hcell
 have hb1:blk<w1.heap.size:=by omega
 refine wp_loop_rounds 2 ?_
 rw[rounds_succ]
 go_wp2_with (first|(go_at_call 133;refine(zV _ _ _).mono ?_;rintro e w2 ⟨rfl,hk2⟩))
 have s2:=vo hk2
 have hl2:=qh hk2
 have hl0:∀o,w2.cell? ⟨w.heap.size,o,none⟩=(w.alloc (.cells #[.int .i64 0,.int .i64 0,.int .i64 0,.int .i64 0,.int .i64 0] 166)).cell? ⟨w.heap.size,o,none⟩:=fun o=>(v9 hk2 _ o s1).trans (qh hk1 o)
 have hf2:∀o,w2.frozen? ⟨w.heap.size,o,none⟩=(w.alloc (.cells #[.int .i64 0,.int .i64 0,.int .i64 0,.int .i64 0,.int .i64 0] 166)).frozen? ⟨w.heap.size,o,none⟩:=fun o=>(((Kept.refl _).trans hk1).alloc _ _|>.trans hk2).frozen _
 rw[rounds_succ]
 go_wp2
 refine bodyPost_ret (v:=.tuple #[.agg #[.int .i64 (-9223372036854775808),.int .i64 9218868437227405312,.int .i64 9221120237041090561,.int .i64 52,.int .i64 (-1074)],.bool (cls b 64 != 4)]) (by simp[results,Tryz.results128,go_sem,hl0]) rfl ⟨rfl,?_⟩
 have hK:Kept w w2:=(((Kept.refl w).alloc _ _).trans hk1|>.alloc _ _).trans hk2
 exact((((hK.setCell (qoo _) _).setCell (qoo _) _).setCell (qoo _) _).setCell (qoo _) _).setCell (qoo _) _
theorem Yr (b:Int)(blk:Nat)(w:World)(hcell:w.cell? ⟨blk,0,none⟩=some (.int .i64 b))(hblk:blk<w.heap.size):Calls Tryz.prog 128 #[.int .i64 32,.slice (some ⟨blk,0,none⟩) 1 1] w fun e w'=>e=.returned (.tuple #[.agg #[.int .i64 2147483648,.int .i64 2139095040,.int .i64 2143289345,.int .i64 23,.int .i64 (-149)],.bool (cls b 32 != 4)])∧Kept w w':=by
 go_enter Tryz.func128,Tryz.ntmps128
 go_wp2_with (first|(go_at_call 129;refine(zj _).mono ?_;rintro e w1 ⟨rfl,hk1⟩))
 have s1:=vo hk1
 have hc1:w1.cell? ⟨blk,0,none⟩=some (.int .i64 b):=(v9 hk1 blk 0 hblk).trans hcell
 have hb1:blk<w1.heap.size:=by omega
 refine wp_loop_rounds 2 ?_
 rw[rounds_succ]
 go_wp2_with (first|(go_at_call 133;refine(zV _ _ _).mono ?_;rintro e w2 ⟨rfl,hk2⟩))
 have s2:=vo hk2
 have hl2:=qh hk2
 have hl0:∀o,w2.cell? ⟨w.heap.size,o,none⟩=(w.alloc (.cells #[.int .i64 0,.int .i64 0,.int .i64 0,.int .i64 0,.int .i64 0] 166)).cell? ⟨w.heap.size,o,none⟩:=fun o=>(v9 hk2 _ o s1).trans (qh hk1 o)
 have hf2:∀o,w2.frozen? ⟨w.heap.size,o,none⟩=(w.alloc (.cells #[.int .i64 0,.int .i64 0,.int .i64 0,.int .i64 0,.int .i64 0] 166)).frozen? ⟨w.heap.size,o,none⟩:=fun o=>(((Kept.refl _).trans hk1).alloc _ _|>.trans hk2).frozen _
 rw[rounds_succ]
 go_wp2
 refine bodyPost_ret (v:=.tuple #[.agg #[.int .i64 2147483648,.int .i64 2139095040,.int .i64 2143289345,.int .i64 23,.int .i64 (-149)],.bool (cls b 32 != 4)]) (by simp[results,Tryz.results128,go_sem,hl0]) rfl ⟨rfl,?_⟩
 have hK:Kept w w2:=(((Kept.refl w).alloc _ _).trans hk1|>.alloc _ _).trans hk2
 exact((((hK.setCell (qoo _) _).setCell (qoo _) _).setCell (qoo _) _).setCell (qoo _) _).setCell (qoo _) _
theorem qaz (b n:Int)(h1:(n==32)=false)(h2:(n==64)=false)(blk:Nat)(w:World)(hcell:w.cell? ⟨blk,0,none⟩=some (.int .i64 b))(hblk:blk<w.heap.size):Calls Tryz.prog 128 #[.int .i64 n,.slice (some ⟨blk,0,none⟩) 1 1] w fun e w'=>e=.returned (.tuple #[.agg #[.int .i64 0,.int .i64 0,.int .i64 0,.int .i64 0,.int .i64 0],.bool (false)])∧Kept w w':=by
 go_enter Tryz.func128,Tryz.ntmps128
 go_wp2_with (first|(go_at_call 129;refine(vG _ h1 h2 _).mono ?_;rintro e w1 ⟨rfl,hk1⟩))
 have s1:=vo hk1
 have hc1:w1.cell? ⟨blk,0,none⟩=some (.int .i64 b):=(v9 hk1 blk 0 hblk).trans hcell
 have hb1:blk<w1.heap.size:=by omega
 refine wp_loop_rounds 2 ?_
 rw[rounds_succ]
 go_wp2
 have hl1:=qh hk1
 have hf1:∀o,w1.frozen? ⟨w.heap.size,o,none⟩=(w.alloc (.cells #[.int .i64 0,.int .i64 0,.int .i64 0,.int .i64 0,.int .i64 0] 166)).frozen? ⟨w.heap.size,o,none⟩:=fun o=>hk1.frozen _
 rw[rounds_succ]
 go_wp2
 refine bodyPost_ret (v:=.tuple #[.agg #[.int .i64 0,.int .i64 0,.int .i64 0,.int .i64 0,.int .i64 0],.bool (false)]) (by simp[results,Tryz.results128,go_sem,hl1,s1]) rfl ⟨rfl,?_⟩
 have hK:Kept w w1:=((Kept.refl w).alloc _ _).trans hk1
 exact(((((hK.setCell (qoo _) _).setCell (qoo _) _).setCell (qoo _) _).setCell (qoo _) _).setCell (qoo _) _).alloc _ _
theorem kn (b:Int)(w:World):Calls Tryz.prog 128 #[.int .i64 64,.slice (some ⟨w.heap.size,0,none⟩) 1 1] (w.alloc (.cells #[.int .i64 b] 3)) fun e w'=>e=.returned (.tuple #[.agg #[.int .i64 (-9223372036854775808),.int .i64 9218868437227405312,.int .i64 9221120237041090561,.int .i64 52,.int .i64 (-1074)],.bool (cls b 64 != 4)])∧Kept w w':=by
 refine(Yq b w.heap.size _ (by simp[go_sem]) (by simp)).mono ?_
 rintro e w' ⟨rfl,hk⟩
 exact⟨rfl,((Kept.refl w).alloc _ _).trans hk⟩
theorem ko (b:Int)(w:World):Calls Tryz.prog 128 #[.int .i64 32,.slice (some ⟨w.heap.size,0,none⟩) 1 1] (w.alloc (.cells #[.int .i64 b] 3)) fun e w'=>e=.returned (.tuple #[.agg #[.int .i64 2147483648,.int .i64 2139095040,.int .i64 2143289345,.int .i64 23,.int .i64 (-149)],.bool (cls b 32 != 4)])∧Kept w w':=by
 refine(Yr b w.heap.size _ (by simp[go_sem]) (by simp)).mono ?_
 rintro e w' ⟨rfl,hk⟩
 exact⟨rfl,((Kept.refl w).alloc _ _).trans hk⟩
theorem Qz (b n:Int)(h1:(n==32)=false)(h2:(n==64)=false)(w:World):Calls Tryz.prog 128 #[.int .i64 n,.slice (some ⟨w.heap.size,0,none⟩) 1 1] (w.alloc (.cells #[.int .i64 b] 3)) fun e w'=>e=.returned (.tuple #[.agg #[.int .i64 0,.int .i64 0,.int .i64 0,.int .i64 0,.int .i64 0],.bool (false)])∧Kept w w':=by
 refine(qaz b n h1 h2 w.heap.size _ (by simp[go_sem]) (by simp)).mono ?_
 rintro e w' ⟨rfl,hk⟩
 exact⟨rfl,((Kept.refl w).alloc _ _).trans hk⟩
theorem tk {P:Program}{ops:Array Oper}{Q:Exit→Act→World→Prop}{md:Region.Mode}{S:World→Prop}{i:Nat}{oi:Oper}{v:Value}{fuel:Nat}{listed:Array Bool}{a:Act}{w:World}(hi:ops[i]?=some oi)(h:wpAnyH P md ops Q S fuel (listed.setIfInBounds i true) (a.put oi.dst v) w)(hy:YieldsIf P ops S oi v a:=by exact .inl ⟨by rfl,by(intro w hSw;(try dsimp only at hSw);go_simp;try (with_reducible rfl))⟩)(hs:Region.noSelect ops=true:=by kernel_rfl)(hf:Region.free md ops listed i=true:=by kernel_rfl)(hr:(Region.ready md ops listed).contains i=true:=by kernel_rfl)(hQ:∀c a w,Q (.panic c) (a.put oi.dst v) w→Q (.panic c) a w:=by exact fun _ _ _ h=>h)(hS:S w:=by assumption):wpAnyH P md ops Q S (fuel+1) listed a w:=wpAnyH_take hi hs hf hr hQ hy hS h
theorem zP:(∀(a:Act) (d:Tmp) (v:Value),a.put (some d) v=⟨a.tmps.setIfInBounds d v,a.defers⟩)∧∀(a:Act) (v:Value),a.put none v=a:=⟨fun _ _ _=>rfl,fun _ _=>rfl⟩
abbrev zz:=And.intro zP.1 (And.intro zP.2 (And.intro (@List.getElem_toArray.{0}) (And.intro (@List.getElem_cons_succ.{0}) (And.intro (@List.getElem_cons_zero.{0}) (And.intro (@List.setIfInBounds_toArray.{0}) (And.intro (@List.set_cons_zero.{0}) (@List.set_cons_succ.{0})))))))
abbrev qow:=@AllReadyH.cons
abbrev qox:=@AllReadyH.nil
abbrev qoy:=@wpAnyH_ready
abbrev qoz:=@bodyPost_ret
abbrev qo0:=@Kept.refl
abbrev qo1:=@wp_region_held_drew
abbrev qo2:=@wpAnyH_done
end Go.Proofs.YtaglkncdedeipaaGreatDoor
namespace Go.Proofs.YtaglkncdedeipaaGreatDoor
open Go
set_option linter.unusedVariables false
set_option linter.unusedSimpArgs false
set_option maxHeartbeats 16000000
set_option maxRecDepth 100000
section
variable {P:Program} {ops:Array Oper} {Q:Exit→Act→World→Prop} {md:Region.Mode} {S:World→Prop} {D:List Nat}
def zc (P:Program)(md:Region.Mode)(ops:Array Oper)(Q:Exit→Act→World→Prop)(S:World→Prop)(D:List Nat):Nat→Array Bool→Act→World→Prop
 |0,listed,a,w=>Region.ready md ops listed=[]∧Q .normal a w
 |fuel+1,listed,a,w=>
  (Region.ready md ops listed=[]→Q .normal a w)∧
  ∀i∈Region.ready md ops listed,wpOp P ops Q i (fun a' w'=>(D.contains i=false→S w')∧zc P md ops Q S D fuel (listed.setIfInBounds i true) a' w') a w
theorem y9:∀(fuel:Nat) (listed:Array Bool) (a:Act) (w:World),zc P md ops Q S D fuel listed a w→wpAny P md ops Q fuel listed a w
 |0,_,_,_,h=>h
 |fuel+1,_,_,_,h=>⟨h.1,fun i hi=>wpOp_mono (fun a' w' h'=>y9 fuel _ a' w' h'.2) (h.2 i hi)⟩
def qit (md:Region.Mode)(i:Nat)(E:List Nat)(o:Oper):Bool:=o.after.any fun e=>Region.binds md e&&(e.on==i||E.contains e.on)
def qb7 (md:Region.Mode)(ops:Array Oper)(i:Nat):List Nat:=(List.range ops.size).foldl (fun E j=>match ops[j]? with
 |some o=>if qit md i E o then j::E else E
 |none=>E) []
def qaf (md:Region.Mode)(ops:Array Oper)(listed:Array Bool)(D:List Nat)(i:Nat)(E:List Nat):Bool:=
 D.all (fun j=>E.contains j)&&E.all fun j=>(listed.getD j true==false)&&(j != i)&&(match ops[j]? with
  |some o=>qit md i E o
  |none=>true)
def qdn (md:Region.Mode)(ops:Array Oper)(listed:Array Bool)(i:Nat)(E:List Nat):Prop:=
 ∀j∈E,listed.getD j true=false∧j≠i∧∀o,ops[j]?=some o→∃e∈o.after,Region.binds md e=true∧(e.on=i∨e.on∈E)
theorem Jy {listed:Array Bool}{i:Nat}{E:List Nat}(h:qaf md ops listed D i E=true):(∀j∈D,j∈E)∧qdn md ops listed i E:=by
 unfold qaf at h
 rw[Bool.and_eq_true,List.all_eq_true,List.all_eq_true]at h
 refine⟨fun j hj=>by simpa using h.1 j hj,fun j hj=>?_⟩
 have h1:=h.2 j hj
 rw[Bool.and_eq_true,Bool.and_eq_true]at h1
 refine⟨by simpa using h1.1.1,by simpa using h1.1.2,fun o ho=>?_⟩
 have h2:=h1.2
 rw[ho]at h2
 unfold qit at h2
 obtain⟨e,he,hb⟩:=Array.any_eq_true'.1 h2
 simp only[Bool.and_eq_true,Bool.or_eq_true,beq_iff_eq,List.contains_iff_mem]at hb
 exact⟨e,he,hb.1,hb.2⟩
theorem VZ {listed:Array Bool}{k:Nat}(h0:listed.getD k true=false)(h1:listed.getD k false=true):False:=by
 rcases Nat.lt_or_ge k listed.size with h'|h'
 ·simp[h']at h0 h1;rw[h0]at h1;cases h1
 ·simp[Array.getElem?_eq_none h']at h1
theorem Jz {listed:Array Bool}{i j:Nat}{E:List Nat}(hL:qdn md ops listed i E)(hi:i∈Region.ready md ops listed)(hj:j∈Region.ready md ops listed):j∉E:=by
 intro hE
 obtain⟨-,-,h3⟩:=hL j hE
 obtain⟨-,o,ho,hall⟩:=mem_ready.1 hj
 obtain⟨e,he,hb,hw⟩:=h3 o ho
 have h1:=hall e he hb
 rcases hw with hw|hw
 ·rw[hw]at h1
  exact VZ (mem_ready.1 hi).1 h1
 ·exact VZ (hL _ hw).1 h1
theorem V0 {i:Nat}{oi:Oper}{v:Value}{E:List Nat}(hi:ops[i]?=some oi)(hsel:∀(j:Nat) (o:Oper) cs b,ops[j]?=some o→o.op≠.select cs b)
  (hQ:∀c a w,Q (.panic c) (a.put oi.dst v) w→Q (.panic c) a w) (hD:∀j∈D,j∈E):
  ∀(fuel:Nat) (listed:Array Bool) (a:Act) (w:World),qdn md ops listed i E→
   (∀j oj,ops[j]?=some oj→j≠i→listed.getD j true=false→(∀e∈oj.after,Region.binds md e=true→e.on≠i)→oi.apart ops oj=true)→
   i∈Region.ready md ops listed→YieldsIf P ops S oi v a→S w→
   zc P md ops Q S D fuel (listed.setIfInBounds i true) (a.put oi.dst v) w→zc P md ops Q S D (fuel+1) listed a w:=by
 intro fuel
 induction fuel with
 | zero=>
  intro listed a w _ _ hr hy hS H
  refine⟨fun h=>(by rw[h]at hr;cases hr),fun j hj=>?_⟩
  by_cases hji:j=i
  ·subst hji;exact hy.wpOp hi hS ⟨fun _=>hS,H⟩
  ·have:=ready_mono hj hji
   rw[H.1]at this
   cases this
 | succ fuel ih=>
  intro listed a w hL hfree hr hy hS H
  refine⟨fun h=>(by rw[h]at hr;cases hr),fun j hj=>?_⟩
  by_cases hji:j=i
  ·subst hji;exact hy.wpOp hi hS ⟨fun _=>hS,H⟩
  ·have h1:=H.2 j (ready_mono hj hji)
   have hjE:=Jz hL hr hj
   have hjD:D.contains j=false:=by
    rcases hc:D.contains j with _|_
    ·rfl
    ·exact absurd (hD j (by simpa using hc)) hjE
   obtain⟨hjun,oj,hoj,hall⟩:=mem_ready.1 hj
   have hnot:∀e∈oj.after,Region.binds md e=true→e.on≠i:=fun e he hb heq=>by
    have h1:=hall e he hb
    rw[heq]at h1
    exact VZ (mem_ready.1 hr).1 h1
   have h2:=wpOp_putIf hoj (hfree j oj hoj hji hjun hnot) (fun cs b=>hsel i oi cs b hi) (fun cs b=>hsel j oj cs b hoj) hQ hy h1
   have hfree':∀k ok,ops[k]?=some ok→k≠i→(listed.setIfInBounds j true).getD k true=false→
     (∀e∈ok.after,Region.binds md e=true→e.on≠i)→oi.apart ops ok=true:=fun k ok hk hki hun hno=>by
    refine hfree k ok hk hki ?_ hno
    by_cases hjk:j=k
    ·subst hjk;exact hjun
    ·rw[getD_set_ne true hjk]at hun;exact hun
   have hL':qdn md ops (listed.setIfInBounds j true) i E:=fun k hk=>by
    obtain⟨g1,g2,g3⟩:=hL k hk
    have hne:j≠k:=fun e=>by subst e;exact hjE hk
    exact⟨by rw[getD_set_ne true hne];exact g1,g2,g3⟩
   refine wpOp_mono (fun a' w' h3=>⟨h3.2.1,ih (listed.setIfInBounds j true) a' w' hL' hfree' (ready_mono hr (Ne.symm hji)) h3.1 (h3.2.1 hjD) ?_⟩) h2
   rw[Array.setIfInBounds_comm _ _ hji]
   exact h3.2.2
theorem qz {i:Nat}{oi:Oper}{v:Value}{fuel:Nat}{listed:Array Bool}{a:Act}{w:World}(hi:ops[i]?=some oi)
  (hs:Region.noSelect ops=true) (hf:Region.free md ops listed i=true) (hr:(Region.ready md ops listed).contains i=true) (hl:qaf md ops listed D i (qb7 md ops i)=true)
  (hQ:∀c a w,Q (.panic c) (a.put oi.dst v) w→Q (.panic c) a w) (hy:YieldsIf P ops S oi v a) (hS:S w)
  (h:zc P md ops Q S D fuel (listed.setIfInBounds i true) (a.put oi.dst v) w):zc P md ops Q S D (fuel+1) listed a w:=
 V0 hi (Region.noSelect_spec hs) hQ (Jy hl).1 fuel listed a w (Jy hl).2 (Region.free_spec hi hf) (by simpa using hr) hy hS h
theorem JA {rs:List Nat}{fuel:Nat}{listed:Array Bool}{a:Act}{w:World}(hr:Region.ready md ops listed=rs)(hne:rs≠[])
  (h:∀i∈rs,wpOp P ops Q i (fun a' w'=>(D.contains i=false→S w')∧zc P md ops Q S D fuel (listed.setIfInBounds i true) a' w') a w):zc P md ops Q S D (fuel+1) listed a w:=
 ⟨fun h0=>absurd (hr▸h0) hne,hr▸h⟩
theorem qi {i:Nat}{o:Oper}{fuel:Nat}{listed:Array Bool}{a:Act}{w:World}(hr:Region.ready md ops listed=[i])(ho:ops[i]?=some o)
  (h:∀K':Act→World→Prop,Shut (∀a w,S w→(S w→zc P md ops Q S D fuel (listed.setIfInBounds i true) a w)→K' a w)→if Region.wanted o (yielded ops a.tmps)=true then Oper.wp P o a w K' Q else K' (a.put o.dst undef) w):
  zc P md ops Q S D (fuel+1) listed a w:=by
 refine JA hr (by simp) fun j hj=>?_
 obtain rfl:=List.mem_singleton.1 hj
 exact wpOp_step ho (fun K' hK=>h K' (fun a w hS hW=>hK a w ⟨fun _=>hS,hW hS⟩))
theorem zT {i:Nat}{o:Oper}{fuel:Nat}{listed:Array Bool}{a:Act}{w:World}(hr:Region.ready md ops listed=[i])(ho:ops[i]?=some o)(hd:D.contains i=true)
  (h:∀K':Act→World→Prop,Shut (∀a w,zc P md ops Q S D fuel (listed.setIfInBounds i true) a w→K' a w)→if Region.wanted o (yielded ops a.tmps)=true then Oper.wp P o a w K' Q else K' (a.put o.dst undef) w):
  zc P md ops Q S D (fuel+1) listed a w:=by
 refine JA hr (by simp) fun j hj=>?_
 obtain rfl:=List.mem_singleton.1 hj
 exact wpOp_step ho (fun K' hK=>h K' (fun a w hW=>hK a w ⟨fun hc=>(by rw[hd]at hc;cases hc),hW⟩))
theorem qs {listed:Array Bool}{a:Act}{w:World}(hr:Region.ready md ops listed=[])(h:Q .normal a w):
  ∀fuel,zc P md ops Q S D fuel listed a w
 |0=>⟨hr,h⟩
 |_+1=>⟨fun _=>h,by rw[hr];simp⟩
theorem qm {id:Nat}{a:Act}{w:World}(D:List Nat)(S:World→Prop)(hm:P.follows .mixedOrders=true)(hS:S w.drew)
  (h:S w.drew→zc P .any ops Q S D ops.size (Array.replicate ops.size false) a w.drew):(Code.region id ops true).wp P Q a w:=
 wp_region_any hm (y9 _ _ _ _ (h hS))
end
theorem tkD {P:Program}{ops:Array Oper}{Q:Exit→Act→World→Prop}{md:Region.Mode}{S:World→Prop}{D:List Nat}{i:Nat}{oi:Oper}{v:Value}{fuel:Nat}{listed:Array Bool}{a:Act}{w:World}(hi:ops[i]?=some oi)(hS:S w)(h:zc P md ops Q S D fuel (listed.setIfInBounds i true) (a.put oi.dst v) w)(hy:YieldsIf P ops S oi v a:=by exact .inl ⟨by rfl,by(intro w hSw;(try dsimp only at hSw);go_simp;try (with_reducible rfl))⟩)(hs:Region.noSelect ops=true:=by kernel_rfl)(hf:Region.free md ops listed i=true:=by kernel_rfl)(hr:(Region.ready md ops listed).contains i=true:=by kernel_rfl)(hl:qaf md ops listed D i (qb7 md ops i)=true:=by kernel_rfl)(hQ:∀c a w,Q (.panic c) (a.put oi.dst v) w→Q (.panic c) a w:=by exact fun _ _ _ h=>h):zc P md ops Q S D (fuel+1) listed a w:=qz hi hs hf hr hl hQ hy hS h
end Go.Proofs.YtaglkncdedeipaaGreatDoor
