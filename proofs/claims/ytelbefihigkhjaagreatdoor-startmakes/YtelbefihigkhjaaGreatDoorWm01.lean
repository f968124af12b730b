/-  -/
import Derived.Laws.BitsAllLaws
import Derived.Laws.Entries
namespace Go.Proofs.YtelbefihigkhjaaGreatDoor
set_option maxHeartbeats 16000000
set_option maxRecDepth 100000
theorem qr (x:Int):((BitVec.ofInt 64 x).toNat:Int)=x%18446744073709551616:=by
 rw[BitVec.toNat_ofInt]
 omega
theorem qc (n:Int):IntKind.i64.wrap n=(n+9223372036854775808)%18446744073709551616-9223372036854775808:=by
 simp[IntKind.wrap,IntKind.bits,IntKind.signed]
 omega
theorem kB (i x:Nat)(h:x<2^i):x^^^2^i=x+2^i:=by
 have e:x+2^i=2^i*1+x:=by omega
 rw[e,Nat.two_pow_add_eq_or_of_lt h]
 apply Nat.eq_of_testBit_eq
 intro j
 rw[Nat.testBit_xor,Nat.testBit_or,Nat.mul_one,Nat.testBit_two_pow]
 by_cases hj:i=j
 ·subst hj
  simp[Nat.testBit_lt_two_pow h]
 ·simp[hj]
theorem Xd (i x:Nat)(h:2^i≤x)(h2:x<2^(i+1)):x^^^2^i=x-2^i:=by
 obtain⟨y,rfl⟩:∃y,x=y+2^i:=⟨x-2^i,by omega⟩
 have hy:y<2^i:=by rw[Nat.pow_succ]at h2;omega
 rw[←kB i y hy,Nat.xor_assoc,Nat.xor_self,Nat.xor_zero]
 rw[kB i y hy];omega
theorem jI (x y:Int):bits .andNot .i64 x y=IntKind.i64.wrap ((BitVec.ofInt 64 x&&& ~~~ BitVec.ofInt 64 y).toNat:Int):=rfl
theorem zm (x y:Int):bits .and .i64 x y=IntKind.i64.wrap ((BitVec.ofInt 64 x&&& BitVec.ofInt 64 y).toNat:Int):=rfl
theorem vX (x y:Int):bits .or .i64 x y=IntKind.i64.wrap ((BitVec.ofInt 64 x|||BitVec.ofInt 64 y).toNat:Int):=rfl
theorem Xe (x y:Int):bits .xor .i64 x y=IntKind.i64.wrap ((BitVec.ofInt 64 x^^^BitVec.ofInt 64 y).toNat:Int):=rfl
theorem vG (b:Int):bits .andNot .i64 b (-9223372036854775808)=b%9223372036854775808:=by
 have e:(~~~ BitVec.ofInt 64 (-9223372036854775808):BitVec 64).toNat=2^63-1:=by decide
 have h:=qr b
 rw[jI,BitVec.toNat_and,e,Nat.and_two_pow_sub_one_eq_mod,qc]
 omega
theorem ZX (b:Int)(h1:-9223372036854775808≤b)(h2:b≤9223372036854775807):bits .and .i64 b (-9223372036854775808)=if b<0 then -9223372036854775808 else 0:=by
 have e:(BitVec.ofInt 64 (-9223372036854775808):BitVec 64).toNat=2^63:=by decide
 have h:=qr b
 rw[zm,BitVec.toNat_and,e,nat_bit,qc]
 split<;>omega
theorem qgf (b:Int)(h1:-9223372036854775808≤b)(h2:b≤9223372036854775807):bits .xor .i64 b (-9223372036854775808)=if b<0 then b+9223372036854775808 else b-9223372036854775808:=by
 have e:(BitVec.ofInt 64 (-9223372036854775808):BitVec 64).toNat=2^63:=by decide
 have h:=qr b
 rw[Xe,BitVec.toNat_xor,e,qc]
 by_cases hb:b<0
 ·rw[Xd 63 _ (by omega) (by omega),if_pos hb];omega
 ·rw[kB 63 _ (by omega),if_neg hb];omega
theorem yy (b:Int)(h1:0≤b)(h2:b<4294967296):bits .andNot .i64 b 2147483648=b%2147483648:=by
 have e:(~~~ BitVec.ofInt 64 2147483648:BitVec 64).toNat=2^64-1-2^31:=by decide
 have h:=qr b
 have hx:(BitVec.ofInt 64 b).toNat<2^32:=by omega
 have k:(BitVec.ofInt 64 b).toNat&&& (2^64-1-2^31)=(BitVec.ofInt 64 b).toNat%2^31:=by
  rw[←Nat.and_two_pow_sub_one_eq_mod]
  apply Nat.eq_of_testBit_eq
  intro j
  have f:(2^64-1-2^31:Nat)=2^32*(2^32-1)+(2^31-1):=by decide
  rw[Nat.testBit_and,Nat.testBit_and,f]
  by_cases hj:j<32
  ·rw[Nat.testBit_two_pow_mul_add _ (by decide),if_pos hj]
  ·rw[Nat.testBit_lt_two_pow (i:=j) (x:=(BitVec.ofInt 64 b).toNat) (Nat.lt_of_lt_of_le hx (Nat.pow_le_pow_right (by decide) (by omega)))]
   simp
 rw[jI,BitVec.toNat_and,e,k,qc]
 omega
theorem qc8 (b:Int)(h1:0≤b)(h2:b<4294967296):bits .and .i64 b 2147483648=if b<2147483648 then 0 else 2147483648:=by
 have e:(BitVec.ofInt 64 2147483648:BitVec 64).toNat=2^31:=by decide
 have h:=qr b
 rw[zm,BitVec.toNat_and,e,nat_bit,qc]
 split<;>omega
theorem qi2 (b:Int)(h1:0≤b)(h2:b<4294967296):bits .xor .i64 b 2147483648=if b<2147483648 then b+2147483648 else b-2147483648:=by
 have e:(BitVec.ofInt 64 2147483648:BitVec 64).toNat=2^31:=by decide
 have h:=qr b
 rw[Xe,BitVec.toNat_xor,e,qc]
 by_cases hb:b<2147483648
 ·rw[kB 31 _ (by omega),if_pos hb];omega
 ·rw[Xd 31 _ (by omega) (by omega),if_neg hb];omega
theorem qgg (s:Int):bits .and .i64 s 4503599627370495=s%4503599627370496:=by
 have e:(BitVec.ofInt 64 4503599627370495:BitVec 64).toNat=2^52-1:=by decide
 have h:=qr s
 rw[zm,BitVec.toNat_and,e,Nat.and_two_pow_sub_one_eq_mod,qc]
 omega
theorem qgh (s:Int):bits .and .i64 s 8388607=s%8388608:=by
 have e:(BitVec.ofInt 64 8388607:BitVec 64).toNat=2^23-1:=by decide
 have h:=qr s
 rw[zm,BitVec.toNat_and,e,Nat.and_two_pow_sub_one_eq_mod,qc]
 omega
theorem qkg (m:Int)(h0:0≤m)(h1:m<4503599627370496):bits .or .i64 m 4503599627370496=m+4503599627370496:=by
 have e:(BitVec.ofInt 64 4503599627370496:BitVec 64).toNat=2^52*1:=by decide
 have h:=qr m
 rw[vX,BitVec.toNat_or,e,Nat.or_comm,←Nat.two_pow_add_eq_or_of_lt (by omega),qc]
 omega
theorem qkh (m:Int)(h0:0≤m)(h1:m<8388608):bits .or .i64 m 8388608=m+8388608:=by
 have e:(BitVec.ofInt 64 8388608:BitVec 64).toNat=2^23*1:=by decide
 have h:=qr m
 rw[vX,BitVec.toNat_or,e,Nat.or_comm,←Nat.two_pow_add_eq_or_of_lt (by omega),qc]
 omega
def zn (s inf hid:Int):Int:=if inf<s then 4 else if s=inf then 3 else if s=0 then 0 else if s<hid then 1 else 2
def val (b n:Int):Bool:=decide (n=64∨(n=32∧0≤b∧b<4294967296))
def cls (b n:Int):Int:=
 if n=64 then zn (b%9223372036854775808) 9218868437227405312 4503599627370496
 else if n=32 then (if 0≤b∧b<4294967296 then zn (b%2147483648) 2139095040 8388608 else 4)else 0
def sgn (b n:Int):Bool:=if n=64 then decide (b<0)else decide (2147483648≤b)
def fin (b n:Int):Bool:=decide ((n=64∨n=32)∧cls b n<3)
def qT (b n:Int):Bool:=fin b n&&sgn b n
def qx (b n:Int):Int:=
 if fin b n=true then
  if n=64 then (if b%9223372036854775808<4503599627370496 then b%9223372036854775808 else b%9223372036854775808%4503599627370496+4503599627370496)
  else (if b%2147483648<8388608 then b%2147483648 else b%2147483648%8388608+8388608)
 else 0
def qE (b n:Int):Int:=
 if fin b n=true then
  if n=64 then (if b%9223372036854775808<4503599627370496 then -1074 else b%9223372036854775808/4503599627370496-1075)
  else (if b%2147483648<8388608 then -149 else b%2147483648/8388608-150)
 else 0
def qv (b n:Int):Bool:=decide ((n=64∨n=32)∧cls b n≠4)
def jJ (n:Int):Int:=if n=64 then 9221120237041090561 else if n=32 then 2143289345 else 0
def ngt (b n:Int):Int:=
 if qv b n=true then
  if n=64 then (if b<0 then b+9223372036854775808 else b-9223372036854775808)else (if b<2147483648 then b+2147483648 else b-2147483648)
 else jJ n
def can (b n:Int):Int:=
 if qv b n=true then (if n=64 then (if b=-9223372036854775808 then 0 else b)else (if b=2147483648 then 0 else b))else jJ n
def nxt (b n:Int):Int:=
 if qv b n=true then
  if n=64 then (if b=9218868437227405312 then b else if b=-9223372036854775808 then 1 else if b<0 then b-1 else b+1)
  else (if b=2139095040 then b else if b=2147483648 then 1 else if 2147483648≤b then b-1 else b+1)
 else jJ n
theorem v8 (b n:Int)(h64:n≠64)(h32:n≠32):qv b n=false:=by simp[qv,h64,h32]
theorem ZY (n:Int)(h64:n≠64)(h32:n≠32):jJ n=0:=by simp[jJ,h64,h32]
theorem zd (b:Int)(h:cls b 32≠4):0≤b∧b<4294967296:=by
 unfold cls at h
 rw[if_neg (by decide),if_pos rfl]at h
 split at h
 ·assumption
 ·omega
end Go.Proofs.YtelbefihigkhjaaGreatDoor
namespace Go.Proofs.YtelbefihigkhjaaGreatDoor
set_option maxHeartbeats 16000000
set_option maxRecDepth 100000
def nv:List Int→Nat
 |[]=>0
 |d::l=>d.toNat+1073741824*nv l
def Dg (L:List Int):Prop:=∀d∈L,0≤d∧d<1073741824
def yU:Nat→Nat→List Int
 |0,_=>[]
 |f+1,n=>if n=0 then []else ((n%1073741824:Nat):Int)::yU f (n/1073741824)
def digs (n:Nat):List Int:=yU n n
theorem qc9:∀(f g n:Nat),n≤f→n≤g→yU f n=yU g n:=by
 intro f
 induction f with
 |zero=>
  intro g n hf hg
  obtain rfl:n=0:=by omega
  cases g with
  |zero=>rfl
  |succ g=>simp[yU]
 | succ f ih=>
  intro g n hf hg
  cases g with
  |zero=>
   obtain rfl:n=0:=by omega
   simp[yU]
  |succ g=>
   unfold yU
   by_cases h:n=0
   ·rw[if_pos h,if_pos h]
   ·rw[if_neg h,if_neg h,ih g _ (by omega) (by omega)]
theorem Dg.nil:Dg []:=by intro d h;simp at h
theorem Dg.head {d:Int}{L:List Int}(h:Dg (d::L)):0≤d∧d<1073741824:=h d (by simp)
theorem Dg.tail {d:Int}{L:List Int}(h:Dg (d::L)):Dg L:=fun x hx=>h x (by simp[hx])
theorem Dg.cons {d:Int}{L:List Int}(h0:0≤d)(h1:d<1073741824)(h:Dg L):Dg (d::L):=by
 intro x hx
 rcases List.mem_cons.1 hx with rfl|hx
 ·exact⟨h0,h1⟩
 ·exact h x hx
theorem Dg.getD {L:List Int}(h:Dg L)(i:Nat):0≤L.getD i 0∧L.getD i 0<1073741824:=by
 by_cases hi:i<L.length
 ·rw[List.getD_eq_getElem?_getD,List.getElem?_eq_getElem hi]
  exact h _ (List.getElem_mem hi)
 ·rw[List.getD_eq_getElem?_getD,List.getElem?_eq_none (by omega)]
  simp
theorem Dg.of_getD {L:List Int}(h:∀i,i<L.length→0≤L.getD i 0∧L.getD i 0<1073741824):Dg L:=by
 intro d hd
 obtain⟨i,hi,rfl⟩:=List.getElem_of_mem hd
 have:=h i hi
 rw[List.getD_eq_getElem?_getD,List.getElem?_eq_getElem hi]at this
 exact this
theorem qA:digs 0=[]:=rfl
theorem jf (n:Nat)(h:n≠0):digs n=((n%1073741824:Nat):Int)::digs (n/1073741824):=by
 obtain⟨m,rfl⟩:∃m,n=m+1:=⟨n-1,by omega⟩
 unfold digs
 conv=>lhs;unfold yU
 rw[if_neg h,qc9 m ((m+1)/1073741824) _ (by omega) (Nat.le_refl _)]
theorem qC (n:Nat):nv (digs n)=n:=by
 induction n using Nat.strongRecOn with
 |ind n ih=>
  by_cases h:n=0
  ·subst h;rw[qA];rfl
  ·rw[jf n h,nv,ih _ (by omega)];omega
theorem qL (n:Nat):Dg (digs n):=by
 induction n using Nat.strongRecOn with
 |ind n ih=>
  by_cases h:n=0
  ·subst h;rw[qA];exact Dg.nil
  ·rw[jf n h];exact Dg.cons (by omega) (by omega) (ih _ (by omega))
theorem v9 (i:Nat):2^(30*(i+1))=1073741824*2^(30*i):=by
 rw[Nat.mul_add,Nat.mul_one,Nat.pow_add,Nat.mul_comm]
theorem qV (L:List Int)(h:Dg L):nv L<2^(30*L.length):=by
 induction L with
 |nil=>simp[nv]
 |cons d L ih=>
  have:=ih h.tail
  have:=h.head
  rw[List.length_cons,v9,nv]
  omega
theorem zI (L:List Int)(h:Dg L)(i:Nat):(L.getD i 0).toNat=nv L/2^(30*i)%1073741824:=by
 induction L generalizing i with
 |nil=>simp[nv]
 | cons d L ih=>
  have hd:=h.head
  cases i with
  |zero=>simp[nv];omega
  |succ i=>
   rw[List.getD_cons_succ,ih h.tail,nv,v9,←Nat.div_div_eq_div_mul]
   congr 2
   omega
theorem qda (L M:List Int)(hL:Dg L)(hM:Dg M)(hl:L.length=M.length)(h:nv L=nv M):L=M:=by
 induction L generalizing M with
 |nil=>cases M with
  |nil=>rfl
  |cons=>simp at hl
 | cons d L ih=>cases M with
  |nil=>simp at hl
  |cons e M=>
   have h1:=hL.head
   have h2:=hM.head
   simp only[nv]at h
   have:nv L=nv M:=by omega
   rw[ih M hL.tail hM.tail (by simpa using hl) this]
   congr 1
   omega
theorem yz (L M:List Int):nv (L++M)=nv L+2^(30*L.length)*nv M:=by
 induction L with
 |nil=>simp[nv]
 |cons d L ih=>
  simp only[List.cons_append,nv,ih,List.length_cons,v9]
  rw[Nat.mul_add,Nat.add_assoc,Nat.mul_assoc]
theorem zO (L:List Int)(h:Dg L):nv L=0↔∀i,L.getD i 0=0:=by
 constructor
 ·intro h0 i
  have h1:=zI L h i
  have h2:=h.getD i
  rw[h0,Nat.zero_div]at h1
  omega
 ·intro hz
  induction L with
  |nil=>rfl
  |cons d L ih=>
   have h0:=hz 0
   simp at h0
   rw[nv,ih h.tail (fun i=>by have:=hz (i+1);simpa using this),h0]
   rfl
theorem qdb (L:List Int)(h:Dg L)(hl:L.getD (L.length-1) 0≠0):2^(30*(L.length-1))≤nv L:=by
 have h1:=zI L h (L.length-1)
 have h2:=h.getD (L.length-1)
 have h3:nv L/2^(30*(L.length-1))≠0:=by
  intro hz;rw[hz]at h1;omega
 by_cases hlt:nv L<2^(30*(L.length-1))
 ·exact absurd (Nat.div_eq_of_lt hlt) h3
 ·omega
theorem ql (n k:Nat)(h:n<2^(30*k)):(digs n).length≤k:=by
 induction k generalizing n with
 |zero=>simp at h;subst h;rw[qA];simp
 | succ k ih=>
  by_cases h0:n=0
  ·subst h0;rw[qA];simp
  ·rw[jf n h0,List.length_cons]
   rw[v9]at h
   have:=ih (n/1073741824) (by omega)
   omega
theorem zQ (n k:Nat)(h:2^(30*k)≤n):k<(digs n).length:=by
 induction k generalizing n with
 |zero=>simp at h;rw[jf n (by omega)];simp
 |succ k ih=>
  rw[v9]at h
  have hp:0<2^(30*k):=Nat.two_pow_pos _
  rw[jf n (by omega),List.length_cons]
  have:=ih (n/1073741824) (by omega)
  omega
theorem jO (n:Nat)(h:n≠0):(digs n).getD ((digs n).length-1) 0≠0:=by
 induction n using Nat.strongRecOn with
 | ind n ih=>
  rw[jf n h,List.length_cons,Nat.add_sub_cancel]
  by_cases h0:n/1073741824=0
  ·rw[h0,qA];simp;omega
  ·have:=ih _ (by omega) h0
   have hpos:0<(digs (n/1073741824)).length:=zQ _ 0 (by simp;omega)
   obtain⟨m,hm⟩:∃m,(digs (n/1073741824)).length=m+1:=⟨_,(Nat.sub_add_cancel hpos).symm⟩
   rw[hm]at this ⊢
   rw[List.getD_cons_succ]
   exact this
theorem kC (L:List Int)(h:Dg L)(hl:L=[]∨L.getD (L.length-1) 0≠0):digs (nv L)=L:=by
 rcases hl with rfl|hl
 ·exact qA
 ·by_cases hn:L=[]
  ·subst hn;exact qA
  ·refine qda _ _ (qL _) h ?_ (qC _)
   have h1:=ql _ _ (qV L h)
   have h2:=zQ _ _ (qdb L h hl)
   have:0<L.length:=List.length_pos_iff.2 hn
   omega
def bl (n:Nat):Nat:=if n=0 then 0 else n.log2+1
theorem Zi (n m:Nat)(h1:2^m≤n)(h2:n<2^(m+1)):bl n=m+1:=by
 have hn:n≠0:=by have:=Nat.two_pow_pos m;omega
 rw[bl,if_neg hn,(Nat.log2_eq_iff hn).2 ⟨h1,h2⟩]
theorem xd:bl 0=0:=rfl
theorem qu (n:Nat)(h:n≠0):2^(bl n-1)≤n∧n<2^bl n∧0<bl n:=by
 rw[bl,if_neg h]
 exact⟨by rw[Nat.add_sub_cancel];exact Nat.log2_self_le h,Nat.lt_log2_self,by omega⟩
theorem Ql (n:Nat):n<2^bl n:=by
 by_cases h:n=0
 ·subst h;exact Nat.two_pow_pos _
 ·exact(qu n h).2.1
theorem qN (n m:Nat)(h:n<2^m):bl n≤m:=by
 by_cases h0:n=0
 ·subst h0;rw[xd];omega
 ·have h1:=qu n h0
  have:=(Nat.pow_lt_pow_iff_right (a:=2) (by decide)).1 (Nat.lt_of_le_of_lt h1.1 h)
  omega
theorem qdc (n m:Nat)(h:2^m≤n):m<bl n:=by
 have:=Ql n
 exact(Nat.pow_lt_pow_iff_right (a:=2) (by decide)).1 (Nat.lt_of_le_of_lt h this)
theorem xC (n k:Nat)(h:n≠0):bl (n*2^k)=bl n+k:=by
 have h1:=qu n h
 have hp:=Nat.two_pow_pos k
 have e:bl n-1+k+1=bl n+k:=by omega
 rw[←e]
 apply Zi
 ·rw[Nat.pow_add];exact Nat.mul_le_mul_right _ h1.1
 ·rw[show bl n-1+k+1=bl n+k by omega,Nat.pow_add]
  exact Nat.mul_lt_mul_of_lt_of_le h1.2.1 (Nat.le_refl _) hp
def ZZ:Nat→Nat→Nat
 |0,_=>0
 |f+1,n=>if n=0 then 0 else if n%2=1 then 0 else 1+ZZ f (n/2)
def tzn (n:Nat):Nat:=ZZ n n
theorem qgi:∀(f g n:Nat),n≤f→n≤g→ZZ f n=ZZ g n:=by
 intro f
 induction f with
 |zero=>
  intro g n hf hg
  obtain rfl:n=0:=by omega
  cases g with
  |zero=>rfl
  |succ g=>simp[ZZ]
 | succ f ih=>
  intro g n hf hg
  cases g with
  |zero=>
   obtain rfl:n=0:=by omega
   simp[ZZ]
  |succ g=>
   unfold ZZ
   by_cases h:n=0
   ·rw[if_pos h,if_pos h]
   ·rw[if_neg h,if_neg h,ih g _ (by omega) (by omega)]
theorem ya (n:Nat)(h:n%2=1):tzn n=0:=by
 obtain⟨m,rfl⟩:∃m,n=m+1:=⟨n-1,by omega⟩
 unfold tzn ZZ
 rw[if_neg (by omega),if_pos h]
theorem Xf (n:Nat)(h0:n≠0)(h:n%2=0):tzn n=1+tzn (n/2):=by
 obtain⟨m,rfl⟩:∃m,n=m+1:=⟨n-1,by omega⟩
 unfold tzn
 conv=>lhs;unfold ZZ
 rw[if_neg h0,if_neg (by omega),qgi m ((m+1)/2) _ (by omega) (Nat.le_refl _)]
theorem vd (o k:Nat)(h:o%2=1):tzn (o*2^k)=k:=by
 induction k with
 |zero=>simp[ya o h]
 |succ k ih=>
  have hp:=Nat.two_pow_pos k
  have e:o*2^(k+1)=2*(o*2^k):=by rw[Nat.pow_succ,←Nat.mul_assoc,Nat.mul_comm]
  have h1:0<o*2^k:=Nat.mul_pos (by omega) hp
  rw[e,Xf _ (by omega) (by omega),show 2*(o*2^k)/2=o*2^k by omega,ih]
  omega
theorem zR (n:Nat)(h:n≠0):∃o,o%2=1∧n=o*2^tzn n:=by
 induction n using Nat.strongRecOn with
 | ind n ih=>
  by_cases h1:n%2=1
  ·exact⟨n,h1,by rw[ya n h1];simp⟩
  ·obtain⟨o,ho,e⟩:=ih (n/2) (by omega) (by omega)
   refine⟨o,ho,?_⟩
   rw[Xf n h (by omega),Nat.add_comm,Nat.pow_succ,←Nat.mul_assoc,←e]
   omega
theorem ve (n:Nat)(h:n≠0):n/2^tzn n%2=1∧n=n/2^tzn n*2^tzn n:=by
 obtain⟨o,ho,e⟩:=zR n h
 have hp:=Nat.two_pow_pos (tzn n)
 have:n/2^tzn n=o:=by
  conv=>lhs;rw[e]
  rw[show tzn (o*2^tzn n)=tzn n from vd o _ ho]
  exact Nat.mul_div_cancel _ hp
 rw[this]
 exact⟨ho,e⟩
theorem Zj (v s:Nat)(hs:s<30)(i:Nat):(v/2^(30*i)%1073741824/2^s+v/2^(30*(i+1))%1073741824*2^(30-s))%1073741824=v/2^(30*i+s)%1073741824:=by
 rw[Nat.pow_add,v9,Nat.mul_comm 1073741824,←Nat.div_div_eq_div_mul,←Nat.div_div_eq_div_mul]
 generalize v/2^(30*i)=u
 obtain⟨p,q,hp,hq,e⟩:∃p q:Nat,2^s=p∧2^(30-s)=q∧p*q=1073741824:=⟨_,_,rfl,rfl,by rw[←Nat.pow_add,show s+(30-s)=30 by omega]⟩
 rw[hp,hq,←e]
 have hp0:0<p:=by rw[←hp];exact Nat.two_pow_pos _
 have hq0:0<q:=by rw[←hq];exact Nat.two_pow_pos _
 rw[Nat.mod_mul_right_div_self,←Nat.div_div_eq_div_mul]
 generalize u/p=a
 have e1:∀x y n:Nat,(x+y%n*q)%n=(x+y*q)%n:=by
  intro x y n
  rw[Nat.add_mod,Nat.mul_mod (y%n),Nat.mod_mod,←Nat.mul_mod,←Nat.add_mod]
 rw[e1]
 congr 1
 have:=Nat.div_add_mod a q
 rw[Nat.mul_comm q]at this
 omega
def pcz (v:Nat)(p:Int):Int:=if 0≤p then ((v/2^p.toNat%1073741824:Nat):Int)else ((v*2^(-p).toNat%1073741824:Nat):Int)
theorem vH (s:Int):bits .and .i64 s 1073741823=s%1073741824:=by
 have e:(BitVec.ofInt 64 1073741823:BitVec 64).toNat=2^30-1:=by decide
 have h:=qr s
 rw[zm,BitVec.toNat_and,e,Nat.and_two_pow_sub_one_eq_mod,qc]
 omega
theorem VA (x y k:Nat)(h:x<2^k)(hb:x+y*2^k<9223372036854775808):bits .or .i64 (x:Int) ((y*2^k:Nat):Int)=((x+y*2^k:Nat):Int):=by
 rw[vX,BitVec.toNat_or]
 have h1:=qr (x:Int)
 have h2:=qr ((y*2^k:Nat):Int)
 have e1:(BitVec.ofInt 64 (x:Int)).toNat=x:=by omega
 have e2:(BitVec.ofInt 64 ((y*2^k:Nat):Int)).toNat=y*2^k:=by omega
 rw[e1,e2,Nat.or_comm,Nat.mul_comm,←Nat.two_pow_add_eq_or_of_lt h,qc,Nat.mul_comm (2^k) y]
 generalize y*2^k=z at *
 omega
abbrev qle:=@Nat.two_pow_pos
abbrev qlf:=@Nat.lt_of_lt_of_le
abbrev qlg:=@Nat.pow_add
abbrev qlh:=@Nat.pow_le_pow_right
abbrev qli:=@List.getD_eq_getElem?_getD
abbrev qlj:=@Nat.le_refl
abbrev qlk:=@Nat.mul_assoc
abbrev qll:=@Nat.mul_comm
abbrev qlm:=@decide_eq_true_eq
abbrev qln:=@decide_eq_true
abbrev qlo:=@decide_eq_false
abbrev qlp:=@Nat.le_trans
abbrev qlq:=@Nat.pow_succ
end Go.Proofs.YtelbefihigkhjaaGreatDoor
