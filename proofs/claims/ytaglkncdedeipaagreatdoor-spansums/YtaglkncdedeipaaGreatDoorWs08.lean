/-  -/
import Derived.Test.YtaglkncdedeipaaGreatDoorWs07
import Derived.Test.YtaglkncdedeipaaGreatDoorWs02
namespace Go.Proofs.YtaglkncdedeipaaGreatDoor
open Go.ChangeShapes Go.WideShapes Go.ChangeAt Go.RowKit
set_option linter.unusedVariables false
set_option linter.unusedSimpArgs false
set_option maxHeartbeats 16000000
set_option maxRecDepth 100000
theorem qfy (v:Int)(h0:0≤v)(h1:v<9223372036854775808):bits .or .i64 v (-9223372036854775808)=v-9223372036854775808:=by
 have e:(BitVec.ofInt 64 (-9223372036854775808):BitVec 64).toNat=2^63*1:=by decide
 have h:=qs v
 rw[vA,BitVec.toNat_or,e,Nat.or_comm,←Nat.two_pow_add_eq_or_of_lt (by omega),qc]
 omega
theorem qgy (v:Int)(h0:0≤v)(h1:v<2147483648):bits .or .i64 v 2147483648=v+2147483648:=by
 have e:(BitVec.ofInt 64 2147483648:BitVec 64).toNat=2^31*1:=by decide
 have h:=qs v
 rw[vA,BitVec.toNat_or,e,Nat.or_comm,←Nat.two_pow_add_eq_or_of_lt (by omega),qc]
 omega
theorem Zf (p:Bool)(e:Int)(w:World):Calls Tryz.prog 147 #[.bool p,.int .i64 0,.int .i64 e,.int .i64 64] w fun e w'=>e=.returned (.tuple #[.int .i64 (if p=true then -9223372036854775808 else 0),.bool true])∧Kept w w':=by
 obtain⟨q,hq⟩:∃q:Int,(if p=true then -9223372036854775808 else 0)=q:=⟨_,rfl⟩
 have hr:bits .or .i64 0 (-9223372036854775808)=-9223372036854775808:=by decide
 rw[hq]
 have HR:Hid (bits .or .i64 0 (-9223372036854775808)=-9223372036854775808):=hr
 have HQ:Hid ((if p=true then (-9223372036854775808:Int)else 0)=q):=hq
 clear hr hq
 go_enter Tryz.func147,Tryz.ntmps147
 go_wp2_with (first|(go_at_call 129;refine(qL _).mono ?_;rintro e w1 ⟨rfl,hk1⟩)|(go_at_call 167;refine(Qu p 0 _ q HR.out HQ.out _).mono ?_;rintro e w2 ⟨rfl,hk2⟩))
 go_ret2
 exact⟨rfl,(hk1.alloc _ _).trans hk2⟩
theorem Zg (p:Bool)(e:Int)(w:World):Calls Tryz.prog 147 #[.bool p,.int .i64 0,.int .i64 e,.int .i64 32] w fun e w'=>e=.returned (.tuple #[.int .i64 (if p=true then 2147483648 else 0),.bool true])∧Kept w w':=by
 obtain⟨q,hq⟩:∃q:Int,(if p=true then 2147483648 else 0)=q:=⟨_,rfl⟩
 have hr:bits .or .i64 0 2147483648=2147483648:=by decide
 rw[hq]
 have HR:Hid (bits .or .i64 0 2147483648=2147483648):=hr
 have HQ:Hid ((if p=true then (2147483648:Int)else 0)=q):=hq
 clear hr hq
 go_enter Tryz.func147,Tryz.ntmps147
 go_wp2_with (first|(go_at_call 129;refine(qM _).mono ?_;rintro e w1 ⟨rfl,hk1⟩)|(go_at_call 167;refine(Qv p 0 _ q HR.out HQ.out _).mono ?_;rintro e w2 ⟨rfl,hk2⟩))
 go_ret2
 exact⟨rfl,(hk1.alloc _ _).trans hk2⟩
theorem Zh (f x:Nat):Lib.bitLenAux f x≤f:=by
 induction f generalizing x with
 |zero=>simp[Lib.bitLenAux]
 |succ f ih=>
  unfold Lib.bitLenAux
  split
  ·omega
  ·have:=ih (x/2);omega
theorem vR (f x:Nat)(hf:f≤64)(h:x<2^f):Lib.bitLen x≤f:=by
 unfold Lib.bitLen
 rw[Lib.bitLenAux_fuel f x h 64 hf]
 exact Zh f x
theorem jQ (f x:Nat)(hf:f<64)(h1:2^f≤x)(h2:x<2^(f+1)):Lib.bitLen x=f+1:=by
 have hx:x<2^64:=qhu h2 (qhw (by decide) (by omega))
 rw[Lib.bitLen_shift f x h1 hx]
 have:x/2^f=1:=by
  apply Nat.div_eq_of_lt_le
  ·omega
  ·rw[qh5]at h2;omega
 rw[this]
 rfl
theorem yT (m:Nat)(h0:m≠0)(h:m<2^64):Lib.ctz 64 m<64∧m=m/2^Lib.ctz 64 m*2^Lib.ctz 64 m∧m/2^Lib.ctz 64 m%2=1∧Lib.bitLen m=Lib.ctz 64 m+Lib.bitLen (m/2^Lib.ctz 64 m):=by
 have e:Lib.ctz 64 m=Lib.ctzFrom 64 m:=by unfold Lib.ctz;rw[if_neg h0]
 obtain⟨j,hj,hk⟩:=Lib.ctzFrom_spec 64 m (by omega) h
 rw[←e]at hj hk
 generalize Lib.ctz 64 m=k at *
 have hp:0<2^k:=qht _
 have hd:m/2^k=2*j+1:=by
  rw[hj]
  exact Nat.mul_div_cancel_left _ hp
 refine⟨hk,?_,by rw[hd];omega,?_⟩
 ·rw[hd,qh0];exact hj
 ·refine Lib.bitLen_shift _ m ?_ h
  rw[hj]
  exact Nat.le_mul_of_pos_right _ (by omega)
theorem qam (o:Int)(h0:0≤o)(h1:o≤9223372036854775807):IntKind.u64.wrap o=o:=by
 rw[IntKind.wrap_u64];omega
theorem yU (x:Int)(h0:0<x)(h1:x≤9223372036854775807)(w:World)(hT:Tab w):Calls Tryz.prog 168 #[.int .u64 x] w fun e w'=>e=.returned (.int .i64 ((Lib.ctz 64 x.toNat:Nat):Int))∧w=w':=by
 have h:=tz x.toNat (by omega) (by omega) w hT
 rw[Int.toNat_of_nonneg (by omega)]at h
 exact h
theorem Zi (o:Int)(h0:0≤o)(h1:o≤9223372036854775807)(w:World):Calls Tryz.prog 145 #[.int .u64 (IntKind.u64.wrap o)] w fun e w'=>e=.returned (.int .i64 ((Lib.bitLen o.toNat:Nat):Int))∧w=w':=by
 rw[qam o h0 h1]
 exact len o w h0 (by omega)
theorem VP (x:Int)(h0:0<x)(h1:x≤9223372036854775807):∃k:Nat,∃L:Nat,∃o:Int,k=Lib.ctz 64 x.toNat∧L=Lib.bitLen o.toNat∧x/2^k=o∧x=o*2^k∧k<64∧0<o∧o≤9223372036854775807∧Lib.bitLen x.toNat=k+L∧L≤64:=by
 obtain⟨a1,a2,a3,a4⟩:=yT x.toNat (by omega) (by omega)
 obtain⟨k,hk⟩:∃k,k=Lib.ctz 64 x.toNat:=⟨_,rfl⟩
 rw[←hk]at a1 a2 a3 a4
 obtain⟨o,ho⟩:∃o,o=x.toNat/2^k:=⟨_,rfl⟩
 rw[←ho]at a2 a3 a4
 have hx:x=((o*2^k:Nat):Int):=by rw[←a2];omega
 have hp:(0:Nat)<2^k:=qht k
 have hle:o≤o*2^k:=Nat.le_mul_of_pos_right _ hp
 have ho1:o<2^64:=by omega
 refine⟨k,Lib.bitLen o,(o:Int),hk,by simp,?_,?_,a1,by omega,by omega,a4,vR 64 o (by decide) ho1⟩
 ·rw[hx,Int.natCast_mul,Int.natCast_pow]
  exact Int.mul_ediv_cancel _ (Int.ne_of_gt (by exact_mod_cast hp))
 ·rw[hx,Int.natCast_mul,Int.natCast_pow]
  rfl
theorem Jo (p:Bool)(x e:Int)(hx0:0<x)(he:2000<e)(w:World):Calls Tryz.prog 147 #[.bool p,.int .i64 x,.int .i64 e,.int .i64 64] w fun e w'=>e=.returned (.tuple #[.int .i64 0,.bool false])∧Kept w w':=by
 go_enter Tryz.func147,Tryz.ntmps147
 go_wp2_with fail
 refine(qL _).mono ?_
 rintro e w1 ⟨rfl,hk1⟩
 go_wp2
 go_ret2
 exact⟨rfl,(hk1.alloc _ _)⟩
theorem yV (M E:Int)(h0:0<M)(h1:M≤9007199254740992)(hE:-1074≤E)(hk:E=-1074∨4503599627370496≤M):∃k:Nat,∃L:Nat,∃o:Int,∃U:Nat,k=Lib.ctz 64 M.toNat∧L=Lib.bitLen o.toNat∧M/2^k=o∧k<64∧0<o∧o≤9223372036854775807∧L≤64∧min (53-(L:Int)) (E+(k:Int)+1074)=(U:Int)∧U<64∧(0≤E+(k:Int)-(U:Int)+1074)∧(E+(k:Int)-(U:Int)+1074)*4503599627370496+o*2^U=(E+1074)*4503599627370496+M∧0≤o*2^U∧o*2^U<2*4503599627370496∧(E+(k:Int)-(U:Int)+1074+1<2047↔(E+1074)*4503599627370496+M<9218868437227405312):=by
 by_cases ht:M=9007199254740992
 ·subst ht
  refine⟨53,1,1,52,by decide+kernel,by decide+kernel,by decide,by decide,by decide,by decide,by decide,?_,by decide,by omega,?_,by decide,by decide,by omega⟩
  ·omega
  ·have:(1:Int)*2^52=4503599627370496:=by decide
   rw[this];omega
 ·obtain⟨k,L,o,hk',hL,hdiv,hxo,hk64,ho0,ho1,hlen,hL64⟩:=VP M (by omega) (by omega)
  have hU:min (53-(L:Int)) (E+(k:Int)+1074)=(k:Int):=by
   by_cases hs:M<4503599627370496
   ·have:=vR 52 M.toNat (by decide) (by omega)
    omega
   ·have:=jQ 52 M.toNat (by decide) (by omega) (by omega)
    omega
  refine⟨k,L,o,k,hk',hL,hdiv,hk64,ho0,ho1,hL64,hU,hk64,by omega,by rw[←hxo];omega,by rw[←hxo];omega,by rw[←hxo];omega,?_⟩
  omega
theorem YI (p:Bool)(M E R q:Int)(h0:0≤M)(h1:M≤9007199254740992)(hE:-1074≤E)(hk:E=-1074∨4503599627370496≤M)(hR:(E+1074)*4503599627370496+M=R)(hlt:R<9218868437227405312)(hq:(if p=true then R-9223372036854775808 else R)=q)(w:World)(hT:Tab w):Calls Tryz.prog 147 #[.bool p,.int .i64 M,.int .i64 E,.int .i64 64] w fun e w'=>e=.returned (.tuple #[.int .i64 q,.bool true])∧Kept w w':=by
 by_cases hz:M=0
 ·subst hz
  have hR0:R=0:=by omega
  refine(Zf p E w).mono ?_
  rintro e w' ⟨rfl,hk⟩
  refine⟨?_,hk⟩
  rw[←hq,hR0]
  cases p<;>rfl
 ·obtain⟨k,L,o,U,hk',hL,hdiv,hk64,ho0,ho1,hL64,hU,hU64,hs0,hv,hv0,hv2,hiff⟩:=yV M E (by omega) h1 hE hk
  have hs:=hiff.2 (by omega)
  refine Jq p M E k (by omega) (by omega) (by omega) (by omega) hk64 o L ho0 ho1 hL64 hdiv ?_ ?_ U hU hU64 hs hs0 R (R-9223372036854775808) hv0 hv2 (by rw[hv,hR]) (qfy _ (by omega) (by omega)) q hq w hT
  ·intro w hT
   rw[hk']
   exact yU M (by omega) (by omega) w hT
  ·intro w
   rw[hL]
   exact Zi o (by omega) ho1 w
theorem XP (p:Bool)(M E R:Int)(h0:0≤M)(h1:M≤9007199254740992)(hE:-1074≤E)(hk:E=-1074∨4503599627370496≤M)(hR:(E+1074)*4503599627370496+M=R)(hlt:9218868437227405312≤R)(w:World)(hT:Tab w):Calls Tryz.prog 147 #[.bool p,.int .i64 M,.int .i64 E,.int .i64 64] w fun e w'=>e=.returned (.tuple #[.int .i64 0,.bool false])∧Kept w w':=by
 by_cases hf:2000<E
 ·exact Jo p M E (by omega) hf w
 ·obtain⟨k,L,o,U,hk',hL,hdiv,hk64,ho0,ho1,hL64,hU,hU64,hs0,hv,hv0,hv2,hiff⟩:=yV M E (by omega) h1 hE hk
  refine Zj p M E k (by omega) (by omega) (by omega) (by omega) hk64 o L ho0 ho1 hL64 hdiv ?_ ?_ (U:Int) hU (by omega) (by omega) (by omega) w hT
  ·intro w hT
   rw[hk']
   exact yU M (by omega) (by omega) w hT
  ·intro w
   rw[hL]
   exact Zi o (by omega) ho1 w
theorem Jp (p:Bool)(x e:Int)(hx0:0<x)(he:2000<e)(w:World):Calls Tryz.prog 147 #[.bool p,.int .i64 x,.int .i64 e,.int .i64 32] w fun e w'=>e=.returned (.tuple #[.int .i64 0,.bool false])∧Kept w w':=by
 go_enter Tryz.func147,Tryz.ntmps147
 go_wp2_with fail
 refine(qM _).mono ?_
 rintro e w1 ⟨rfl,hk1⟩
 go_wp2
 go_ret2
 exact⟨rfl,(hk1.alloc _ _)⟩
theorem yW (M E:Int)(h0:0<M)(h1:M≤16777216)(hE:-149≤E)(hk:E=-149∨8388608≤M):∃k:Nat,∃L:Nat,∃o:Int,∃U:Nat,k=Lib.ctz 64 M.toNat∧L=Lib.bitLen o.toNat∧M/2^k=o∧k<64∧0<o∧o≤9223372036854775807∧L≤64∧min (24-(L:Int)) (E+(k:Int)+149)=(U:Int)∧U<64∧(0≤E+(k:Int)-(U:Int)+149)∧(E+(k:Int)-(U:Int)+149)*8388608+o*2^U=(E+149)*8388608+M∧0≤o*2^U∧o*2^U<2*8388608∧(E+(k:Int)-(U:Int)+149+1<255↔(E+149)*8388608+M<2139095040):=by
 by_cases ht:M=16777216
 ·subst ht
  refine⟨24,1,1,23,by decide+kernel,by decide+kernel,by decide,by decide,by decide,by decide,by decide,?_,by decide,by omega,?_,by decide,by decide,by omega⟩
  ·omega
  ·have:(1:Int)*2^23=8388608:=by decide
   rw[this];omega
 ·obtain⟨k,L,o,hk',hL,hdiv,hxo,hk64,ho0,ho1,hlen,hL64⟩:=VP M (by omega) (by omega)
  have hU:min (24-(L:Int)) (E+(k:Int)+149)=(k:Int):=by
   by_cases hs:M<8388608
   ·have:=vR 23 M.toNat (by decide) (by omega)
    omega
   ·have:=jQ 23 M.toNat (by decide) (by omega) (by omega)
    omega
  refine⟨k,L,o,k,hk',hL,hdiv,hk64,ho0,ho1,hL64,hU,hk64,by omega,by rw[←hxo];omega,by rw[←hxo];omega,by rw[←hxo];omega,?_⟩
  omega
theorem YJ (p:Bool)(M E R q:Int)(h0:0≤M)(h1:M≤16777216)(hE:-149≤E)(hk:E=-149∨8388608≤M)(hR:(E+149)*8388608+M=R)(hlt:R<2139095040)(hq:(if p=true then R+2147483648 else R)=q)(w:World)(hT:Tab w):Calls Tryz.prog 147 #[.bool p,.int .i64 M,.int .i64 E,.int .i64 32] w fun e w'=>e=.returned (.tuple #[.int .i64 q,.bool true])∧Kept w w':=by
 by_cases hz:M=0
 ·subst hz
  have hR0:R=0:=by omega
  refine(Zg p E w).mono ?_
  rintro e w' ⟨rfl,hk⟩
  refine⟨?_,hk⟩
  rw[←hq,hR0]
  cases p<;>rfl
 ·obtain⟨k,L,o,U,hk',hL,hdiv,hk64,ho0,ho1,hL64,hU,hU64,hs0,hv,hv0,hv2,hiff⟩:=yW M E (by omega) h1 hE hk
  have hs:=hiff.2 (by omega)
  refine Jr p M E k (by omega) (by omega) (by omega) (by omega) hk64 o L ho0 ho1 hL64 hdiv ?_ ?_ U hU hU64 hs hs0 R (R+2147483648) hv0 hv2 (by rw[hv,hR]) (qgy _ (by omega) (by omega)) q hq w hT
  ·intro w hT
   rw[hk']
   exact yU M (by omega) (by omega) w hT
  ·intro w
   rw[hL]
   exact Zi o (by omega) ho1 w
theorem XQ (p:Bool)(M E R:Int)(h0:0≤M)(h1:M≤16777216)(hE:-149≤E)(hk:E=-149∨8388608≤M)(hR:(E+149)*8388608+M=R)(hlt:2139095040≤R)(w:World)(hT:Tab w):Calls Tryz.prog 147 #[.bool p,.int .i64 M,.int .i64 E,.int .i64 32] w fun e w'=>e=.returned (.tuple #[.int .i64 0,.bool false])∧Kept w w':=by
 by_cases hf:2000<E
 ·exact Jp p M E (by omega) hf w
 ·obtain⟨k,L,o,U,hk',hL,hdiv,hk64,ho0,ho1,hL64,hU,hU64,hs0,hv,hv0,hv2,hiff⟩:=yW M E (by omega) h1 hE hk
  refine Zk p M E k (by omega) (by omega) (by omega) (by omega) hk64 o L ho0 ho1 hL64 hdiv ?_ ?_ (U:Int) hU (by omega) (by omega) (by omega) w hT
  ·intro w hT
   rw[hk']
   exact yU M (by omega) (by omega) w hT
  ·intro w
   rw[hL]
   exact Zi o (by omega) ho1 w
theorem YC (x:Nat)(h:x<2^63):Lib.bitLen x=bl x:=by
 by_cases h0:x=0
 ·subst h0;rfl
 ·have h1:=qJ x h0
  have h2:=qY x 63 h
  obtain⟨m,hm⟩:∃m,bl x=m+1:=⟨bl x-1,by omega⟩
  rw[hm]at h1 ⊢
  exact jQ m x (by omega) (by simpa using h1.1) h1.2.1
def Cn (L:List Int):Prop:=Dg L∧(L≠[]→L.getD (L.length-1) 0≠0)
theorem Cn.digs (n:Nat):Cn (digs n):=⟨qK n,fun h=>jE n (fun h0=>h (by rw[h0,qC]))⟩
theorem XI (v n:Nat)(hd:v/2^n≠0):bl v=n+bl (v/2^n):=by
 have h6:=qJ _ hd
 obtain⟨d,hv⟩:∃d,v/2^n=d:=⟨_,rfl⟩
 rw[hv]at h6 ⊢
 obtain⟨m,hm⟩:∃m,bl d=m+1:=⟨bl d-1,by have:=h6.2.2;omega⟩
 rw[hm]at h6 ⊢
 rw[Nat.add_sub_cancel]at h6
 rw[←Nat.add_assoc]
 apply Qx
 ·rw[qhv,qh0]
  exact(Nat.le_div_iff_mul_le (qht _)).1 (by rw[hv];exact h6.1)
 ·rw[show n+m+1=(m+1)+n by omega,qhv]
  exact(Nat.div_lt_iff_lt_mul (qht _)).1 (by rw[hv];exact h6.2.1)
theorem Jj (L:List Int)(hL:Dg L)(n:Nat)(hn:L.length=n+1)(hl:L.getD n 0≠0):((n:Int)+1-1)*30+((bl (L.getD n 0).toNat:Nat):Int)=((bl (nv L):Nat):Int):=by
 have h1:=zg L hL n
 have h2:=zp L hL
 have h4:=hL.getD n
 rw[hn,vB]at h2
 have h5:nv L/2^(30*n)<1073741824:=by
  rw[Nat.div_lt_iff_lt_mul (qht _)];exact h2
 rw[Nat.mod_eq_of_lt h5]at h1
 have h6:nv L/2^(30*n)≠0:=by rw[←h1];omega
 have h7:=XI _ _ h6
 rw[←h1]at h7
 rw[h7]
 clear h1 h2 h5 h6 h7
 omega
theorem length_nil (ao:Option Addr)(cap:Nat)(w:World):Calls Tryz.prog 140 #[.slice ao 0 cap] w fun e w'=>e=.returned (.int .i64 0)∧w=w':=by
 go_enter Tryz.func140,Tryz.ntmps140
 go_wp2
 go_ret
 exact⟨rfl,rfl⟩
theorem Jk (n b off cap:Nat)(hn:n<100000000)(d:Int)(h0:0≤d)(h1:d<1073741824)(r:Nat)(hr:((n:Int)+1-1)*30+((bl d.toNat:Nat):Int)=(r:Int))(w:World)(hc:w.cell? ⟨b,off+n,none⟩=some (.int .i64 d)):Calls Tryz.prog 140 #[.slice (some ⟨b,off,none⟩) (n+1) cap] w fun e w'=>e=.returned (.int .i64 (r:Int))∧w=w':=by
 have K:Hid (∀w:World,Calls Tryz.prog 145 #[.int .u64 d] w fun e w'=>e=.returned (.int .i64 ((bl d.toNat:Nat):Int))∧w=w'):=by
  intro w
  have:=len d w h0 (by omega)
  rw[YC _ (by omega)]at this
  exact this
 have hb:bl d.toNat≤30:=qY _ _ (by omega)
 generalize bl d.toNat=k at *
 have e1:IntKind.u64.wrap d=d:=by rw[IntKind.wrap_u64];omega
 go_enter Tryz.func140,Tryz.ntmps140
 go_wp2_with (first|(go_at_call 145;refine(K.out _).mono ?_;rintro e w1 ⟨rfl,rfl⟩))
 go_ret
 rw[←show(n:Int)*30+(k:Int)=(r:Int) by omega]
 exact⟨rfl,rfl⟩
theorem zJ (L:List Int)(hL:Cn L)(hlen:L.length<100000000)(v:Value)(w:World)(h:Sl w v L):Calls Tryz.prog 140 #[v] w fun e w'=>e=.returned (.int .i64 ((bl (nv L):Nat):Int))∧w=w':=by
 obtain⟨ao,cap,rfl,hc,hm,hr⟩:=h
 by_cases hne:L=[]
 ·subst hne;exact length_nil ao cap w
 ·obtain⟨b,off,rfl,hb,hr⟩:=hr hne
  have hpos:=List.length_pos_iff.2 hne
  obtain⟨n,hn⟩:∃n,L.length=n+1:=⟨L.length-1,by omega⟩
  have hd:=hL.1.getD n
  have hcell:=hr n (by omega)
  have hl:=hL.2 hne
  rw[hn,Nat.add_sub_cancel]at hl
  have hm:=Jj L hL.1 n hn hl
  rw[hn]
  exact Jk n b off cap (by omega) _ hd.1 hd.2 _ hm w hcell
theorem qah (X:Nat)(h:X<2^64):X&&& (2^64-2^30)=X/2^30*2^30:=by
 apply Nat.eq_of_testBit_eq
 intro j
 have f:(2^64-2^30:Nat)=2^30*(2^34-1)+0:=by decide
 have g:X/2^30*2^30=2^30*(X/2^30)+0:=by omega
 rw[Nat.testBit_and,f,g,Nat.testBit_two_pow_mul_add _ (by decide),Nat.testBit_two_pow_mul_add _ (by decide)]
 by_cases hj:j<30
 ·simp[hj]
 ·rw[if_neg hj,if_neg hj,Nat.testBit_two_pow_sub_one,Nat.testBit_div_two_pow]
  by_cases hk:j<64
  ·rw[show j-30+30=j by omega];simp;omega
  ·rw[show j-30+30=j by omega,Nat.testBit_lt_two_pow (i:=j) (x:=X) (qhu h (qhw (by decide) (by omega)))]
   simp
theorem qai (d:Int)(h1:-9223372036854775808≤d)(h2:d≤9223372036854775807):bits .andNot .i64 d 1073741823=d/1073741824*1073741824:=by
 have e:(~~~ BitVec.ofInt 64 1073741823:BitVec 64).toNat=2^64-2^30:=by decide
 have h:=qs d
 rw[xf,BitVec.toNat_and,e,qah _ (BitVec.isLt _),qc]
 omega
def Rg (L:List Int):Prop:=∀d∈L,-9223372036854775808≤d∧d≤9223372036854775807
theorem Rg.getD {L:List Int}(h:Rg L)(i:Nat):-9223372036854775808≤L.getD i 0∧L.getD i 0≤9223372036854775807:=by
 by_cases hi:i<L.length
 ·rw[qhx,List.getElem?_eq_getElem hi]
  exact h _ (List.getElem_mem hi)
 ·rw[qhx,List.getElem?_eq_none (by omega)]
  simp
theorem Dg.rg {L:List Int}(h:Dg L):Rg L:=fun d hd=>by have:=h d hd;omega
def dgb (L:List Int):Bool:=L.all fun d=>decide (0≤d∧d<1073741824)
theorem xB (L:List Int):dgb L=true↔Dg L:=by simp[dgb,Dg]
theorem qaj (L:List Int)(h:∀j,j<L.length→0≤L.getD j 0∧L.getD j 0<1073741824):dgb L=true:=(xB L).2 (Dg.of_getD h)
theorem YD (L:List Int)(j:Nat)(hj:j<L.length)(h:¬(0≤L.getD j 0∧L.getD j 0<1073741824)):dgb L=false:=by
 cases hb:dgb L
 ·rfl
 ·exact absurd (((xB L).1 hb).getD j) h
theorem yO (L:List Int)(hR:Rg L)(b off cap:Nat)(w:World)(hlen:L.length<100000000)(hr:Reads w b off L):Calls Tryz.prog 176 #[.slice (some ⟨b,off,none⟩) L.length cap] w fun e w'=>e=.returned (.bool (dgb L))∧w=w':=by
 obtain⟨n,hn⟩:∃n,n=L.length:=⟨_,rfl⟩
 have HN:Hid (n=L.length):=hn
 have HR:Hid (Reads w b off L):=hr
 rw[←hn]at hlen ⊢
 clear hr hn
 go_enter Tryz.func176,Tryz.ntmps176
 go_wp2
 go_loop [6] (fun i=>∃k:Nat,k≤n∧i=.int .i64 k∧∀j,j<k→0≤L.getD j 0∧L.getD j 0<1073741824) (fun i=>n-(intOf i).toNat)
 case atStart=>exact⟨0,Nat.zero_le _,rfl,fun j h=>by omega⟩
 case round=>
  obtain⟨k,hk,rfl,hd⟩:=hrel
  have HD:Hid (∀j,j<k→0≤L.getD j 0∧L.getD j 0<1073741824):=hd
  clear hd
  by_cases hkn:k<n
  ·have hcell:=HR.out k (by rw[←HN.out];exact hkn)
   have hg:=hR.getD k
   have ha:=qai _ hg.1 hg.2
   obtain⟨d,hd⟩:∃d,d=L.getD k 0:=⟨_,rfl⟩
   have HE:Hid (d=L.getD k 0):=hd
   rw[←hd]at hcell hg ha
   clear hd
   by_cases hz:0≤d∧d<1073741824
   ·have hz2:d/1073741824*1073741824=0:=by omega
    rw[hz2]at ha
    go_wp2
    go_round
    case rel=>
     refine⟨k+1,by omega,by go_num,fun j hj=>?_⟩
     by_cases hjk:j=k
     ·subst hjk;rw[←HE.out];exact hz
     ·exact HD.out j (by omega)
    case measure=>simp[intOf];omega
   ·have hz2:(d/1073741824*1073741824 != 0)=true:=by simp;omega
    go_wp2
    go_ret
    refine⟨?_,rfl⟩
    rw[YD L k (by rw[←HN.out];exact hkn) (by rw[←HE.out];exact hz)]
    rfl
  ·go_wp2
   go_ret
   refine⟨?_,rfl⟩
   rw[qaj L (fun j hj=>HD.out j (by have:=HN.out;omega))]
   rfl
def kU (n:Nat)(g:Bool)(d d0 x:Int):Bool:=decide ((n:Int)≤2000)&&g&&(d != 0)&&(bits .and .i64 d0 1==1)&&decide (-1048576≤x)&&decide (x≤1048576)
theorem XJ (neg:Bool)(n b off cap:Nat)(hn:n<100000000)(d d0 x:Int)(g:Bool)(w:World)(hb:b<w.heap.size)(h0:w.cell? ⟨b,off,none⟩=some (.int .i64 d0))(h1:w.cell? ⟨b,off+n,none⟩=some (.int .i64 d))
  (K:Hid (∀w':World,Kept w w'→Calls Tryz.prog 176 #[.slice (some ⟨b,off,none⟩) (n+1) cap] w' fun e w''=>e=.returned (.bool g)∧w'=w'')):
  Calls Tryz.prog 160 #[.agg #[.bool neg,.slice (some ⟨b,off,none⟩) (n+1) cap,.int .i64 x]] w fun e w'=>e=.returned (.bool (kU (n+1) g d d0 x))∧Kept w w':=by
 have hK:=(qia w).alloc #[.bool neg,.slice (some ⟨b,off,none⟩) (n+1) cap,.int .i64 x] 31
 have c0:=(hK.below.cell (p:=⟨b,off,none⟩) hb).trans h0
 have c1:=(hK.below.cell (p:=⟨b,off+n,none⟩) hb).trans h1
 clear h0 h1
 obtain⟨r,hr⟩:∃r,r=kU (n+1) g d d0 x:=⟨_,rfl⟩
 rw[←hr]
 have HR:Hid (r=kU (n+1) g d d0 x):=hr
 clear hr
 go_enter Tryz.func160,Tryz.ntmps160
 go_wp2_with (first|(go_at_call 176;refine(K.out _ hK).mono ?_;rintro e w1 ⟨rfl,rfl⟩))
 all_goals
  go_ret
  refine⟨?_,hK⟩
  rw[HR.out]
  clear HR c0 c1 K hK
  unfold kU
  simp_all
  try omega
theorem YE (neg:Bool)(ao:Option Addr)(cap:Nat)(x:Int)(w:World):Calls Tryz.prog 160 #[.agg #[.bool neg,.slice ao 0 cap,.int .i64 x]] w fun e w'=>e=.returned (.bool (!neg&&x==0))∧Kept w w':=by
 cases neg
 all_goals
  go_enter Tryz.func160,Tryz.ntmps160
  go_wp2
  go_ret
  exact⟨by simp,(qia _).alloc _ _⟩
structure Nm where
 neg:Bool
 mag:List Int
 exp:Int
def vld (x:Nm):Bool:=if x.mag=[]then (!x.neg&&x.exp==0)else kU x.mag.length (dgb x.mag) (x.mag.getD (x.mag.length-1) 0) (x.mag.getD 0 0) x.exp
def NumAt (w:World)(v:Value)(x:Nm):Prop:=∃s,v=.agg #[.bool x.neg,s,.int .i64 x.exp]∧Sl w s x.mag
theorem NumAt.kept {w w':World}{v:Value}{x:Nm}(h:NumAt w v x)(k:Kept w w'):NumAt w' v x:=by
 obtain⟨s,e,hs⟩:=h
 exact⟨s,e,hs.kept k⟩
theorem xT (x:Nm)(hR:Rg x.mag)(hlen:x.mag.length<100000000)(v:Value)(w:World)(h:NumAt w v x):Calls Tryz.prog 160 #[v] w fun e w'=>e=.returned (.bool (vld x))∧Kept w w':=by
 obtain⟨neg,L,ex⟩:=x
 dsimp only at hR hlen
 obtain⟨s,rfl,ao,cap,rfl,hc,hm,hr⟩:=h
 dsimp only at hc hr
 unfold vld
 by_cases hne:L=[]
 ·subst hne;exact YE neg ao cap ex w
 ·obtain⟨b,off,rfl,hb,hr⟩:=hr hne
  have hpos:=List.length_pos_iff.2 hne
  simp only[hne,if_false]
  have K:Hid (∀w':World,Kept w w'→Calls Tryz.prog 176 #[.slice (some ⟨b,off,none⟩) L.length cap] w' fun e w''=>e=.returned (.bool (dgb L))∧w'=w''):=fun w' k=>yO L hR b off cap w' hlen (hr.kept hb k)
  have h0:=hr 0 hpos
  have h1:=hr (L.length-1) (by omega)
  obtain⟨n,hn⟩:∃n,L.length=n+1:=⟨L.length-1,by omega⟩
  rw[hn]at K h1 hlen ⊢
  rw[Nat.add_sub_cancel]at h1 ⊢
  exact XJ neg n b off cap (by omega) _ _ ex _ w hb h0 h1 K
end Go.Proofs.YtaglkncdedeipaaGreatDoor
