/-  -/
import Derived.Test.YtnniljhdcplkgaaGreatDoorWs03
namespace Go.Proofs.YtnniljhdcplkgaaGreatDoor
open Go.ChangeShapes Go.WideShapes Go.ChangeAt Go.RowKit
set_option maxHeartbeats 16000000
set_option maxRecDepth 100000
set_option linter.unusedVariables false
theorem or_min (v:Int)(h0:0≤v)(h1:v<9223372036854775808):bits .or .i64 v (-9223372036854775808)=v-9223372036854775808:=by
 have e:(BitVec.ofInt 64 (-9223372036854775808):BitVec 64).toNat=2^63*1:=by decide
 have h:=ofInt_toNat v
 rw[bits_or,BitVec.toNat_or,e,Nat.or_comm,←Nat.two_pow_add_eq_or_of_lt (by omega),wrap_i64]
 omega
theorem or_31 (v:Int)(h0:0≤v)(h1:v<2147483648):bits .or .i64 v 2147483648=v+2147483648:=by
 have e:(BitVec.ofInt 64 2147483648:BitVec 64).toNat=2^31*1:=by decide
 have h:=ofInt_toNat v
 rw[bits_or,BitVec.toNat_or,e,Nat.or_comm,←Nat.two_pow_add_eq_or_of_lt (by omega),wrap_i64]
 omega
theorem join_zero_64 (p:Bool)(e:Int)(w:World):Calls Tryz.prog 127 #[.bool p,.int .i64 0,.int .i64 e,.int .i64 64] w fun e w'=>e=.returned (.tuple #[.int .i64 (if p=true then -9223372036854775808 else 0),.bool true])∧Kept w w':=by
 obtain⟨q,hq⟩:∃q:Int,(if p=true then -9223372036854775808 else 0)=q:=⟨_,rfl⟩
 have hr:bits .or .i64 0 (-9223372036854775808)=-9223372036854775808:=by decide
 rw[hq]
 have HR:Hid (bits .or .i64 0 (-9223372036854775808)=-9223372036854775808):=hr
 have HQ:Hid ((if p=true then (-9223372036854775808:Int)else 0)=q):=hq
 clear hr hq
 go_enter Tryz.func127,Tryz.ntmps127
 go_wp2_with (first|(go_at_call 24;refine(layoutOf_64 _).mono ?_;rintro e w1 ⟨rfl,hk1⟩)|(go_at_call 149;refine(signed_64 p 0 _ q HR.out HQ.out _).mono ?_;rintro e w2 ⟨rfl,hk2⟩))
 go_ret2
 exact⟨rfl,(hk1.alloc _ _).trans hk2⟩
theorem join_zero_32 (p:Bool)(e:Int)(w:World):Calls Tryz.prog 127 #[.bool p,.int .i64 0,.int .i64 e,.int .i64 32] w fun e w'=>e=.returned (.tuple #[.int .i64 (if p=true then 2147483648 else 0),.bool true])∧Kept w w':=by
 obtain⟨q,hq⟩:∃q:Int,(if p=true then 2147483648 else 0)=q:=⟨_,rfl⟩
 have hr:bits .or .i64 0 2147483648=2147483648:=by decide
 rw[hq]
 have HR:Hid (bits .or .i64 0 2147483648=2147483648):=hr
 have HQ:Hid ((if p=true then (2147483648:Int)else 0)=q):=hq
 clear hr hq
 go_enter Tryz.func127,Tryz.ntmps127
 go_wp2_with (first|(go_at_call 24;refine(layoutOf_32 _).mono ?_;rintro e w1 ⟨rfl,hk1⟩)|(go_at_call 149;refine(signed_32 p 0 _ q HR.out HQ.out _).mono ?_;rintro e w2 ⟨rfl,hk2⟩))
 go_ret2
 exact⟨rfl,(hk1.alloc _ _).trans hk2⟩
theorem bitLenAux_le (f x:Nat):Lib.bitLenAux f x≤f:=by
 induction f generalizing x with
 |zero=>simp[Lib.bitLenAux]
 |succ f ih=>
  unfold Lib.bitLenAux
  split
  ·omega
  ·have:=ih (x/2);omega
theorem bitLen_le (f x:Nat)(hf:f≤64)(h:x<2^f):Lib.bitLen x≤f:=by
 unfold Lib.bitLen
 rw[Lib.bitLenAux_fuel f x h 64 hf]
 exact bitLenAux_le f x
theorem bitLen_top (f x:Nat)(hf:f<64)(h1:2^f≤x)(h2:x<2^(f+1)):Lib.bitLen x=f+1:=by
 have hx:x<2^64:=Nat.lt_of_lt_of_le h2 (Nat.pow_le_pow_right (by decide) (by omega))
 rw[Lib.bitLen_shift f x h1 hx]
 have:x/2^f=1:=by
  apply Nat.div_eq_of_lt_le
  ·omega
  ·rw[Nat.pow_succ]at h2;omega
 rw[this]
 rfl
theorem odd_part (m:Nat)(h0:m≠0)(h:m<2^64):Lib.ctz 64 m<64∧m=m/2^Lib.ctz 64 m*2^Lib.ctz 64 m∧m/2^Lib.ctz 64 m%2=1∧Lib.bitLen m=Lib.ctz 64 m+Lib.bitLen (m/2^Lib.ctz 64 m):=by
 have e:Lib.ctz 64 m=Lib.ctzFrom 64 m:=by unfold Lib.ctz;rw[if_neg h0]
 obtain⟨j,hj,hk⟩:=Lib.ctzFrom_spec 64 m (by omega) h
 rw[←e]at hj hk
 generalize Lib.ctz 64 m=k at *
 have hp:0<2^k:=Nat.two_pow_pos _
 have hd:m/2^k=2*j+1:=by
  rw[hj]
  exact Nat.mul_div_cancel_left _ hp
 refine⟨hk,?_,by rw[hd];omega,?_⟩
 ·rw[hd,Nat.mul_comm];exact hj
 ·refine Lib.bitLen_shift _ m ?_ h
  rw[hj]
  exact Nat.le_mul_of_pos_right _ (by omega)
end Go.Proofs.YtnniljhdcplkgaaGreatDoor
namespace Go.Proofs.YtnniljhdcplkgaaGreatDoor
open Go.ChangeShapes Go.WideShapes Go.ChangeAt Go.RowKit
set_option maxHeartbeats 16000000
set_option maxRecDepth 100000
set_option linter.unusedVariables false
theorem u64_id (o:Int)(h0:0≤o)(h1:o≤9223372036854775807):IntKind.u64.wrap o=o:=by
 rw[IntKind.wrap_u64];omega
theorem kz_any (x:Int)(h0:0<x)(h1:x≤9223372036854775807)(w:World)(hT:Tab w):Calls Tryz.prog 136 #[.int .u64 x] w fun e w'=>e=.returned (.int .i64 ((Lib.ctz 64 x.toNat:Nat):Int))∧w=w':=by
 have h:=tz x.toNat (by omega) (by omega) w hT
 rw[Int.toNat_of_nonneg (by omega)]at h
 exact h
theorem kl_any (o:Int)(h0:0≤o)(h1:o≤9223372036854775807)(w:World):Calls Tryz.prog 119 #[.int .u64 (IntKind.u64.wrap o)] w fun e w'=>e=.returned (.int .i64 ((Lib.bitLen o.toNat:Nat):Int))∧w=w':=by
 rw[u64_id o h0 h1]
 exact len o w h0 (by omega)
theorem odd_int (x:Int)(h0:0<x)(h1:x≤9223372036854775807):∃k:Nat,∃L:Nat,∃o:Int,k=Lib.ctz 64 x.toNat∧L=Lib.bitLen o.toNat∧x/2^k=o∧x=o*2^k∧k<64∧0<o∧o≤9223372036854775807∧Lib.bitLen x.toNat=k+L∧L≤64:=by
 obtain⟨a1,a2,a3,a4⟩:=odd_part x.toNat (by omega) (by omega)
 obtain⟨k,hk⟩:∃k,k=Lib.ctz 64 x.toNat:=⟨_,rfl⟩
 rw[←hk]at a1 a2 a3 a4
 obtain⟨o,ho⟩:∃o,o=x.toNat/2^k:=⟨_,rfl⟩
 rw[←ho]at a2 a3 a4
 have hx:x=((o*2^k:Nat):Int):=by rw[←a2];omega
 have hp:(0:Nat)<2^k:=Nat.two_pow_pos k
 have hle:o≤o*2^k:=Nat.le_mul_of_pos_right _ hp
 have ho1:o<2^64:=by omega
 refine⟨k,Lib.bitLen o,(o:Int),hk,by simp,?_,?_,a1,by omega,by omega,a4,bitLen_le 64 o (by decide) ho1⟩
 ·rw[hx,Int.natCast_mul,Int.natCast_pow]
  exact Int.mul_ediv_cancel _ (Int.ne_of_gt (by exact_mod_cast hp))
 ·rw[hx,Int.natCast_mul,Int.natCast_pow]
  rfl
end Go.Proofs.YtnniljhdcplkgaaGreatDoor
namespace Go.Proofs.YtnniljhdcplkgaaGreatDoor
open Go.ChangeShapes Go.WideShapes Go.ChangeAt Go.RowKit
set_option maxHeartbeats 16000000
set_option maxRecDepth 100000
set_option linter.unusedVariables false
set_option linter.unusedSimpArgs false
theorem join_far_64 (p:Bool)(x e:Int)(hx0:0<x)(he:2000<e)(w:World):Calls Tryz.prog 127 #[.bool p,.int .i64 x,.int .i64 e,.int .i64 64] w fun e w'=>e=.returned (.tuple #[.int .i64 0,.bool false])∧Kept w w':=by
 go_enter Tryz.func127,Tryz.ntmps127
 go_wp2_with fail
 refine(layoutOf_64 _).mono ?_
 rintro e w1 ⟨rfl,hk1⟩
 go_wp2
 go_ret2
 exact⟨rfl,(hk1.alloc _ _)⟩
theorem odd_fit_64 (M E:Int)(h0:0<M)(h1:M≤9007199254740992)(hE:-1074≤E)(hk:E=-1074∨4503599627370496≤M):∃k:Nat,∃L:Nat,∃o:Int,∃U:Nat,k=Lib.ctz 64 M.toNat∧L=Lib.bitLen o.toNat∧M/2^k=o∧k<64∧0<o∧o≤9223372036854775807∧L≤64∧min (53-(L:Int)) (E+(k:Int)+1074)=(U:Int)∧U<64∧(0≤E+(k:Int)-(U:Int)+1074)∧(E+(k:Int)-(U:Int)+1074)*4503599627370496+o*2^U=(E+1074)*4503599627370496+M∧0≤o*2^U∧o*2^U<2*4503599627370496∧(E+(k:Int)-(U:Int)+1074+1<2047↔(E+1074)*4503599627370496+M<9218868437227405312):=by
 by_cases ht:M=9007199254740992
 ·subst ht
  refine⟨53,1,1,52,by decide+kernel,by decide+kernel,by decide,by decide,by decide,by decide,by decide,?_,by decide,by omega,?_,by decide,by decide,by omega⟩
  ·omega
  ·have:(1:Int)*2^52=4503599627370496:=by decide
   rw[this];omega
 ·obtain⟨k,L,o,hk',hL,hdiv,hxo,hk64,ho0,ho1,hlen,hL64⟩:=odd_int M (by omega) (by omega)
  have hU:min (53-(L:Int)) (E+(k:Int)+1074)=(k:Int):=by
   by_cases hs:M<4503599627370496
   ·have:=bitLen_le 52 M.toNat (by decide) (by omega)
    omega
   ·have:=bitLen_top 52 M.toNat (by decide) (by omega) (by omega)
    omega
  refine⟨k,L,o,k,hk',hL,hdiv,hk64,ho0,ho1,hL64,hU,hk64,by omega,by rw[←hxo];omega,by rw[←hxo];omega,by rw[←hxo];omega,?_⟩
  omega
theorem join_r_64 (p:Bool)(M E R q:Int)(h0:0≤M)(h1:M≤9007199254740992)(hE:-1074≤E)(hk:E=-1074∨4503599627370496≤M)(hR:(E+1074)*4503599627370496+M=R)(hlt:R<9218868437227405312)(hq:(if p=true then R-9223372036854775808 else R)=q)(w:World)(hT:Tab w):Calls Tryz.prog 127 #[.bool p,.int .i64 M,.int .i64 E,.int .i64 64] w fun e w'=>e=.returned (.tuple #[.int .i64 q,.bool true])∧Kept w w':=by
 by_cases hz:M=0
 ·subst hz
  have hR0:R=0:=by omega
  refine(join_zero_64 p E w).mono ?_
  rintro e w' ⟨rfl,hk⟩
  refine⟨?_,hk⟩
  rw[←hq,hR0]
  cases p<;>rfl
 ·obtain⟨k,L,o,U,hk',hL,hdiv,hk64,ho0,ho1,hL64,hU,hU64,hs0,hv,hv0,hv2,hiff⟩:=odd_fit_64 M E (by omega) h1 hE hk
  have hs:=hiff.2 (by omega)
  refine join_64_yes p M E k (by omega) (by omega) (by omega) (by omega) hk64 o L ho0 ho1 hL64 hdiv ?_ ?_ U hU hU64 hs hs0 R (R-9223372036854775808) hv0 hv2 (by rw[hv,hR]) (or_min _ (by omega) (by omega)) q hq w hT
  ·intro w hT
   rw[hk']
   exact kz_any M (by omega) (by omega) w hT
  ·intro w
   rw[hL]
   exact kl_any o (by omega) ho1 w
theorem join_no_64 (p:Bool)(M E R:Int)(h0:0≤M)(h1:M≤9007199254740992)(hE:-1074≤E)(hk:E=-1074∨4503599627370496≤M)(hR:(E+1074)*4503599627370496+M=R)(hlt:9218868437227405312≤R)(w:World)(hT:Tab w):Calls Tryz.prog 127 #[.bool p,.int .i64 M,.int .i64 E,.int .i64 64] w fun e w'=>e=.returned (.tuple #[.int .i64 0,.bool false])∧Kept w w':=by
 by_cases hf:2000<E
 ·exact join_far_64 p M E (by omega) hf w
 ·obtain⟨k,L,o,U,hk',hL,hdiv,hk64,ho0,ho1,hL64,hU,hU64,hs0,hv,hv0,hv2,hiff⟩:=odd_fit_64 M E (by omega) h1 hE hk
  refine join_64_high p M E k (by omega) (by omega) (by omega) (by omega) hk64 o L ho0 ho1 hL64 hdiv ?_ ?_ (U:Int) hU (by omega) (by omega) (by omega) w hT
  ·intro w hT
   rw[hk']
   exact kz_any M (by omega) (by omega) w hT
  ·intro w
   rw[hL]
   exact kl_any o (by omega) ho1 w
theorem join_far_32 (p:Bool)(x e:Int)(hx0:0<x)(he:2000<e)(w:World):Calls Tryz.prog 127 #[.bool p,.int .i64 x,.int .i64 e,.int .i64 32] w fun e w'=>e=.returned (.tuple #[.int .i64 0,.bool false])∧Kept w w':=by
 go_enter Tryz.func127,Tryz.ntmps127
 go_wp2_with fail
 refine(layoutOf_32 _).mono ?_
 rintro e w1 ⟨rfl,hk1⟩
 go_wp2
 go_ret2
 exact⟨rfl,(hk1.alloc _ _)⟩
theorem odd_fit_32 (M E:Int)(h0:0<M)(h1:M≤16777216)(hE:-149≤E)(hk:E=-149∨8388608≤M):∃k:Nat,∃L:Nat,∃o:Int,∃U:Nat,k=Lib.ctz 64 M.toNat∧L=Lib.bitLen o.toNat∧M/2^k=o∧k<64∧0<o∧o≤9223372036854775807∧L≤64∧min (24-(L:Int)) (E+(k:Int)+149)=(U:Int)∧U<64∧(0≤E+(k:Int)-(U:Int)+149)∧(E+(k:Int)-(U:Int)+149)*8388608+o*2^U=(E+149)*8388608+M∧0≤o*2^U∧o*2^U<2*8388608∧(E+(k:Int)-(U:Int)+149+1<255↔(E+149)*8388608+M<2139095040):=by
 by_cases ht:M=16777216
 ·subst ht
  refine⟨24,1,1,23,by decide+kernel,by decide+kernel,by decide,by decide,by decide,by decide,by decide,?_,by decide,by omega,?_,by decide,by decide,by omega⟩
  ·omega
  ·have:(1:Int)*2^23=8388608:=by decide
   rw[this];omega
 ·obtain⟨k,L,o,hk',hL,hdiv,hxo,hk64,ho0,ho1,hlen,hL64⟩:=odd_int M (by omega) (by omega)
  have hU:min (24-(L:Int)) (E+(k:Int)+149)=(k:Int):=by
   by_cases hs:M<8388608
   ·have:=bitLen_le 23 M.toNat (by decide) (by omega)
    omega
   ·have:=bitLen_top 23 M.toNat (by decide) (by omega) (by omega)
    omega
  refine⟨k,L,o,k,hk',hL,hdiv,hk64,ho0,ho1,hL64,hU,hk64,by omega,by rw[←hxo];omega,by rw[←hxo];omega,by rw[←hxo];omega,?_⟩
  omega
theorem join_r_32 (p:Bool)(M E R q:Int)(h0:0≤M)(h1:M≤16777216)(hE:-149≤E)(hk:E=-149∨8388608≤M)(hR:(E+149)*8388608+M=R)(hlt:R<2139095040)(hq:(if p=true then R+2147483648 else R)=q)(w:World)(hT:Tab w):Calls Tryz.prog 127 #[.bool p,.int .i64 M,.int .i64 E,.int .i64 32] w fun e w'=>e=.returned (.tuple #[.int .i64 q,.bool true])∧Kept w w':=by
 by_cases hz:M=0
 ·subst hz
  have hR0:R=0:=by omega
  refine(join_zero_32 p E w).mono ?_
  rintro e w' ⟨rfl,hk⟩
  refine⟨?_,hk⟩
  rw[←hq,hR0]
  cases p<;>rfl
 ·obtain⟨k,L,o,U,hk',hL,hdiv,hk64,ho0,ho1,hL64,hU,hU64,hs0,hv,hv0,hv2,hiff⟩:=odd_fit_32 M E (by omega) h1 hE hk
  have hs:=hiff.2 (by omega)
  refine join_32_yes p M E k (by omega) (by omega) (by omega) (by omega) hk64 o L ho0 ho1 hL64 hdiv ?_ ?_ U hU hU64 hs hs0 R (R+2147483648) hv0 hv2 (by rw[hv,hR]) (or_31 _ (by omega) (by omega)) q hq w hT
  ·intro w hT
   rw[hk']
   exact kz_any M (by omega) (by omega) w hT
  ·intro w
   rw[hL]
   exact kl_any o (by omega) ho1 w
theorem join_no_32 (p:Bool)(M E R:Int)(h0:0≤M)(h1:M≤16777216)(hE:-149≤E)(hk:E=-149∨8388608≤M)(hR:(E+149)*8388608+M=R)(hlt:2139095040≤R)(w:World)(hT:Tab w):Calls Tryz.prog 127 #[.bool p,.int .i64 M,.int .i64 E,.int .i64 32] w fun e w'=>e=.returned (.tuple #[.int .i64 0,.bool false])∧Kept w w':=by
 by_cases hf:2000<E
 ·exact join_far_32 p M E (by omega) hf w
 ·obtain⟨k,L,o,U,hk',hL,hdiv,hk64,ho0,ho1,hL64,hU,hU64,hs0,hv,hv0,hv2,hiff⟩:=odd_fit_32 M E (by omega) h1 hE hk
  refine join_32_high p M E k (by omega) (by omega) (by omega) (by omega) hk64 o L ho0 ho1 hL64 hdiv ?_ ?_ (U:Int) hU (by omega) (by omega) (by omega) w hT
  ·intro w hT
   rw[hk']
   exact kz_any M (by omega) (by omega) w hT
  ·intro w
   rw[hL]
   exact kl_any o (by omega) ho1 w
end Go.Proofs.YtnniljhdcplkgaaGreatDoor

namespace Go.Proofs.YtnniljhdcplkgaaGreatDoor
open Go.ChangeShapes Go.WideShapes Go.ChangeAt Go.RowKit
set_option maxHeartbeats 16000000
set_option maxRecDepth 100000
theorem of_64 (w:World):Calls Tryz.prog 45 #[.int .i64 64] w fun e w'=>e=.returned (.tuple #[.agg #[.int .i64 64,.int .i64 53,.int .i64 4503599627370496,.int .i64 2047,.int .i64 (-1074),.int .i64 1024,.int .i64 9218868437227405312,.int .i64 (-9223372036854775808),.int .i64 9221120237041090561],.bool true])∧Kept w w':=by
 go_enter Tryz.func45,Tryz.ntmps45
 go_wp2
 exact bodyPost_ret (v:=.tuple #[.agg #[.int .i64 64,.int .i64 53,.int .i64 4503599627370496,.int .i64 2047,.int .i64 (-1074),.int .i64 1024,.int .i64 9218868437227405312,.int .i64 (-9223372036854775808),.int .i64 9221120237041090561],.bool true]) (by simp[results,Tryz.results45,go_sem]) rfl ⟨rfl,(Kept.refl _).alloc _ _⟩
theorem of_32 (w:World):Calls Tryz.prog 45 #[.int .i64 32] w fun e w'=>e=.returned (.tuple #[.agg #[.int .i64 32,.int .i64 24,.int .i64 8388608,.int .i64 255,.int .i64 (-149),.int .i64 128,.int .i64 2139095040,.int .i64 2147483648,.int .i64 2143289345],.bool true])∧Kept w w':=by
 go_enter Tryz.func45,Tryz.ntmps45
 go_wp2
 exact bodyPost_ret (v:=.tuple #[.agg #[.int .i64 32,.int .i64 24,.int .i64 8388608,.int .i64 255,.int .i64 (-149),.int .i64 128,.int .i64 2139095040,.int .i64 2147483648,.int .i64 2143289345],.bool true]) (by simp[results,Tryz.results45,go_sem]) rfl ⟨rfl,(Kept.refl _).alloc _ _⟩
theorem of_0 (n:Int)(h1:(n==32)=false)(h2:(n==64)=false)(w:World):Calls Tryz.prog 45 #[.int .i64 n] w fun e w'=>e=.returned (.tuple #[.agg #[.int .i64 0,.int .i64 0,.int .i64 0,.int .i64 0,.int .i64 0,.int .i64 0,.int .i64 0,.int .i64 0,.int .i64 0],.bool false])∧Kept w w':=by
 go_enter Tryz.func45,Tryz.ntmps45
 go_wp2
 exact bodyPost_ret (v:=.tuple #[.agg #[.int .i64 0,.int .i64 0,.int .i64 0,.int .i64 0,.int .i64 0,.int .i64 0,.int .i64 0,.int .i64 0,.int .i64 0],.bool false]) (by simp[results,Tryz.results45,go_sem]) rfl ⟨rfl,(Kept.refl _).alloc _ _⟩
theorem cut_64_pos (b:Int)(h0:0≤b)(hu:b≤9223372036854775807)(w:World):Calls Tryz.prog 60 #[.agg #[.int .i64 64,.int .i64 53,.int .i64 4503599627370496,.int .i64 2047,.int .i64 (-1074),.int .i64 1024,.int .i64 9218868437227405312,.int .i64 (-9223372036854775808),.int .i64 9221120237041090561],.int .i64 b] w fun e w'=>e=.returned (.tuple #[.bool false,.int .i64 (b/4503599627370496),.int .i64 (b%4503599627370496),.bool true])∧Kept w w':=by
 go_enter Tryz.func60,Tryz.ntmps60
 go_wp2
 go_quiet (fail)
 go_wp2
 exact bodyPost_ret (v:=.tuple #[.bool false,.int .i64 (b/4503599627370496),.int .i64 (b%4503599627370496),.bool true]) (by simp[results,Tryz.results60,go_sem,h0]) rfl ⟨rfl,(((Kept.refl _).alloc _ _).drewN _)⟩
theorem cut_64_neg (b:Int)(h0:b<0)(hu:-9223372036854775808≤b)(w:World):Calls Tryz.prog 60 #[.agg #[.int .i64 64,.int .i64 53,.int .i64 4503599627370496,.int .i64 2047,.int .i64 (-1074),.int .i64 1024,.int .i64 9218868437227405312,.int .i64 (-9223372036854775808),.int .i64 9221120237041090561],.int .i64 b] w fun e w'=>e=.returned (.tuple #[.bool true,.int .i64 ((b- -9223372036854775808)/4503599627370496),.int .i64 ((b- -9223372036854775808)%4503599627370496),.bool true])∧Kept w w':=by
 go_enter Tryz.func60,Tryz.ntmps60
 go_wp2
 go_quiet (fail)
 go_wp2
 exact bodyPost_ret (v:=.tuple #[.bool true,.int .i64 ((b- -9223372036854775808)/4503599627370496),.int .i64 ((b- -9223372036854775808)%4503599627370496),.bool true]) (by simp[results,Tryz.results60,go_sem]) rfl ⟨rfl,(((Kept.refl _).alloc _ _).drewN _)⟩
theorem cut_32_no1 (b:Int)(h0:b<0)(w:World):Calls Tryz.prog 60 #[.agg #[.int .i64 32,.int .i64 24,.int .i64 8388608,.int .i64 255,.int .i64 (-149),.int .i64 128,.int .i64 2139095040,.int .i64 2147483648,.int .i64 2143289345],.int .i64 b] w fun e w'=>e=.returned (.tuple #[.bool false,.int .i64 0,.int .i64 0,.bool false])∧Kept w w':=by
 go_enter Tryz.func60,Tryz.ntmps60
 go_wp2
 exact bodyPost_ret (v:=.tuple #[.bool false,.int .i64 0,.int .i64 0,.bool false]) (by simp[results,Tryz.results60,go_sem]) rfl ⟨rfl,((Kept.refl _).alloc _ _)⟩
theorem cut_32_no2 (b:Int)(h0:4294967296≤b)(w:World):Calls Tryz.prog 60 #[.agg #[.int .i64 32,.int .i64 24,.int .i64 8388608,.int .i64 255,.int .i64 (-149),.int .i64 128,.int .i64 2139095040,.int .i64 2147483648,.int .i64 2143289345],.int .i64 b] w fun e w'=>e=.returned (.tuple #[.bool false,.int .i64 0,.int .i64 0,.bool false])∧Kept w w':=by
 go_enter Tryz.func60,Tryz.ntmps60
 go_wp2
 exact bodyPost_ret (v:=.tuple #[.bool false,.int .i64 0,.int .i64 0,.bool false]) (by simp[results,Tryz.results60,go_sem]) rfl ⟨rfl,((Kept.refl _).alloc _ _)⟩
theorem cut_32_yes (b:Int)(h0:0≤b)(hu:b<4294967296)(w:World):Calls Tryz.prog 60 #[.agg #[.int .i64 32,.int .i64 24,.int .i64 8388608,.int .i64 255,.int .i64 (-149),.int .i64 128,.int .i64 2139095040,.int .i64 2147483648,.int .i64 2143289345],.int .i64 b] w fun e w'=>e=.returned (.tuple #[.bool (decide (2147483648≤b)),.int .i64 (b%2147483648/8388608),.int .i64 (b%8388608),.bool true])∧Kept w w':=by
 go_enter Tryz.func60,Tryz.ntmps60
 go_wp2
 go_quiet (fail)
 go_wp2
 exact bodyPost_ret (v:=.tuple #[.bool (decide (2147483648≤b)),.int .i64 (b%2147483648/8388608),.int .i64 (b%8388608),.bool true]) (by simp[results,Tryz.results60,go_sem]) rfl ⟨rfl,(((Kept.refl _).alloc _ _).drewN _)⟩
def thr (b:Int):Bool:=decide (0≤b∧b<4294967296)
def fld64 (b:Int):Int:=b%9223372036854775808/4503599627370496
def frc64 (b:Int):Int:=b%4503599627370496
def fld32 (b:Int):Int:=if thr b=true then b%2147483648/8388608 else 0
def frc32 (b:Int):Int:=if thr b=true then b%8388608 else 0
def sg32 (b:Int):Bool:=thr b&&sgn b 32
theorem cut_64 (b:Int)(hb1:-9223372036854775808≤b)(hb2:b≤9223372036854775807)(w:World):Calls Tryz.prog 60 #[.agg #[.int .i64 64,.int .i64 53,.int .i64 4503599627370496,.int .i64 2047,.int .i64 (-1074),.int .i64 1024,.int .i64 9218868437227405312,.int .i64 (-9223372036854775808),.int .i64 9221120237041090561],.int .i64 b] w fun e w'=>e=.returned (.tuple #[.bool (sgn b 64),.int .i64 (fld64 b),.int .i64 (frc64 b),.bool true])∧Kept w w':=by
 by_cases h:0≤b
 ·refine(cut_64_pos b h hb2 w).mono ?_
  rintro e w' ⟨rfl,hk⟩
  exact⟨ret_parts (by simp[sgn];omega) (by unfold fld64;omega) (by unfold frc64;omega) rfl,hk⟩
 ·refine(cut_64_neg b (by omega) hb1 w).mono ?_
  rintro e w' ⟨rfl,hk⟩
  exact⟨ret_parts (by simp[sgn];omega) (by unfold fld64;omega) (by unfold frc64;omega) rfl,hk⟩
theorem cut_32 (b:Int)(w:World):Calls Tryz.prog 60 #[.agg #[.int .i64 32,.int .i64 24,.int .i64 8388608,.int .i64 255,.int .i64 (-149),.int .i64 128,.int .i64 2139095040,.int .i64 2147483648,.int .i64 2143289345],.int .i64 b] w fun e w'=>e=.returned (.tuple #[.bool (sg32 b),.int .i64 (fld32 b),.int .i64 (frc32 b),.bool (thr b)])∧Kept w w':=by
 by_cases hv:0≤b∧b<4294967296
 ·have ht:thr b=true:=by simp[thr,hv]
  refine(cut_32_yes b hv.1 hv.2 w).mono ?_
  rintro e w' ⟨rfl,hk⟩
  exact⟨ret_parts (by simp[sg32,ht,sgn]) (by simp[fld32,ht]) (by simp[frc32,ht]) ht.symm,hk⟩
 ·have ht:thr b=false:=by simp[thr];omega
  by_cases h:b<0
  ·refine(cut_32_no1 b h w).mono ?_
   rintro e w' ⟨rfl,hk⟩
   exact⟨ret_parts (by simp[sg32,ht]) (by simp[fld32,ht]) (by simp[frc32,ht]) ht.symm,hk⟩
  ·refine(cut_32_no2 b (by omega) w).mono ?_
   rintro e w' ⟨rfl,hk⟩
   exact⟨ret_parts (by simp[sg32,ht]) (by simp[fld32,ht]) (by simp[frc32,ht]) ht.symm,hk⟩
theorem cls_64_eq (b:Int):cls b 64=if (fld64 b=2047∧0<frc64 b)then 4 else if fld64 b=2047 then 3 else if 0<fld64 b then 2 else if 0<frc64 b then 1 else 0:=by
 unfold cls clsOf fld64 frc64
 rw[if_pos rfl]
 (repeat' split)<;>omega
theorem cls_32_eq (b:Int):cls b 32=if (thr b=false∨fld32 b=255∧0<frc32 b)then 4 else if fld32 b=255 then 3 else if 0<fld32 b then 2 else if 0<frc32 b then 1 else 0:=by
 unfold cls
 rw[if_neg (by decide),if_pos rfl]
 by_cases hv:0≤b∧b<4294967296
 ·have ht:thr b=true:=by simp[thr,hv]
  rw[if_pos hv]
  simp only[fld32,frc32,ht,if_true,Bool.true_eq_false,false_or]
  unfold clsOf
  (repeat' split)<;>omega
 ·have ht:thr b=false:=by simp[thr];omega
  rw[if_neg hv,if_pos (Or.inl ht)]
end Go.Proofs.YtnniljhdcplkgaaGreatDoor

namespace Go.Proofs.YtnniljhdcplkgaaGreatDoor
open Go.ChangeShapes Go.WideShapes Go.ChangeAt Go.RowKit
set_option maxHeartbeats 16000000
set_option maxRecDepth 100000
set_option linter.unusedVariables false
theorem half_pow (o:Int)(k j:Nat)(h:j<k):o*2^(k-j)=2*(o*2^(k-(j+1))):=by
 have e:k-j=(k-(j+1))+1:=by omega
 rw[e,Int.pow_succ]
 have:o*(2^(k-(j+1))*2)=2*(o*2^(k-(j+1))):=by
  rw[←Int.mul_assoc,Int.mul_comm]
 rw[this]
theorem shifted_64_yes (x e o:Int)(k:Nat)(hx:x=o*2^k)(hx1:x≤9223372036854775807)(ho0:0<o)(ho2:o%2=1)(hk:k<64)(he1:-2000≤e)(he2:e≤2000)(h53:o<9007199254740992)(hlow:-1074≤e+(k:Int))(U:Nat)(V:Int)(hV:o*2^U=V)(hUb:∀i:Nat,i<U→o*2^i<4503599627370496∧-1074<e+(k:Int)-(i:Int))(hUk:(U:Int)≤4000)(hend:e+(k:Int)-(U:Int)≤-1074∨(-1074<e+(k:Int)-(U:Int)∧4503599627370496≤V))(w:World):Calls Tryz.prog 139 #[.agg #[.int .i64 64,.int .i64 53,.int .i64 4503599627370496,.int .i64 2047,.int .i64 (-1074),.int .i64 1024,.int .i64 9218868437227405312,.int .i64 (-9223372036854775808),.int .i64 9221120237041090561],.int .i64 x,.int .i64 e] w fun r w'=>r=.returned (.tuple #[.int .i64 V,.int .i64 (e+(k:Int)-(U:Int)),.bool true])∧Kept w w':=by
 have HV:Hid (o*2^U=V):=hV
 have HU:Hid (∀i:Nat,i<U→o*2^i<4503599627370496∧-1074<e+(k:Int)-(i:Int)):=hUb
 have hdbl:Hid (∀i:Nat,o*2^(i+1)=o*2^i+o*2^i):=by
  show ∀i:Nat,o*2^(i+1)=o*2^i+o*2^i
  intro i
  rw[Int.pow_succ,←Int.mul_assoc]
  omega
 have hpos:Hid (∀i:Nat,0<o*2^i):=by
  show ∀i:Nat,0<o*2^i
  exact fun i=>Int.mul_pos ho0 (Int.pow_pos (by decide))
 have HE:Hid (e+(k:Int)-(U:Int)≤-1074∨(-1074<e+(k:Int)-(U:Int)∧4503599627370496≤V)):=hend
 clear hV hUb hend
 have hb:∀j:Nat,j≤k→0<o*2^(k-j)∧o*2^(k-j)≤x:=by
  intro j hj
  have hp:(0:Int)<2^(k-j):=Int.pow_pos (by decide)
  have hq:(1:Int)≤2^j:=by have:(0:Int)<2^j:=Int.pow_pos (by decide);omega
  have h1:0<o*2^(k-j):=Int.mul_pos ho0 hp
  refine⟨h1,?_⟩
  have e1:x=o*2^(k-j)*2^j:=by
   rw[hx,Int.mul_assoc,←Int.pow_add]
   congr 2
   omega
  rw[e1]
  have:=Int.mul_le_mul_of_nonneg_left hq (Int.le_of_lt h1)
  omega
 have HB:Hid (∀j:Nat,j≤k→0<o*2^(k-j)∧o*2^(k-j)≤x):=hb
 have HX:Hid (x=o*2^k):=hx
 clear hb hx
 go_enter Tryz.func139,Tryz.ntmps139
 go_wp2
 go_loop [1,2] (fun m t=>∃j:Nat,j≤k∧m=.int .i64 (o*2^(k-j))∧t=.int .i64 (e+(j:Int))) (fun _ t=>(e+(k:Int)-intOf t).toNat)
 case atStart=>exact⟨0,Nat.zero_le _,by rw[HX.out];rfl,by simp⟩
 case round=>
  obtain⟨j,hj,rfl,rfl⟩:=hrel
  have hjb:=HB.out j hj
  by_cases hlt:j<k
  ·have hA:=half_pow o k j hlt
   have hjb':=HB.out (j+1) hlt
   obtain⟨M,hM⟩:∃M,M=o*2^(k-(j+1)):=⟨_,rfl⟩
   rw[←hM]at hA hjb'
   rw[hA]at hjb ⊢
   have HM:Hid (M=o*2^(k-(j+1))):=hM
   clear hM hA
   have hmod:(2*M)%2=0:=by omega
   go_wp2
   go_round
   case rel=>exact⟨j+1,by omega,by rw[←HM.out],by go_num⟩
   case measure=>simp[intOf];omega
  ·obtain rfl:j=k:=by omega
   rw[Nat.sub_self,Int.pow_zero,Int.mul_one]at hjb ⊢
   have hodd:(o%2==0)=false:=by rw[ho2];rfl
   go_wp2
   go_loop [1,2] (fun m t=>∃i:Nat,i≤U∧m=.int .i64 (o*2^i)∧t=.int .i64 (e+(j:Int)-(i:Int))) (fun _ t=>(intOf t-(e+(j:Int)-(U:Int))).toNat)
   case atStart=>exact⟨0,Nat.zero_le _,by simp,by simp⟩
   case round=>
    obtain⟨i,hi,rfl,rfl⟩:=hrel
    by_cases hlt2:i<U
    ·obtain⟨g1,g2⟩:=HU.out i hlt2
     have hd:=hdbl.out i
     have hp0:=hpos.out i
     obtain⟨M,hM⟩:∃M,M=o*2^i:=⟨_,rfl⟩
     rw[←hM]at g1 hd hp0 ⊢
     have HD:Hid (o*2^(i+1)=M+M):=hd
     clear hd hM
     go_wp2
     go_round
     case rel=>exact⟨i+1,by omega,by rw[HD.out],by go_num⟩
     case measure=>simp[intOf];omega
    ·obtain rfl:i=U:=by omega
     rw[HV.out]
     rcases HE.out with hx1|⟨hx1,hx2⟩
     ·go_wp2
      go_ret3
      exact⟨rfl,(Kept.refl _).alloc _ _⟩
     ·go_wp2
      go_ret3
      exact⟨rfl,(Kept.refl _).alloc _ _⟩
theorem shifted_32_yes (x e o:Int)(k:Nat)(hx:x=o*2^k)(hx1:x≤9223372036854775807)(ho0:0<o)(ho2:o%2=1)(hk:k<64)(he1:-2000≤e)(he2:e≤2000)(h53:o<16777216)(hlow:-149≤e+(k:Int))(U:Nat)(V:Int)(hV:o*2^U=V)(hUb:∀i:Nat,i<U→o*2^i<8388608∧-149<e+(k:Int)-(i:Int))(hUk:(U:Int)≤4000)(hend:e+(k:Int)-(U:Int)≤-149∨(-149<e+(k:Int)-(U:Int)∧8388608≤V))(w:World):Calls Tryz.prog 139 #[.agg #[.int .i64 32,.int .i64 24,.int .i64 8388608,.int .i64 255,.int .i64 (-149),.int .i64 128,.int .i64 2139095040,.int .i64 2147483648,.int .i64 2143289345],.int .i64 x,.int .i64 e] w fun r w'=>r=.returned (.tuple #[.int .i64 V,.int .i64 (e+(k:Int)-(U:Int)),.bool true])∧Kept w w':=by
 have HV:Hid (o*2^U=V):=hV
 have HU:Hid (∀i:Nat,i<U→o*2^i<8388608∧-149<e+(k:Int)-(i:Int)):=hUb
 have hdbl:Hid (∀i:Nat,o*2^(i+1)=o*2^i+o*2^i):=by
  show ∀i:Nat,o*2^(i+1)=o*2^i+o*2^i
  intro i
  rw[Int.pow_succ,←Int.mul_assoc]
  omega
 have hpos:Hid (∀i:Nat,0<o*2^i):=by
  show ∀i:Nat,0<o*2^i
  exact fun i=>Int.mul_pos ho0 (Int.pow_pos (by decide))
 have HE:Hid (e+(k:Int)-(U:Int)≤-149∨(-149<e+(k:Int)-(U:Int)∧8388608≤V)):=hend
 clear hV hUb hend
 have hb:∀j:Nat,j≤k→0<o*2^(k-j)∧o*2^(k-j)≤x:=by
  intro j hj
  have hp:(0:Int)<2^(k-j):=Int.pow_pos (by decide)
  have hq:(1:Int)≤2^j:=by have:(0:Int)<2^j:=Int.pow_pos (by decide);omega
  have h1:0<o*2^(k-j):=Int.mul_pos ho0 hp
  refine⟨h1,?_⟩
  have e1:x=o*2^(k-j)*2^j:=by
   rw[hx,Int.mul_assoc,←Int.pow_add]
   congr 2
   omega
  rw[e1]
  have:=Int.mul_le_mul_of_nonneg_left hq (Int.le_of_lt h1)
  omega
 have HB:Hid (∀j:Nat,j≤k→0<o*2^(k-j)∧o*2^(k-j)≤x):=hb
 have HX:Hid (x=o*2^k):=hx
 clear hb hx
 go_enter Tryz.func139,Tryz.ntmps139
 go_wp2
 go_loop [1,2] (fun m t=>∃j:Nat,j≤k∧m=.int .i64 (o*2^(k-j))∧t=.int .i64 (e+(j:Int))) (fun _ t=>(e+(k:Int)-intOf t).toNat)
 case atStart=>exact⟨0,Nat.zero_le _,by rw[HX.out];rfl,by simp⟩
 case round=>
  obtain⟨j,hj,rfl,rfl⟩:=hrel
  have hjb:=HB.out j hj
  by_cases hlt:j<k
  ·have hA:=half_pow o k j hlt
   have hjb':=HB.out (j+1) hlt
   obtain⟨M,hM⟩:∃M,M=o*2^(k-(j+1)):=⟨_,rfl⟩
   rw[←hM]at hA hjb'
   rw[hA]at hjb ⊢
   have HM:Hid (M=o*2^(k-(j+1))):=hM
   clear hM hA
   have hmod:(2*M)%2=0:=by omega
   go_wp2
   go_round
   case rel=>exact⟨j+1,by omega,by rw[←HM.out],by go_num⟩
   case measure=>simp[intOf];omega
  ·obtain rfl:j=k:=by omega
   rw[Nat.sub_self,Int.pow_zero,Int.mul_one]at hjb ⊢
   have hodd:(o%2==0)=false:=by rw[ho2];rfl
   go_wp2
   go_loop [1,2] (fun m t=>∃i:Nat,i≤U∧m=.int .i64 (o*2^i)∧t=.int .i64 (e+(j:Int)-(i:Int))) (fun _ t=>(intOf t-(e+(j:Int)-(U:Int))).toNat)
   case atStart=>exact⟨0,Nat.zero_le _,by simp,by simp⟩
   case round=>
    obtain⟨i,hi,rfl,rfl⟩:=hrel
    by_cases hlt2:i<U
    ·obtain⟨g1,g2⟩:=HU.out i hlt2
     have hd:=hdbl.out i
     have hp0:=hpos.out i
     obtain⟨M,hM⟩:∃M,M=o*2^i:=⟨_,rfl⟩
     rw[←hM]at g1 hd hp0 ⊢
     have HD:Hid (o*2^(i+1)=M+M):=hd
     clear hd hM
     go_wp2
     go_round
     case rel=>exact⟨i+1,by omega,by rw[HD.out],by go_num⟩
     case measure=>simp[intOf];omega
    ·obtain rfl:i=U:=by omega
     rw[HV.out]
     rcases HE.out with hx1|⟨hx1,hx2⟩
     ·go_wp2
      go_ret3
      exact⟨rfl,(Kept.refl _).alloc _ _⟩
     ·go_wp2
      go_ret3
      exact⟨rfl,(Kept.refl _).alloc _ _⟩
end Go.Proofs.YtnniljhdcplkgaaGreatDoor
