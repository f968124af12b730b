/-  -/
import Derived.Test.YtnniljhdcplkgaaGreatDoorWs12
import Derived.Test.YtnniljhdcplkgaaGreatDoorWs05
import Derived.Test.YtnniljhdcplkgaaGreatDoorWs02
namespace Go.Proofs.YtnniljhdcplkgaaGreatDoor
open Go.ChangeShapes Go.WideShapes Go.ChangeAt Go.RowKit
set_option maxHeartbeats 16000000
set_option maxRecDepth 100000
set_option linter.unusedVariables false
set_option linter.unusedSimpArgs false
theorem bl_half (x:Nat)(h:x≠0):bl x=bl (x/2)+1:=by
 by_cases h1:x/2=0
 ·obtain rfl:x=1:=by omega
  decide
 ·have:=bl_div x 1 (by simpa using h1)
  rw[Nat.pow_one]at this
  omega
theorem natBits_any (w:World)(V:Nat)(v:Value)(hM:RL w v (digs V))(hlen:(digs V).length<1000000):Calls Tryz.prog 55 #[v] w fun e w'=>e=.returned (.int .i64 (bl V:Int))∧w=w':=by
 obtain⟨ao,c,rfl,-,hat⟩:=hM.at
 have HA:Hid (∀i,i<(digs V).length→∃b off,ao=some ⟨b,off,none⟩∧w.cell? ⟨b,off+i,none⟩=some (.int .i64 ((digs V).getD i 0))):=(hat w (Kept.refl w)).2
 by_cases h0:V=0
 ·subst h0
  rw[digs_zero,List.length_nil,bl_zero]
  clear hM hat HA hlen
  go_enter Tryz.func55,Tryz.ntmps55
  go_wp2
  go_ret
  exact⟨rfl,rfl⟩
 ·obtain⟨n,hn⟩:∃n,(digs V).length=n+1:=by
   rcases hl:(digs V).length with _|n
   ·exact absurd (digs_len0 V hl) h0
   ·exact⟨n,rfl⟩
  have hge:=digs_ge V n (by omega)
  have hlt:=digs_lt V (n+1) (by omega)
  have hp:=Nat.two_pow_pos (30*n)
  have hdlt:V/2^(30*n)<1073741824:=Nat.div_lt_of_lt_mul (by rw[←pow30m];exact hlt)
  have hd0:V/2^(30*n)≠0:=by
   have:=Nat.div_pos hge hp
   omega
  have hbl:=bl_div V (30*n) hd0
  obtain⟨b,off,rfl,hc⟩:=HA.out n (by omega)
  rw[digs_at,Nat.mod_eq_of_lt hdlt]at hc
  rw[hn]
  have HB:Hid (bl V=30*n+bl (V/2^(30*n))):=hbl
  generalize bl V=T at *
  generalize V/2^(30*n)=d at *
  have hn6:n<1000000:=by omega
  have hx:IntKind.i64.wrap (30*(n:Int))=30*(n:Int):=by rw[wrap_i64];omega
  have hn1:((n+1:Nat):Int)-1=(n:Int):=by omega
  clear hM hat HA hlen hn hge hlt hp hbl
  go_enter Tryz.func55,Tryz.ntmps55
  go_wp2
  go_loopw [3,4] (fun kv vv wr=>∃j x:Nat,kv=.int .i64 (30*(n:Int)+(j:Int))∧vv=.int .i64 (x:Int)∧x<1073741824∧j+bl x=bl d∧w=wr) (fun _ vv _=>(intOf vv).toNat)
  case atStart=>exact⟨0,d,by simp,rfl,hdlt,by omega,rfl⟩
  case round=>
   obtain⟨j,x,rfl,rfl,hx1,hj,rfl⟩:=hrel
   have hbd:bl d≤30:=bl_le d 30 (by omega)
   have y2:((x:Int)).tdiv 2=((x/2:Nat):Int):=by rw[Int.tdiv_eq_ediv_of_nonneg (by omega)];omega
   by_cases hx0:x=0
   ·subst hx0
    rw[bl_zero]at hj
    have HT:Hid (30*(n:Int)+(j:Int)=(T:Int)):=by
     have:=HB.out
     show 30*(n:Int)+(j:Int)=(T:Int)
     omega
    go_wp2
    go_ret
    exact⟨congrArg (fun z=>Ending.returned (Value.int .i64 z)) HT.out,rfl⟩
   ·have hh:=bl_half x hx0
    have hxp:0<(x:Int):=by omega
    have Hj:Hid (j+bl x=bl d):=hj
    have Hh:Hid (bl x=bl (x/2)+1):=hh
    have HBD:Hid (bl d≤30):=hbd
    have hjb:j≤30:=by omega
    clear hj hh hbd
    go_wp2
    go_roundw
    case rel=>exact⟨j+1,x/2,by go_num,by first|rfl|exact congrArg (Value.int .i64) y2,by omega,by have:=Hj.out;have:=Hh.out;omega,by first|rfl|trivial⟩
    case measure=>simp[intOf]<;>omega
def bitz (V:Nat)(i:Int):Bool:=if i<0 then false else decide (V/2^i.toNat%2=1)
theorem bit_digit (V f s:Nat)(hs:s<30):V/2^(30*f)%1073741824/2^s%2=V/2^(30*f+s)%2:=by
 rw[Nat.pow_add,←Nat.div_div_eq_div_mul]
 generalize V/2^(30*f)=x
 have h30:(1073741824:Nat)=2^s*2^(30-s):=by rw[←Nat.pow_add,show s+(30-s)=30 by omega]
 rw[h30,Nat.mod_mul_right_div_self]
 have h2:2^(30-s)=2*2^(29-s):=by rw[←Nat.pow_succ',show(29-s).succ=30-s by omega]
 rw[h2,Nat.mod_mul_right_mod]
theorem natBit_any (w:World)(V:Nat)(v:Value)(hM:RL w v (digs V))(hlen:(digs V).length<1000000)(i:Int)(hi1:-1000000000≤i)(hi2:i≤1000000000):Calls Tryz.prog 88 #[v,.int .i64 i] w fun e w'=>e=.returned (.bool (bitz V i))∧Kept w w':=by
 obtain⟨ao,c,rfl,-,hat⟩:=hM.at
 by_cases h0:i<0
 ·rw[bitz,if_pos h0]
  generalize (digs V).length=l at *
  clear hM hat
  go_enter Tryz.func88,Tryz.ntmps88
  go_wp2
  go_ret
  exact⟨rfl,Kept.refl _⟩
 ·rw[bitz,if_neg h0]
  obtain⟨q,rfl⟩:=Int.eq_ofNat_of_zero_le (show 0≤i by omega)
  rw[Int.toNat_natCast]
  have y1:((q:Int)).tmod 30=((q%30:Nat):Int):=by rw[Int.tmod_eq_emod_of_nonneg (by omega)];omega
  have y2:((q:Int)).tdiv 30=((q/30:Nat):Int):=by rw[Int.tdiv_eq_ediv_of_nonneg (by omega)];omega
  by_cases h1:(digs V).length≤q/30
  ·have hV:=digs_lt V (q/30) h1
   have hV2:V<2^q:=Nat.lt_of_lt_of_le hV (Nat.pow_le_pow_right (by omega) (by omega))
   rw[Nat.div_eq_of_lt hV2]
   have g1:((digs V).length:Int)≤((q/30:Nat):Int):=by omega
   have g2:¬(q:Int)<0:=by omega
   have hfb:q/30≤40000000:=by omega
   generalize (digs V).length=l at *
   generalize q/30=f at *
   clear hM hat hV hV2
   go_enter Tryz.func88,Tryz.ntmps88
   go_wp2
   go_ret
   exact⟨by simp,Kept.refl _⟩
  ·obtain⟨b,off,rfl,hc⟩:=(hat w (Kept.refl w)).2 (q/30) (by omega)
   rw[digs_at]at hc
   have hb:=bit_digit V (q/30) (q%30) (by omega)
   rw[show 30*(q/30)+q%30=q by omega]at hb
   have hdlt:V/2^(30*(q/30))%1073741824<1073741824:=Nat.mod_lt _ (by omega)
   have hs:q%30<30:=by omega
   rw[←hb]
   have g1:¬((digs V).length:Int)≤((q/30:Nat):Int):=by omega
   have g2:¬(q:Int)<0:=by omega
   have g3:((q/30:Nat):Int)<((digs V).length:Int):=by omega
   generalize (digs V).length=l at *
   generalize V/2^(30*(q/30))%1073741824=d at *
   generalize q/30=f at *
   generalize q%30=s at *
   clear hM hat hb
   go_enter Tryz.func88,Tryz.ntmps88
   go_wp2
   go_ret
   refine⟨congrArg (fun z=>Ending.returned (Value.bool z)) ?_,Kept.refl _⟩
   have e1:(d:Int)/2^s=((d/2^s:Nat):Int):=by simp
   rw[e1]
   generalize d/2^s=z
   rw[Int.tmod_eq_emod_of_nonneg (by omega),Bool.eq_iff_iff]
   simp
   omega
end Go.Proofs.YtnniljhdcplkgaaGreatDoor

namespace Go.Proofs.YtnniljhdcplkgaaGreatDoor
open Go.ChangeShapes Go.WideShapes Go.ChangeAt Go.RowKit
set_option maxHeartbeats 16000000
set_option maxRecDepth 100000
set_option linter.unusedVariables false
set_option linter.unusedSimpArgs false
theorem cast_pow2 (o i:Nat):(o:Int)*2^i=((o*2^i:Nat):Int):=by simp
theorem rjm_64 (m:Nat)(u:Int)(hm0:0<m)(hm:m≤9007199254740992)(hu:-1074≤u)(hs:m<4503599627370496→u=-1074)(ho2:u≤971)(ho3:m=9007199254740992→u≤970)(q:Int)(hq:q=(u+1074)*4503599627370496+m):∀w,Calls Tryz.prog 117 #[.bool false,.int .i64 m,.int .i64 u,.int .i64 64] w fun e w'=>e=.returned (.tuple #[.int .i64 q,.bool true])∧Kept w w':=by
 by_cases h2:m=9007199254740992
 ·have g:=ho3 h2
  have Ks:Hid (∀w:World,Calls Tryz.prog 139 #[.agg #[.int .i64 64,.int .i64 53,.int .i64 4503599627370496,.int .i64 2047,.int .i64 (-1074),.int .i64 1024,.int .i64 9218868437227405312,.int .i64 (-9223372036854775808),.int .i64 9221120237041090561],.int .i64 (m:Int),.int .i64 u] w fun r w'=>r=.returned (.tuple #[.int .i64 4503599627370496,.int .i64 (u+((53:Nat):Int)-((52:Nat):Int)),.bool true])∧Kept w w'):=fun w=>
   shifted_64_yes (m:Int) u 1 53 (by rw[h2];decide+kernel) (by rw[h2];decide) (by omega) (by decide) (by omega) (by omega) (by omega) (by omega) (by omega) 52 4503599627370496 (by decide+kernel) (fun i hi=>⟨by
    rw[Int.one_mul]
    have:(2:Nat)^i<2^52:=Nat.pow_lt_pow_right (by omega) hi
    have h3:(2:Nat)^52=4503599627370496:=by decide+kernel
    rw[h3]at this
    have h4:((2^i:Nat):Int)<4503599627370496:=by omega
    simpa using h4,by omega⟩) (by omega) (Or.inr ⟨by omega,by omega⟩) w
  intro w
  exact rj_yes_64 false (m:Int) u 4503599627370496 (u+((53:Nat):Int)-((52:Nat):Int)) q (by omega) (by omega) (by omega) (by omega) (by omega) (by omega) (by omega) (by omega) (by simp only[Bool.false_eq_true,if_false];omega) Ks w
 ·obtain⟨o,ho1,hmo⟩:=tzn_spec m (by omega)
  generalize hk:tzn m=k at *
  have hp:=Nat.two_pow_pos k
  have ho0:0<o:=by omega
  have hk64:k<64:=by
   apply Decidable.byContradiction
   intro hc
   have h1:2^64≤2^k:=Nat.pow_le_pow_right (by omega) (by omega)
   have h3:2^k≤o*2^k:=Nat.le_mul_of_pos_left _ ho0
   have h4:(2:Nat)^64=18446744073709551616:=by decide+kernel
   omega
  have hle:∀i,i<k→2*(o*2^i)≤m:=fun i hi=>by
   have h1:2^(i+1)≤2^k:=Nat.pow_le_pow_right (by omega) (by omega)
   have h3:=Nat.mul_le_mul_left o h1
   rw[Nat.pow_succ,←Nat.mul_assoc]at h3
   omega
  have hom:o≤m:=by
   have:=Nat.le_mul_of_pos_right o hp
   omega
  have Ks:Hid (∀w:World,Calls Tryz.prog 139 #[.agg #[.int .i64 64,.int .i64 53,.int .i64 4503599627370496,.int .i64 2047,.int .i64 (-1074),.int .i64 1024,.int .i64 9218868437227405312,.int .i64 (-9223372036854775808),.int .i64 9221120237041090561],.int .i64 (m:Int),.int .i64 u] w fun r w'=>r=.returned (.tuple #[.int .i64 (m:Int),.int .i64 (u+(k:Int)-(k:Int)),.bool true])∧Kept w w'):=fun w=>
   shifted_64_yes (m:Int) u (o:Int) k (by rw[cast_pow2];omega) (by omega) (by omega) (by omega) hk64 (by omega) (by omega) (by omega) (by omega) k (m:Int) (by rw[cast_pow2];omega) (fun i hi=>⟨by rw[cast_pow2];have:=hle i hi;omega,by omega⟩) (by omega) (by
    by_cases h5:u=-1074
    ·left;omega
    ·right;exact⟨by omega,by omega⟩) w
  intro w
  exact rj_yes_64 false (m:Int) u (m:Int) (u+(k:Int)-(k:Int)) q (by omega) (by omega) (by omega) (by omega) (by omega) (by omega) (by omega) (by omega) (by simp only[Bool.false_eq_true,if_false];omega) Ks w
theorem joined_64 (m:Nat)(u:Int)(hm:m≤9007199254740992)(hu:-1074≤u)(hs:m<4503599627370496→u=-1074)(ho2:u≤971)(ho3:m=9007199254740992→u≤970)(q:Int)(hq:q=(u+1074)*4503599627370496+m)(w:World):Calls Tryz.prog 89 #[.agg #[.int .i64 64,.int .i64 53,.int .i64 4503599627370496,.int .i64 2047,.int .i64 (-1074),.int .i64 1024,.int .i64 9218868437227405312,.int .i64 (-9223372036854775808),.int .i64 9221120237041090561],.int .i64 m,.int .i64 u] w fun e w'=>e=.returned (.int .i64 q)∧Kept w w':=by
 have Kj:Hid (∀w,Calls Tryz.prog 117 #[.bool false,.int .i64 m,.int .i64 u,.int .i64 64] w fun e w'=>e=.returned (.tuple #[.int .i64 q,.bool true])∧Kept w w'):=by
  by_cases h0:m=0
  ·subst h0
   obtain rfl:q=0:=by have:=hs (by omega);omega
   exact fun w=>rj_zero_64 false u w
  ·exact rjm_64 m u (by omega) hm hu hs ho2 ho3 q hq
 clear hq hs ho2 ho3 hm hu
 generalize (m:Int)=mi at *
 go_enter Tryz.func89,Tryz.ntmps89
 go_wp2_with (first|(go_at_call 117;refine(Kj.out _).mono ?_;rintro e w1 ⟨rfl,hk1⟩))
 go_ret
 exact⟨rfl,((Kept.refl _).alloc _ _).trans hk1⟩
theorem rjm_32 (m:Nat)(u:Int)(hm0:0<m)(hm:m≤16777216)(hu:-149≤u)(hs:m<8388608→u=-149)(ho2:u≤104)(ho3:m=16777216→u≤103)(q:Int)(hq:q=(u+149)*8388608+m):∀w,Calls Tryz.prog 117 #[.bool false,.int .i64 m,.int .i64 u,.int .i64 32] w fun e w'=>e=.returned (.tuple #[.int .i64 q,.bool true])∧Kept w w':=by
 by_cases h2:m=16777216
 ·have g:=ho3 h2
  have Ks:Hid (∀w:World,Calls Tryz.prog 139 #[.agg #[.int .i64 32,.int .i64 24,.int .i64 8388608,.int .i64 255,.int .i64 (-149),.int .i64 128,.int .i64 2139095040,.int .i64 2147483648,.int .i64 2143289345],.int .i64 (m:Int),.int .i64 u] w fun r w'=>r=.returned (.tuple #[.int .i64 8388608,.int .i64 (u+((24:Nat):Int)-((23:Nat):Int)),.bool true])∧Kept w w'):=fun w=>
   shifted_32_yes (m:Int) u 1 24 (by rw[h2];decide+kernel) (by rw[h2];decide) (by omega) (by decide) (by omega) (by omega) (by omega) (by omega) (by omega) 23 8388608 (by decide+kernel) (fun i hi=>⟨by
    rw[Int.one_mul]
    have:(2:Nat)^i<2^23:=Nat.pow_lt_pow_right (by omega) hi
    have h3:(2:Nat)^23=8388608:=by decide+kernel
    rw[h3]at this
    have h4:((2^i:Nat):Int)<8388608:=by omega
    simpa using h4,by omega⟩) (by omega) (Or.inr ⟨by omega,by omega⟩) w
  intro w
  exact rj_yes_32 false (m:Int) u 8388608 (u+((24:Nat):Int)-((23:Nat):Int)) q (by omega) (by omega) (by omega) (by omega) (by omega) (by omega) (by omega) (by omega) (by simp only[Bool.false_eq_true,if_false];omega) Ks w
 ·obtain⟨o,ho1,hmo⟩:=tzn_spec m (by omega)
  generalize hk:tzn m=k at *
  have hp:=Nat.two_pow_pos k
  have ho0:0<o:=by omega
  have hk64:k<64:=by
   apply Decidable.byContradiction
   intro hc
   have h1:2^64≤2^k:=Nat.pow_le_pow_right (by omega) (by omega)
   have h3:2^k≤o*2^k:=Nat.le_mul_of_pos_left _ ho0
   have h4:(2:Nat)^64=18446744073709551616:=by decide+kernel
   omega
  have hle:∀i,i<k→2*(o*2^i)≤m:=fun i hi=>by
   have h1:2^(i+1)≤2^k:=Nat.pow_le_pow_right (by omega) (by omega)
   have h3:=Nat.mul_le_mul_left o h1
   rw[Nat.pow_succ,←Nat.mul_assoc]at h3
   omega
  have hom:o≤m:=by
   have:=Nat.le_mul_of_pos_right o hp
   omega
  have Ks:Hid (∀w:World,Calls Tryz.prog 139 #[.agg #[.int .i64 32,.int .i64 24,.int .i64 8388608,.int .i64 255,.int .i64 (-149),.int .i64 128,.int .i64 2139095040,.int .i64 2147483648,.int .i64 2143289345],.int .i64 (m:Int),.int .i64 u] w fun r w'=>r=.returned (.tuple #[.int .i64 (m:Int),.int .i64 (u+(k:Int)-(k:Int)),.bool true])∧Kept w w'):=fun w=>
   shifted_32_yes (m:Int) u (o:Int) k (by rw[cast_pow2];omega) (by omega) (by omega) (by omega) hk64 (by omega) (by omega) (by omega) (by omega) k (m:Int) (by rw[cast_pow2];omega) (fun i hi=>⟨by rw[cast_pow2];have:=hle i hi;omega,by omega⟩) (by omega) (by
    by_cases h5:u=-149
    ·left;omega
    ·right;exact⟨by omega,by omega⟩) w
  intro w
  exact rj_yes_32 false (m:Int) u (m:Int) (u+(k:Int)-(k:Int)) q (by omega) (by omega) (by omega) (by omega) (by omega) (by omega) (by omega) (by omega) (by simp only[Bool.false_eq_true,if_false];omega) Ks w
theorem joined_32 (m:Nat)(u:Int)(hm:m≤16777216)(hu:-149≤u)(hs:m<8388608→u=-149)(ho2:u≤104)(ho3:m=16777216→u≤103)(q:Int)(hq:q=(u+149)*8388608+m)(w:World):Calls Tryz.prog 89 #[.agg #[.int .i64 32,.int .i64 24,.int .i64 8388608,.int .i64 255,.int .i64 (-149),.int .i64 128,.int .i64 2139095040,.int .i64 2147483648,.int .i64 2143289345],.int .i64 m,.int .i64 u] w fun e w'=>e=.returned (.int .i64 q)∧Kept w w':=by
 have Kj:Hid (∀w,Calls Tryz.prog 117 #[.bool false,.int .i64 m,.int .i64 u,.int .i64 32] w fun e w'=>e=.returned (.tuple #[.int .i64 q,.bool true])∧Kept w w'):=by
  by_cases h0:m=0
  ·subst h0
   obtain rfl:q=0:=by have:=hs (by omega);omega
   exact fun w=>rj_zero_32 false u w
  ·exact rjm_32 m u (by omega) hm hu hs ho2 ho3 q hq
 clear hq hs ho2 ho3 hm hu
 generalize (m:Int)=mi at *
 go_enter Tryz.func89,Tryz.ntmps89
 go_wp2_with (first|(go_at_call 117;refine(Kj.out _).mono ?_;rintro e w1 ⟨rfl,hk1⟩))
 go_ret
 exact⟨rfl,((Kept.refl _).alloc _ _).trans hk1⟩
end Go.Proofs.YtnniljhdcplkgaaGreatDoor

namespace Go.Proofs.YtnniljhdcplkgaaGreatDoor
open Go.ChangeShapes Go.WideShapes Go.ChangeAt Go.RowKit
set_option maxHeartbeats 16000000
set_option maxRecDepth 100000
set_option linter.unusedSimpArgs false
theorem neg_64 (b:Int)(s:Int)(hs:bits .xor .i64 b (-9223372036854775808)=s)(w:World):Calls Tryz.prog 151 #[.int .i64 b,.int .i64 64] w fun e w'=>e=.returned (.int .i64 (if cls b 64=4 then 9221120237041090561 else s))∧Kept w w':=by
 go_enter Tryz.func151,Tryz.ntmps151
 go_wp2_with (first|(go_at_call 163;refine(numbers_64 b _).mono ?_;rintro e w1 ⟨rfl,hk1⟩))
 all_goals
  go_ret
  refine⟨ret_int ?_,hk1.alloc _ _⟩
  try unfold wrap64
  (try simp only[Bool.not_eq_true',Bool.not_eq_false',bne_iff_ne,bne_eq_false_iff_eq,beq_iff_eq,beq_eq_false_iff_ne,ne_eq]at *)<;>((repeat' split)<;>omega)
theorem next_64 (b:Int)(hb1:-9223372036854775808≤b)(hb2:b≤9223372036854775807)(g:Int)(hg:bits .and .i64 b (-9223372036854775808)=g)(hx:cls b 64=4∨b≤9218868437227405312)(hq:g=0↔0≤b)(w:World):Calls Tryz.prog 162 #[.int .i64 b,.int .i64 64] w fun e w'=>e=.returned (.int .i64 (if cls b 64=4 then 9221120237041090561 else if b=9218868437227405312 then b else if b=-9223372036854775808 then 1 else if g=0 then b+1 else b-1))∧Kept w w':=by
 go_enter Tryz.func162,Tryz.ntmps162
 go_wp2_with (first|(go_at_call 163;refine(numbers_64 b _).mono ?_;rintro e w1 ⟨rfl,hk1⟩))
 all_goals
  go_ret
  refine⟨ret_int ?_,hk1.alloc _ _⟩
  try unfold wrap64
  (try simp only[Bool.not_eq_true',Bool.not_eq_false',bne_iff_ne,bne_eq_false_iff_eq,beq_iff_eq,beq_eq_false_iff_ne,ne_eq]at *)<;>((repeat' split)<;>omega)
theorem neg_32 (b:Int)(s:Int)(hs:bits .xor .i64 b 2147483648=s)(w:World):Calls Tryz.prog 151 #[.int .i64 b,.int .i64 32] w fun e w'=>e=.returned (.int .i64 (if cls b 32=4 then 2143289345 else s))∧Kept w w':=by
 go_enter Tryz.func151,Tryz.ntmps151
 go_wp2_with (first|(go_at_call 163;refine(numbers_32 b _).mono ?_;rintro e w1 ⟨rfl,hk1⟩))
 all_goals
  go_ret
  refine⟨ret_int ?_,hk1.alloc _ _⟩
  try unfold wrap64
  (try simp only[Bool.not_eq_true',Bool.not_eq_false',bne_iff_ne,bne_eq_false_iff_eq,beq_iff_eq,beq_eq_false_iff_ne,ne_eq]at *)<;>((repeat' split)<;>omega)
theorem next_32 (b:Int)(hb1:-9223372036854775808≤b)(hb2:b≤9223372036854775807)(g:Int)(hg:bits .and .i64 b 2147483648=g)(hx:cls b 32=4∨0≤b∧b<4294967296)(w:World):Calls Tryz.prog 162 #[.int .i64 b,.int .i64 32] w fun e w'=>e=.returned (.int .i64 (if cls b 32=4 then 2143289345 else if b=2139095040 then b else if b=2147483648 then 1 else if g=0 then b+1 else b-1))∧Kept w w':=by
 go_enter Tryz.func162,Tryz.ntmps162
 go_wp2_with (first|(go_at_call 163;refine(numbers_32 b _).mono ?_;rintro e w1 ⟨rfl,hk1⟩))
 all_goals
  go_ret
  refine⟨ret_int ?_,hk1.alloc _ _⟩
  try unfold wrap64
  (try simp only[Bool.not_eq_true',Bool.not_eq_false',bne_iff_ne,bne_eq_false_iff_eq,beq_iff_eq,beq_eq_false_iff_ne,ne_eq]at *)<;>((repeat' split)<;>omega)
theorem neg_0 (b n:Int)(h1:(n==32)=false)(h2:(n==64)=false)(w:World):Calls Tryz.prog 151 #[.int .i64 b,.int .i64 n] w fun e w'=>e=.returned (.int .i64 (0))∧Kept w w':=by
 go_enter Tryz.func151,Tryz.ntmps151
 go_wp2_with (first|(go_at_call 163;refine(numbers_0 b _ h1 h2 _).mono ?_;rintro e w1 ⟨rfl,hk1⟩))
 go_ret
 exact⟨rfl,hk1.alloc _ _⟩
theorem next_0 (b n:Int)(h1:(n==32)=false)(h2:(n==64)=false)(w:World):Calls Tryz.prog 162 #[.int .i64 b,.int .i64 n] w fun e w'=>e=.returned (.int .i64 (0))∧Kept w w':=by
 go_enter Tryz.func162,Tryz.ntmps162
 go_wp2_with (first|(go_at_call 163;refine(numbers_0 b _ h1 h2 _).mono ?_;rintro e w1 ⟨rfl,hk1⟩))
 go_ret
 exact⟨rfl,hk1.alloc _ _⟩
end Go.Proofs.YtnniljhdcplkgaaGreatDoor
namespace Go.Proofs.YtnniljhdcplkgaaGreatDoor
open Go.ChangeShapes Go.WideShapes Go.ChangeAt Go.RowKit
set_option maxHeartbeats 16000000
set_option maxRecDepth 100000
theorem cls_num_64 (b:Int)(h:cls b 64≠4):b%9223372036854775808≤9218868437227405312:=by
 unfold cls clsOf at h
 rw[if_pos rfl]at h
 split at h<;>omega
theorem neg_any (b n:Int)(hb1:-9223372036854775808≤b)(hb2:b≤9223372036854775807)(w:World):Calls Tryz.prog 151 #[.int .i64 b,.int .i64 n] w fun e w'=>e=.returned (.int .i64 (ngt b n))∧Kept w w':=by
 by_cases h64:n=64
 ·subst h64
  refine(neg_64 b _ (xor_min b hb1 hb2) w).mono ?_
  rintro e w' ⟨rfl,hk⟩
  refine⟨ret_int ?_,hk⟩
  by_cases hc:cls b 64=4<;>simp[ngt,isnum,nanOf,hc]
 ·by_cases h32:n=32
  ·subst h32
   refine(neg_32 b _ rfl w).mono ?_
   rintro e w' ⟨rfl,hk⟩
   refine⟨ret_int ?_,hk⟩
   by_cases hc:cls b 32=4
   ·simp[ngt,isnum,nanOf,hc]
   ·have hv:=cls_valid b hc
    rw[xor_31 b hv.1 hv.2]
    simp[ngt,isnum,hc]
  ·refine(neg_0 b n (by simpa using h32) (by simpa using h64) w).mono ?_
   rintro e w' ⟨rfl,hk⟩
   exact⟨ret_int (by simp[ngt,isnum_0 b n h64 h32,nanOf_0 n h64 h32]),hk⟩
theorem next_any (b n:Int)(hb1:-9223372036854775808≤b)(hb2:b≤9223372036854775807)(w:World):Calls Tryz.prog 162 #[.int .i64 b,.int .i64 n] w fun e w'=>e=.returned (.int .i64 (nxt b n))∧Kept w w':=by
 by_cases h64:n=64
 ·subst h64
  refine(next_64 b hb1 hb2 _ (and_min b hb1 hb2) ?_ (by split<;>omega) w).mono ?_
  ·by_cases hc:cls b 64=4
   ·exact Or.inl hc
   ·have:=cls_num_64 b hc
    exact Or.inr (by omega)
  rintro e w' ⟨rfl,hk⟩
  refine⟨ret_int ?_,hk⟩
  by_cases hc:cls b 64=4
  ·simp[nxt,isnum,nanOf,hc]
  ·have hi:isnum b 64=true:=by simp[isnum,hc]
   unfold nxt
   rw[if_neg hc,if_pos hi,if_pos rfl]
   (repeat' split)<;>omega
 ·by_cases h32:n=32
  ·subst h32
   refine(next_32 b hb1 hb2 _ rfl ?_ w).mono ?_
   ·by_cases hc:cls b 32=4
    ·exact Or.inl hc
    ·exact Or.inr (cls_valid b hc)
   rintro e w' ⟨rfl,hk⟩
   refine⟨ret_int ?_,hk⟩
   by_cases hc:cls b 32=4
   ·simp[nxt,isnum,nanOf,hc]
   ·have hv:=cls_valid b hc
    have hi:isnum b 32=true:=by simp[isnum,hc]
    rw[and_31 b hv.1 hv.2]
    unfold nxt
    rw[if_neg hc,if_pos hi,if_neg (by decide:¬(32:Int)=64)]
    (repeat' split)<;>omega
  ·refine(next_0 b n (by simpa using h32) (by simpa using h64) w).mono ?_
   rintro e w' ⟨rfl,hk⟩
   exact⟨ret_int (by simp[nxt,isnum_0 b n h64 h32,nanOf_0 n h64 h32]),hk⟩
theorem nanOf_bd (n:Int):-9223372036854775808≤nanOf n∧nanOf n≤9223372036854775807:=by
 unfold nanOf
 (repeat' split)<;>omega
theorem isnum_inv (b n:Int)(h:isnum b n=true):(n=64∧cls b 64≠4)∨(n=32∧cls b 32≠4):=by
 simp only[isnum,decide_eq_true_eq]at h
 rcases h with ⟨rfl|rfl,h⟩
 ·exact Or.inl ⟨rfl,h⟩
 ·exact Or.inr ⟨rfl,h⟩
theorem ngt_bd (b n:Int)(hb1:-9223372036854775808≤b)(hb2:b≤9223372036854775807):-9223372036854775808≤ngt b n∧ngt b n≤9223372036854775807:=by
 have:=nanOf_bd n
 by_cases hi:isnum b n=true
 ·rcases isnum_inv b n hi with ⟨rfl,hc⟩|⟨rfl,hc⟩
  ·unfold ngt;rw[if_pos hi,if_pos rfl];split<;>omega
  ·have hv:=cls_valid b hc
   unfold ngt;rw[if_pos hi,if_neg (by decide:¬(32:Int)=64)];split<;>omega
 ·unfold ngt;rw[if_neg hi];exact this
theorem nxt_bd (b n:Int)(hb1:-9223372036854775808≤b)(hb2:b≤9223372036854775807):-9223372036854775808≤nxt b n∧nxt b n≤9223372036854775807:=by
 have:=nanOf_bd n
 by_cases hi:isnum b n=true
 ·rcases isnum_inv b n hi with ⟨rfl,hc⟩|⟨rfl,hc⟩
  ·have:=cls_num_64 b hc
   unfold nxt;rw[if_pos hi,if_pos rfl];(repeat' split)<;>omega
  ·have hv:=cls_valid b hc
   unfold nxt;rw[if_pos hi,if_neg (by decide:¬(32:Int)=64)];(repeat' split)<;>omega
 ·unfold nxt;rw[if_neg hi];exact this
def prv (b n:Int):Int:=ngt (nxt (ngt b n) n) n
theorem prev_any (b n:Int)(hb1:-9223372036854775808≤b)(hb2:b≤9223372036854775807)(w:World):Calls Tryz.prog 150 #[.int .i64 b,.int .i64 n] w fun e w'=>e=.returned (.int .i64 (prv b n))∧Kept w w':=by
 have q1:=ngt_bd b n hb1 hb2
 have q2:=nxt_bd (ngt b n) n q1.1 q1.2
 go_enter Tryz.func150,Tryz.ntmps150
 go_wp2_with fail
 refine(neg_any b n hb1 hb2 _).mono ?_
 rintro e w1 ⟨rfl,hk1⟩
 go_wp2_with fail
 refine(next_any (ngt b n) n q1.1 q1.2 _).mono ?_
 rintro e w2 ⟨rfl,hk2⟩
 go_wp2_with fail
 refine(neg_any (nxt (ngt b n) n) n q2.1 q2.2 _).mono ?_
 rintro e w3 ⟨rfl,hk3⟩
 go_wp2
 go_ret
 exact⟨rfl,(hk1.trans hk2).trans hk3⟩
end Go.Proofs.YtnniljhdcplkgaaGreatDoor
