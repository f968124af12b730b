/-  -/
import Derived.Test.YtaglkncdedeipaaGreatDoorWs30
import Derived.Test.YtaglkncdedeipaaGreatDoorWs04
namespace Go.Proofs.YtaglkncdedeipaaGreatDoor
open Go.ChangeShapes Go.WideShapes Go.ChangeAt Go.RowKit
set_option linter.unusedVariables false
set_option linter.unusedSimpArgs false
set_option maxHeartbeats 16000000
set_option maxRecDepth 100000
theorem jd (o i:Nat):(o:Int)*2^i=((o*2^i:Nat):Int):=by simp
theorem qfr (m:Nat)(u:Int)(hm0:0<m)(hm:m≤9007199254740992)(hu:-1074≤u)(hs:m<4503599627370496→u=-1074)(ho2:u≤971)(ho3:m=9007199254740992→u≤970)(q:Int)(hq:q=(u+1074)*4503599627370496+m):∀w,Calls Tryz.prog 189 #[.bool false,.int .i64 m,.int .i64 u,.int .i64 64] w fun e w'=>e=.returned (.tuple #[.int .i64 q,.bool true])∧Kept w w':=by
 by_cases h2:m=9007199254740992
 ·have g:=ho3 h2
  have Ks:Hid (∀w:World,Calls Tryz.prog 190 #[.agg #[.int .i64 64,.int .i64 53,.int .i64 4503599627370496,.int .i64 2047,.int .i64 (-1074),.int .i64 1024,.int .i64 9218868437227405312,.int .i64 (-9223372036854775808),.int .i64 9221120237041090561],.int .i64 (m:Int),.int .i64 u] w fun r w'=>r=.returned (.tuple #[.int .i64 4503599627370496,.int .i64 (u+((53:Nat):Int)-((52:Nat):Int)),.bool true])∧Kept w w'):=fun w=>
   xm (m:Int) u 1 53 (by rw[h2];decide+kernel) (by rw[h2];decide) (by omega) (by decide) (by omega) (by omega) (by omega) (by omega) (by omega) 52 4503599627370496 (by decide+kernel) (fun i hi=>⟨by
    rw[Int.one_mul]
    have:(2:Nat)^i<2^52:=Nat.pow_lt_pow_right (by omega) hi
    have h3:(2:Nat)^52=4503599627370496:=by decide+kernel
    rw[h3]at this
    have h4:((2^i:Nat):Int)<4503599627370496:=by omega
    simpa using h4,by omega⟩) (by omega) (Or.inr ⟨by omega,by omega⟩) w
  intro w
  exact QC false (m:Int) u 4503599627370496 (u+((53:Nat):Int)-((52:Nat):Int)) q (by omega) (by omega) (by omega) (by omega) (by omega) (by omega) (by omega) (by omega) (by simp only[Bool.false_eq_true,if_false];omega) Ks w
 ·obtain⟨o,ho1,hmo⟩:=zU m (by omega)
  generalize hk:tzn m=k at *
  have hp:=qht k
  have ho0:0<o:=by omega
  have hk64:k<64:=by
   apply Decidable.byContradiction
   intro hc
   have h1:2^64≤2^k:=qhw (by omega) (by omega)
   have h3:2^k≤o*2^k:=Nat.le_mul_of_pos_left _ ho0
   have h4:(2:Nat)^64=18446744073709551616:=by decide+kernel
   omega
  have hle:∀i,i<k→2*(o*2^i)≤m:=fun i hi=>by
   have h1:2^(i+1)≤2^k:=qhw (by omega) (by omega)
   have h3:=Nat.mul_le_mul_left o h1
   rw[qh5,←qhz]at h3
   omega
  have hom:o≤m:=by
   have:=Nat.le_mul_of_pos_right o hp
   omega
  have Ks:Hid (∀w:World,Calls Tryz.prog 190 #[.agg #[.int .i64 64,.int .i64 53,.int .i64 4503599627370496,.int .i64 2047,.int .i64 (-1074),.int .i64 1024,.int .i64 9218868437227405312,.int .i64 (-9223372036854775808),.int .i64 9221120237041090561],.int .i64 (m:Int),.int .i64 u] w fun r w'=>r=.returned (.tuple #[.int .i64 (m:Int),.int .i64 (u+(k:Int)-(k:Int)),.bool true])∧Kept w w'):=fun w=>
   xm (m:Int) u (o:Int) k (by rw[jd];omega) (by omega) (by omega) (by omega) hk64 (by omega) (by omega) (by omega) (by omega) k (m:Int) (by rw[jd];omega) (fun i hi=>⟨by rw[jd];have:=hle i hi;omega,by omega⟩) (by omega) (by
    by_cases h5:u=-1074
    ·left;omega
    ·right;exact⟨by omega,by omega⟩) w
  intro w
  exact QC false (m:Int) u (m:Int) (u+(k:Int)-(k:Int)) q (by omega) (by omega) (by omega) (by omega) (by omega) (by omega) (by omega) (by omega) (by simp only[Bool.false_eq_true,if_false];omega) Ks w
theorem Yp (m:Nat)(u:Int)(hm:m≤9007199254740992)(hu:-1074≤u)(hs:m<4503599627370496→u=-1074)(ho2:u≤971)(ho3:m=9007199254740992→u≤970)(q:Int)(hq:q=(u+1074)*4503599627370496+m)(w:World):Calls Tryz.prog 188 #[.agg #[.int .i64 64,.int .i64 53,.int .i64 4503599627370496,.int .i64 2047,.int .i64 (-1074),.int .i64 1024,.int .i64 9218868437227405312,.int .i64 (-9223372036854775808),.int .i64 9221120237041090561],.int .i64 m,.int .i64 u] w fun e w'=>e=.returned (.int .i64 q)∧Kept w w':=by
 have Kj:Hid (∀w,Calls Tryz.prog 189 #[.bool false,.int .i64 m,.int .i64 u,.int .i64 64] w fun e w'=>e=.returned (.tuple #[.int .i64 q,.bool true])∧Kept w w'):=by
  by_cases h0:m=0
  ·subst h0
   obtain rfl:q=0:=by have:=hs (by omega);omega
   exact fun w=>X8 false u w
  ·exact qfr m u (by omega) hm hu hs ho2 ho3 q hq
 clear hq hs ho2 ho3 hm hu
 generalize (m:Int)=mi at *
 go_enter Tryz.func188,Tryz.ntmps188
 go_wp2_with (first|(go_at_call 189;refine(Kj.out _).mono ?_;rintro e w1 ⟨rfl,hk1⟩))
 go_ret
 exact⟨rfl,((qia _).alloc _ _).trans hk1⟩
theorem qfs (m:Nat)(u:Int)(hm0:0<m)(hm:m≤16777216)(hu:-149≤u)(hs:m<8388608→u=-149)(ho2:u≤104)(ho3:m=16777216→u≤103)(q:Int)(hq:q=(u+149)*8388608+m):∀w,Calls Tryz.prog 189 #[.bool false,.int .i64 m,.int .i64 u,.int .i64 32] w fun e w'=>e=.returned (.tuple #[.int .i64 q,.bool true])∧Kept w w':=by
 by_cases h2:m=16777216
 ·have g:=ho3 h2
  have Ks:Hid (∀w:World,Calls Tryz.prog 190 #[.agg #[.int .i64 32,.int .i64 24,.int .i64 8388608,.int .i64 255,.int .i64 (-149),.int .i64 128,.int .i64 2139095040,.int .i64 2147483648,.int .i64 2143289345],.int .i64 (m:Int),.int .i64 u] w fun r w'=>r=.returned (.tuple #[.int .i64 8388608,.int .i64 (u+((24:Nat):Int)-((23:Nat):Int)),.bool true])∧Kept w w'):=fun w=>
   xo (m:Int) u 1 24 (by rw[h2];decide+kernel) (by rw[h2];decide) (by omega) (by decide) (by omega) (by omega) (by omega) (by omega) (by omega) 23 8388608 (by decide+kernel) (fun i hi=>⟨by
    rw[Int.one_mul]
    have:(2:Nat)^i<2^23:=Nat.pow_lt_pow_right (by omega) hi
    have h3:(2:Nat)^23=8388608:=by decide+kernel
    rw[h3]at this
    have h4:((2^i:Nat):Int)<8388608:=by omega
    simpa using h4,by omega⟩) (by omega) (Or.inr ⟨by omega,by omega⟩) w
  intro w
  exact QD false (m:Int) u 8388608 (u+((24:Nat):Int)-((23:Nat):Int)) q (by omega) (by omega) (by omega) (by omega) (by omega) (by omega) (by omega) (by omega) (by simp only[Bool.false_eq_true,if_false];omega) Ks w
 ·obtain⟨o,ho1,hmo⟩:=zU m (by omega)
  generalize hk:tzn m=k at *
  have hp:=qht k
  have ho0:0<o:=by omega
  have hk64:k<64:=by
   apply Decidable.byContradiction
   intro hc
   have h1:2^64≤2^k:=qhw (by omega) (by omega)
   have h3:2^k≤o*2^k:=Nat.le_mul_of_pos_left _ ho0
   have h4:(2:Nat)^64=18446744073709551616:=by decide+kernel
   omega
  have hle:∀i,i<k→2*(o*2^i)≤m:=fun i hi=>by
   have h1:2^(i+1)≤2^k:=qhw (by omega) (by omega)
   have h3:=Nat.mul_le_mul_left o h1
   rw[qh5,←qhz]at h3
   omega
  have hom:o≤m:=by
   have:=Nat.le_mul_of_pos_right o hp
   omega
  have Ks:Hid (∀w:World,Calls Tryz.prog 190 #[.agg #[.int .i64 32,.int .i64 24,.int .i64 8388608,.int .i64 255,.int .i64 (-149),.int .i64 128,.int .i64 2139095040,.int .i64 2147483648,.int .i64 2143289345],.int .i64 (m:Int),.int .i64 u] w fun r w'=>r=.returned (.tuple #[.int .i64 (m:Int),.int .i64 (u+(k:Int)-(k:Int)),.bool true])∧Kept w w'):=fun w=>
   xo (m:Int) u (o:Int) k (by rw[jd];omega) (by omega) (by omega) (by omega) hk64 (by omega) (by omega) (by omega) (by omega) k (m:Int) (by rw[jd];omega) (fun i hi=>⟨by rw[jd];have:=hle i hi;omega,by omega⟩) (by omega) (by
    by_cases h5:u=-149
    ·left;omega
    ·right;exact⟨by omega,by omega⟩) w
  intro w
  exact QD false (m:Int) u (m:Int) (u+(k:Int)-(k:Int)) q (by omega) (by omega) (by omega) (by omega) (by omega) (by omega) (by omega) (by omega) (by simp only[Bool.false_eq_true,if_false];omega) Ks w
theorem Yq (m:Nat)(u:Int)(hm:m≤16777216)(hu:-149≤u)(hs:m<8388608→u=-149)(ho2:u≤104)(ho3:m=16777216→u≤103)(q:Int)(hq:q=(u+149)*8388608+m)(w:World):Calls Tryz.prog 188 #[.agg #[.int .i64 32,.int .i64 24,.int .i64 8388608,.int .i64 255,.int .i64 (-149),.int .i64 128,.int .i64 2139095040,.int .i64 2147483648,.int .i64 2143289345],.int .i64 m,.int .i64 u] w fun e w'=>e=.returned (.int .i64 q)∧Kept w w':=by
 have Kj:Hid (∀w,Calls Tryz.prog 189 #[.bool false,.int .i64 m,.int .i64 u,.int .i64 32] w fun e w'=>e=.returned (.tuple #[.int .i64 q,.bool true])∧Kept w w'):=by
  by_cases h0:m=0
  ·subst h0
   obtain rfl:q=0:=by have:=hs (by omega);omega
   exact fun w=>X9 false u w
  ·exact qfs m u (by omega) hm hu hs ho2 ho3 q hq
 clear hq hs ho2 ho3 hm hu
 generalize (m:Int)=mi at *
 go_enter Tryz.func188,Tryz.ntmps188
 go_wp2_with (first|(go_at_call 189;refine(Kj.out _).mono ?_;rintro e w1 ⟨rfl,hk1⟩))
 go_ret
 exact⟨rfl,((qia _).alloc _ _).trans hk1⟩
theorem QW (V a:Nat)(h:0<a):V*2^a%2=0:=by
 obtain⟨b,rfl⟩:∃b,a=b+1:=⟨a-1,by omega⟩
 rw[qh5,←qhz,Nat.mul_mod_left]
theorem Z2 (V:Nat)(low:Int):Z0 V (low-1)=decide (flo V (1-low)%2=1):=by
 unfold Z0 flo
 by_cases h:low-1<0
 ·rw[if_pos h,if_pos (by omega),QW _ _ (by omega)]
  rfl
 ·rw[if_neg h]
  by_cases h1:low=1
  ·subst h1;simp
  ·rw[if_neg (by omega),show -(1-low)=low-1 by omega]
theorem Z3 (V:Nat)(hV:V≠0)(low:Int):rst V (1-low)=decide (0<low-1∧(tzn V:Int)<low-1):=by
 unfold rst
 by_cases h:0≤1-low
 ·rw[if_pos h,qh3 (by omega)]
 ·rw[if_neg h,show -(1-low)=low-1 by omega]
  obtain⟨o,ho,hVo⟩:=zU V hV
  obtain⟨q,hq⟩:∃q:Nat,(low-1).toNat=q:=⟨_,rfl⟩
  rw[hq]
  generalize tzn V=t at *
  by_cases ht:t<q
  ·rw[qh2 (by omega),bne_iff_ne]
   intro h0
   have h2:V%2^(t+1)=0:=by
    have:2^(t+1)∣2^q:=Nat.pow_dvd_pow 2 (by omega)
    exact Nat.mod_eq_zero_of_dvd (Nat.dvd_trans this (Nat.dvd_of_mod_eq_zero h0))
   rw[hVo,qh5,qh0 o,Nat.mul_mod_mul_left,ho,Nat.mul_one]at h2
   have:=qht t
   omega
  ·rw[qh3 (by omega)]
   have:V%2^q=0:=by
    rw[hVo]
    exact Nat.mod_eq_zero_of_dvd (Nat.dvd_trans (Nat.pow_dvd_pow 2 (by omega)) (Nat.dvd_mul_left _ _))
   rw[this]
   rfl
theorem Z4 (V:Nat)(x u:Int)(h:0≤u-x):V/2^(u-x).toNat=flo V (x-u):=by
 unfold flo
 by_cases h1:u=x
 ·subst h1;simp
 ·rw[if_neg (by omega),show -(x-u)=u-x by omega]
theorem Z5 (V:Nat)(x u:Int)(h:u-x<0):V*2^(-(u-x)).toNat=flo V (x-u):=by
 unfold flo
 rw[if_pos (by omega),show -(u-x)=x-u by omega]
theorem xz {a b:Int}{p q:Bool}(h:a=b)(h2:p=q):Ending.returned (.tuple #[.int .i64 a,.bool p])=.returned (.tuple #[.int .i64 b,.bool q]):=by rw[h,h2]
theorem qfb (way:Int)(ng:Bool)(inf F:Nat)(od hf rt:Bool)(a:Nat)(ha:a=(awz way ng od hf rt).toNat)(h:¬inf≤F+a):mgz way ng inf F od hf rt=F+a∧odz way ng inf F od hf rt=(hf||rt):=by
 unfold mgz odz
 rw[←ha,if_pos (by omega),qh3 h,Bool.or_false]
 exact⟨rfl,rfl⟩
theorem Kx (way:Int)(ng:Bool)(inf F:Nat)(od hf rt:Bool)(a:Nat)(ha:a=(awz way ng od hf rt).toNat)(h:inf≤F+a):mgz way ng inf F od hf rt=(if awz way ng false true true=true then inf else inf-1)∧odz way ng inf F od hf rt=true:=by
 unfold mgz odz
 rw[←ha,if_neg (by omega),qh2 h,Bool.or_true]
 exact⟨rfl,rfl⟩
theorem kR (V:Nat)(hV:V≠0)(x u:Int)(hu:unz 53 (-1074) (bl V) x=u)(k:Nat)(hk:flo V (x-u)=k):k<9007199254740992∧(u=-1074∨4503599627370496≤k)∧-1074≤u∧(u=-1074∨u=x+(bl V:Int)-53):=by
 obtain⟨h1,h2,h3⟩:=qJ V hV
 have:=jy 53 (-1074) V (bl V) x (by omega) h1 h2 h3
 rw[hu,hk]at this
 have e1:(2:Nat)^53=9007199254740992:=by decide+kernel
 have e2:(2:Nat)^(53-1)=4503599627370496:=by decide+kernel
 rw[e1,e2]at this
 unfold unz at hu
 refine⟨this.1,this.2,by omega,by omega⟩
theorem Z6 (m:Nat)(h1:4503599627370496≤m)(h2:m≤9007199254740992):bl m=if m=9007199254740992 then 54 else 53:=by
 have e1:(2:Nat)^53=9007199254740992:=by decide+kernel
 have e2:(2:Nat)^52=4503599627370496:=by decide+kernel
 have e3:(2:Nat)^54=18014398509481984:=by decide+kernel
 split
 ·exact Qx m 53 (by omega) (by omega)
 ·exact Qx m 52 (by omega) (by omega)
theorem qc5 (u:Int)(k a F:Nat)(ha:a≤1)(hk:k<9007199254740992)(hl:-1074≤u)(hs:u=-1074∨4503599627370496≤k)(hF:F=(u-(-1074)).toNat*4503599627370496+k):(4503599627370496≤k+a∧1024<(bl (k+a):Int)+u)↔9218868437227405312≤F+a:=by
 obtain⟨j,hj⟩:∃j:Nat,u=-1074+(j:Int):=⟨(u-(-1074)).toNat,by omega⟩
 have hj2:(u-(-1074)).toNat=j:=by omega
 rw[hj2]at hF
 by_cases hc:4503599627370496≤k+a
 ·rw[Z6 _ hc (by omega)]
  split
  ·constructor
   ·rintro⟨-,g⟩;omega
   ·intro g;exact⟨hc,by omega⟩
  ·constructor
   ·rintro⟨-,g⟩;omega
   ·intro g;exact⟨hc,by omega⟩
 ·constructor
  ·rintro⟨g,-⟩;exact absurd g hc
  ·intro g
   have:j=0:=by omega
   subst this
   omega
theorem kS (V:Nat)(hV:V≠0)(x u:Int)(hu:unz 24 (-149) (bl V) x=u)(k:Nat)(hk:flo V (x-u)=k):k<16777216∧(u=-149∨8388608≤k)∧-149≤u∧(u=-149∨u=x+(bl V:Int)-24):=by
 obtain⟨h1,h2,h3⟩:=qJ V hV
 have:=jy 24 (-149) V (bl V) x (by omega) h1 h2 h3
 rw[hu,hk]at this
 have e1:(2:Nat)^24=16777216:=by decide+kernel
 have e2:(2:Nat)^(24-1)=8388608:=by decide+kernel
 rw[e1,e2]at this
 unfold unz at hu
 refine⟨this.1,this.2,by omega,by omega⟩
theorem Z7 (m:Nat)(h1:8388608≤m)(h2:m≤16777216):bl m=if m=16777216 then 25 else 24:=by
 have e1:(2:Nat)^24=16777216:=by decide+kernel
 have e2:(2:Nat)^23=8388608:=by decide+kernel
 have e3:(2:Nat)^25=33554432:=by decide+kernel
 split
 ·exact Qx m 24 (by omega) (by omega)
 ·exact Qx m 23 (by omega) (by omega)
theorem qc6 (u:Int)(k a F:Nat)(ha:a≤1)(hk:k<16777216)(hl:-149≤u)(hs:u=-149∨8388608≤k)(hF:F=(u-(-149)).toNat*8388608+k):(8388608≤k+a∧128<(bl (k+a):Int)+u)↔2139095040≤F+a:=by
 obtain⟨j,hj⟩:∃j:Nat,u=-149+(j:Int):=⟨(u-(-149)).toNat,by omega⟩
 have hj2:(u-(-149)).toNat=j:=by omega
 rw[hj2]at hF
 by_cases hc:8388608≤k+a
 ·rw[Z7 _ hc (by omega)]
  split
  ·constructor
   ·rintro⟨-,g⟩;omega
   ·intro g;exact⟨hc,by omega⟩
  ·constructor
   ·rintro⟨-,g⟩;omega
   ·intro g;exact⟨hc,by omega⟩
 ·constructor
  ·rintro⟨g,-⟩;exact absurd g hc
  ·intro g
   have:j=0:=by omega
   subst this
   omega
structure K9 (u:World) (B:Nat) (a0 a1 a2 a3 a4 a5 a6 a7 a8:Value):Prop where
 lt:B<u.heap.size
 c0:u.cell? ⟨B,0,none⟩=some a0
 c1:u.cell? ⟨B,1,none⟩=some a1
 c2:u.cell? ⟨B,2,none⟩=some a2
 c3:u.cell? ⟨B,3,none⟩=some a3
 c4:u.cell? ⟨B,4,none⟩=some a4
 c5:u.cell? ⟨B,5,none⟩=some a5
 c6:u.cell? ⟨B,6,none⟩=some a6
 c7:u.cell? ⟨B,7,none⟩=some a7
 c8:u.cell? ⟨B,8,none⟩=some a8
theorem K9.kept {u u':World}{B:Nat}{a0 a1 a2 a3 a4 a5 a6 a7 a8:Value}(h:K9 u B a0 a1 a2 a3 a4 a5 a6 a7 a8)(k:Kept u u'):K9 u' B a0 a1 a2 a3 a4 a5 a6 a7 a8:=
 ⟨qhu h.lt k.below.size,(k.below.cell (p:=⟨B,0,none⟩) h.lt).trans h.c0,(k.below.cell (p:=⟨B,1,none⟩) h.lt).trans h.c1,(k.below.cell (p:=⟨B,2,none⟩) h.lt).trans h.c2,(k.below.cell (p:=⟨B,3,none⟩) h.lt).trans h.c3,(k.below.cell (p:=⟨B,4,none⟩) h.lt).trans h.c4,(k.below.cell (p:=⟨B,5,none⟩) h.lt).trans h.c5,(k.below.cell (p:=⟨B,6,none⟩) h.lt).trans h.c6,(k.below.cell (p:=⟨B,7,none⟩) h.lt).trans h.c7,(k.below.cell (p:=⟨B,8,none⟩) h.lt).trans h.c8⟩
theorem K9.new (w:World)(a0 a1 a2 a3 a4 a5 a6 a7 a8:Value)(t:TypeId):K9 (w.alloc (.cells #[a0,a1,a2,a3,a4,a5,a6,a7,a8] t)) w.heap.size a0 a1 a2 a3 a4 a5 a6 a7 a8:=
 ⟨by simp[go_sem],by simp[go_sem],by simp[go_sem],by simp[go_sem],by simp[go_sem],by simp[go_sem],by simp[go_sem],by simp[go_sem],by simp[go_sem],by simp[go_sem]⟩
end Go.Proofs.YtaglkncdedeipaaGreatDoor
