/-  -/
import Derived.Test.YtelbefihigkhjaaGreatDoorWm03
import Derived.Test.YtelbefihigkhjaaGreatDoorWm02
import Derived.Test.YtelbefihigkhjaaGreatDoorWm01
import Derived.Deep.RegionHeld
namespace Go.Proofs.YtelbefihigkhjaaGreatDoor
open Go.ChangeShapes Go.WideShapes Go.ChangeAt Go.RowKit
set_option maxHeartbeats 16000000
set_option maxRecDepth 100000
theorem xD (w:World):Calls Tryz.prog 116 #[.int .i64 64] w fun e w'=>e=.returned (.tuple #[.agg #[.int .i64 64,.int .i64 53,.int .i64 4503599627370496,.int .i64 2047,.int .i64 (-1074),.int .i64 1024,.int .i64 9218868437227405312,.int .i64 (-9223372036854775808),.int .i64 9221120237041090561],.bool true])∧Kept w w':=by
 go_enter Tryz.func116,Tryz.ntmps116
 go_wp2
 exact qlu (v:=.tuple #[.agg #[.int .i64 64,.int .i64 53,.int .i64 4503599627370496,.int .i64 2047,.int .i64 (-1074),.int .i64 1024,.int .i64 9218868437227405312,.int .i64 (-9223372036854775808),.int .i64 9221120237041090561],.bool true]) (by simp[results,Tryz.results116,go_sem]) rfl ⟨rfl,(qlv _).alloc _ _⟩
theorem xE (w:World):Calls Tryz.prog 116 #[.int .i64 32] w fun e w'=>e=.returned (.tuple #[.agg #[.int .i64 32,.int .i64 24,.int .i64 8388608,.int .i64 255,.int .i64 (-149),.int .i64 128,.int .i64 2139095040,.int .i64 2147483648,.int .i64 2143289345],.bool true])∧Kept w w':=by
 go_enter Tryz.func116,Tryz.ntmps116
 go_wp2
 exact qlu (v:=.tuple #[.agg #[.int .i64 32,.int .i64 24,.int .i64 8388608,.int .i64 255,.int .i64 (-149),.int .i64 128,.int .i64 2139095040,.int .i64 2147483648,.int .i64 2143289345],.bool true]) (by simp[results,Tryz.results116,go_sem]) rfl ⟨rfl,(qlv _).alloc _ _⟩
theorem qgw (n:Int)(h1:(n==32)=false)(h2:(n==64)=false)(w:World):Calls Tryz.prog 116 #[.int .i64 n] w fun e w'=>e=.returned (.tuple #[.agg #[.int .i64 0,.int .i64 0,.int .i64 0,.int .i64 0,.int .i64 0,.int .i64 0,.int .i64 0,.int .i64 0,.int .i64 0],.bool false])∧Kept w w':=by
 go_enter Tryz.func116,Tryz.ntmps116
 go_wp2
 exact qlu (v:=.tuple #[.agg #[.int .i64 0,.int .i64 0,.int .i64 0,.int .i64 0,.int .i64 0,.int .i64 0,.int .i64 0,.int .i64 0,.int .i64 0],.bool false]) (by simp[results,Tryz.results116,go_sem]) rfl ⟨rfl,(qlv _).alloc _ _⟩
theorem VM (b:Int)(h0:0≤b)(hu:b≤9223372036854775807)(w:World):Calls Tryz.prog 171 #[.agg #[.int .i64 64,.int .i64 53,.int .i64 4503599627370496,.int .i64 2047,.int .i64 (-1074),.int .i64 1024,.int .i64 9218868437227405312,.int .i64 (-9223372036854775808),.int .i64 9221120237041090561],.int .i64 b] w fun e w'=>e=.returned (.tuple #[.bool false,.int .i64 (b/4503599627370496),.int .i64 (b%4503599627370496),.bool true])∧Kept w w':=by
 go_enter Tryz.func171,Tryz.ntmps171
 go_wp2
 go_quiet (fail)
 go_wp2
 exact qlu (v:=.tuple #[.bool false,.int .i64 (b/4503599627370496),.int .i64 (b%4503599627370496),.bool true]) (by simp[results,Tryz.results171,go_sem,h0]) rfl ⟨rfl,(((qlv _).alloc _ _).drewN _)⟩
theorem VO (b:Int)(h0:b<0)(hu:-9223372036854775808≤b)(w:World):Calls Tryz.prog 171 #[.agg #[.int .i64 64,.int .i64 53,.int .i64 4503599627370496,.int .i64 2047,.int .i64 (-1074),.int .i64 1024,.int .i64 9218868437227405312,.int .i64 (-9223372036854775808),.int .i64 9221120237041090561],.int .i64 b] w fun e w'=>e=.returned (.tuple #[.bool true,.int .i64 ((b- -9223372036854775808)/4503599627370496),.int .i64 ((b- -9223372036854775808)%4503599627370496),.bool true])∧Kept w w':=by
 go_enter Tryz.func171,Tryz.ntmps171
 go_wp2
 go_quiet (fail)
 go_wp2
 exact qlu (v:=.tuple #[.bool true,.int .i64 ((b- -9223372036854775808)/4503599627370496),.int .i64 ((b- -9223372036854775808)%4503599627370496),.bool true]) (by simp[results,Tryz.results171,go_sem]) rfl ⟨rfl,(((qlv _).alloc _ _).drewN _)⟩
theorem VP (b:Int)(h0:b<0)(w:World):Calls Tryz.prog 171 #[.agg #[.int .i64 32,.int .i64 24,.int .i64 8388608,.int .i64 255,.int .i64 (-149),.int .i64 128,.int .i64 2139095040,.int .i64 2147483648,.int .i64 2143289345],.int .i64 b] w fun e w'=>e=.returned (.tuple #[.bool false,.int .i64 0,.int .i64 0,.bool false])∧Kept w w':=by
 go_enter Tryz.func171,Tryz.ntmps171
 go_wp2
 exact qlu (v:=.tuple #[.bool false,.int .i64 0,.int .i64 0,.bool false]) (by simp[results,Tryz.results171,go_sem]) rfl ⟨rfl,((qlv _).alloc _ _)⟩
theorem VQ (b:Int)(h0:4294967296≤b)(w:World):Calls Tryz.prog 171 #[.agg #[.int .i64 32,.int .i64 24,.int .i64 8388608,.int .i64 255,.int .i64 (-149),.int .i64 128,.int .i64 2139095040,.int .i64 2147483648,.int .i64 2143289345],.int .i64 b] w fun e w'=>e=.returned (.tuple #[.bool false,.int .i64 0,.int .i64 0,.bool false])∧Kept w w':=by
 go_enter Tryz.func171,Tryz.ntmps171
 go_wp2
 exact qlu (v:=.tuple #[.bool false,.int .i64 0,.int .i64 0,.bool false]) (by simp[results,Tryz.results171,go_sem]) rfl ⟨rfl,((qlv _).alloc _ _)⟩
theorem VR (b:Int)(h0:0≤b)(hu:b<4294967296)(w:World):Calls Tryz.prog 171 #[.agg #[.int .i64 32,.int .i64 24,.int .i64 8388608,.int .i64 255,.int .i64 (-149),.int .i64 128,.int .i64 2139095040,.int .i64 2147483648,.int .i64 2143289345],.int .i64 b] w fun e w'=>e=.returned (.tuple #[.bool (decide (2147483648≤b)),.int .i64 (b%2147483648/8388608),.int .i64 (b%8388608),.bool true])∧Kept w w':=by
 go_enter Tryz.func171,Tryz.ntmps171
 go_wp2
 go_quiet (fail)
 go_wp2
 exact qlu (v:=.tuple #[.bool (decide (2147483648≤b)),.int .i64 (b%2147483648/8388608),.int .i64 (b%8388608),.bool true]) (by simp[results,Tryz.results171,go_sem]) rfl ⟨rfl,(((qlv _).alloc _ _).drewN _)⟩
def thr (b:Int):Bool:=decide (0≤b∧b<4294967296)
def zS (b:Int):Int:=b%9223372036854775808/4503599627370496
def jm (b:Int):Int:=b%4503599627370496
def jg (b:Int):Int:=if thr b=true then b%2147483648/8388608 else 0
def jy (b:Int):Int:=if thr b=true then b%8388608 else 0
def jo (b:Int):Bool:=thr b&&sgn b 32
theorem Jk (b:Int)(hb1:-9223372036854775808≤b)(hb2:b≤9223372036854775807)(w:World):Calls Tryz.prog 171 #[.agg #[.int .i64 64,.int .i64 53,.int .i64 4503599627370496,.int .i64 2047,.int .i64 (-1074),.int .i64 1024,.int .i64 9218868437227405312,.int .i64 (-9223372036854775808),.int .i64 9221120237041090561],.int .i64 b] w fun e w'=>e=.returned (.tuple #[.bool (sgn b 64),.int .i64 (zS b),.int .i64 (jm b),.bool true])∧Kept w w':=by
 by_cases h:0≤b
 ·refine(VM b h hb2 w).mono ?_
  rintro e w' ⟨rfl,hk⟩
  exact⟨qK (by simp[sgn];omega) (by unfold zS;omega) (by unfold jm;omega) rfl,hk⟩
 ·refine(VO b (by omega) hb1 w).mono ?_
  rintro e w' ⟨rfl,hk⟩
  exact⟨qK (by simp[sgn];omega) (by unfold zS;omega) (by unfold jm;omega) rfl,hk⟩
theorem Jl (b:Int)(w:World):Calls Tryz.prog 171 #[.agg #[.int .i64 32,.int .i64 24,.int .i64 8388608,.int .i64 255,.int .i64 (-149),.int .i64 128,.int .i64 2139095040,.int .i64 2147483648,.int .i64 2143289345],.int .i64 b] w fun e w'=>e=.returned (.tuple #[.bool (jo b),.int .i64 (jg b),.int .i64 (jy b),.bool (thr b)])∧Kept w w':=by
 by_cases hv:0≤b∧b<4294967296
 ·have ht:thr b=true:=by simp[thr,hv]
  refine(VR b hv.1 hv.2 w).mono ?_
  rintro e w' ⟨rfl,hk⟩
  exact⟨qK (by simp[jo,ht,sgn]) (by simp[jg,ht]) (by simp[jy,ht]) ht.symm,hk⟩
 ·have ht:thr b=false:=by simp[thr];omega
  by_cases h:b<0
  ·refine(VP b h w).mono ?_
   rintro e w' ⟨rfl,hk⟩
   exact⟨qK (by simp[jo,ht]) (by simp[jg,ht]) (by simp[jy,ht]) ht.symm,hk⟩
  ·refine(VQ b (by omega) w).mono ?_
   rintro e w' ⟨rfl,hk⟩
   exact⟨qK (by simp[jo,ht]) (by simp[jg,ht]) (by simp[jy,ht]) ht.symm,hk⟩
theorem qd3 {a b:Bool}(h:a=b):Ending.returned (.bool a)=.returned (.bool b):=by rw[h]
theorem qar (b:Int):cls b 64=if (zS b=2047∧0<jm b)then 4 else if zS b=2047 then 3 else if 0<zS b then 2 else if 0<jm b then 1 else 0:=by
 unfold cls zn zS jm
 rw[if_pos rfl]
 (repeat' split)<;>omega
theorem qas (b:Int):cls b 32=if (thr b=false∨jg b=255∧0<jy b)then 4 else if jg b=255 then 3 else if 0<jg b then 2 else if 0<jy b then 1 else 0:=by
 unfold cls
 rw[if_neg (by decide),if_pos rfl]
 by_cases hv:0≤b∧b<4294967296
 ·have ht:thr b=true:=by simp[thr,hv]
  rw[if_pos hv]
  simp only[jg,jy,ht,if_true,Bool.true_eq_false,false_or]
  unfold zn
  (repeat' split)<;>omega
 ·have ht:thr b=false:=by simp[thr];omega
  rw[if_neg hv,if_pos (Or.inl ht)]
end Go.Proofs.YtelbefihigkhjaaGreatDoor

namespace Go.Proofs.YtelbefihigkhjaaGreatDoor
open Go.ChangeShapes Go.WideShapes Go.ChangeAt Go.RowKit
set_option maxHeartbeats 16000000
set_option maxRecDepth 100000
set_option linter.unusedVariables false
theorem XM (o:Int)(k j:Nat)(h:j<k):o*2^(k-j)=2*(o*2^(k-(j+1))):=by
 have e:k-j=(k-(j+1))+1:=by omega
 rw[e,Int.pow_succ]
 have:o*(2^(k-(j+1))*2)=2*(o*2^(k-(j+1))):=by
  rw[←Int.mul_assoc,Int.mul_comm]
 rw[this]
theorem ye (o:Int)(h0:0<o)(h1:o≤9223372036854775807)(i f:Nat)(hf:f≤62):o*2^i<2^f↔i+Lib.bitLen o.toNat≤f:=by
 obtain⟨m,rfl⟩:=Int.eq_ofNat_of_zero_le (Int.le_of_lt h0)
 have hm:m≠0:=by omega
 have l1:2^m.log2≤m:=Nat.log2_self_le hm
 have l2:m<2^(m.log2+1):=Nat.lt_log2_self
 have hlog:m.log2<64:=by
  rw[Nat.log2_lt hm]
  omega
 have hL:Lib.bitLen m=m.log2+1:=jw m.log2 m hlog l1 l2
 have ec:(m:Int)*2^i<2^f↔m*2^i<2^f:=by
  have e1:((m*2^i:Nat):Int)=(m:Int)*2^i:=by rw[Int.natCast_mul,Int.natCast_pow];rfl
  have e2:((2^f:Nat):Int)=2^f:=by rw[Int.natCast_pow];rfl
  rw[←e1,←e2]
  exact Int.ofNat_lt
 show(m:Int)*2^i<2^f↔i+Lib.bitLen (m:Int).toNat≤f
 rw[ec,Int.toNat_natCast,hL]
 constructor
 ·intro h
  have a:2^(m.log2+i)<2^f:=by
   rw[qlg]
   exact Nat.lt_of_le_of_lt (Nat.mul_le_mul_right _ l1) h
  have:=(Nat.pow_lt_pow_iff_right (by decide:1<2)).1 a
  omega
 ·intro h
  have a:m*2^i<2^(m.log2+1)*2^i:=Nat.mul_lt_mul_of_pos_right l2 (qle _)
  rw[←qlg]at a
  exact qlf a (qlh (by decide) (by omega))
theorem jB (x e o:Int)(k:Nat)(hx:x=o*2^k)(hx1:x≤9223372036854775807)(ho0:0<o)(ho2:o%2=1)(hk:k<64)(he1:-2000≤e)(he2:e≤2000)(h53:o<9007199254740992)(hlow:-1074≤e+(k:Int))(U:Nat)(V:Int)(hV:o*2^U=V)(hUb:∀i:Nat,i<U→o*2^i<4503599627370496∧-1074<e+(k:Int)-(i:Int))(hUk:(U:Int)≤4000)(hend:e+(k:Int)-(U:Int)≤-1074∨(-1074<e+(k:Int)-(U:Int)∧4503599627370496≤V))(w:World):Calls Tryz.prog 205 #[.agg #[.int .i64 64,.int .i64 53,.int .i64 4503599627370496,.int .i64 2047,.int .i64 (-1074),.int .i64 1024,.int .i64 9218868437227405312,.int .i64 (-9223372036854775808),.int .i64 9221120237041090561],.int .i64 x,.int .i64 e] w fun r w'=>r=.returned (.tuple #[.int .i64 V,.int .i64 (e+(k:Int)-(U:Int)),.bool true])∧Kept w w':=by
 have HV:Hid (o*2^U=V):=hV
 have HU:Hid (∀i:Nat,i<U→o*2^i<4503599627370496∧-1074<e+(k:Int)-(i:Int)):=hUb
 have hdbl:Hid (∀i:Nat,o*2^(i+1)=o*2^i+o*2^i):=by
  show ∀i:Nat,o*2^(i+1)=o*2^i+o*2^i
  intro i
  rw[Int.pow_succ,←Int.mul_assoc]
  omega
 have hpos:Hid (∀i:Nat,0<o*2^i):=by
  show ∀i:Nat,0<o*2^i
  exact fun i=>Int.mul_pos ho0 (Int.pow_pos (by decide))
 have HE:Hid (e+(k:Int)-(U:Int)≤-1074∨(-1074<e+(k:Int)-(U:Int)∧4503599627370496≤V)):=hend
 clear hV hUb hend
 have hb:∀j:Nat,j≤k→0<o*2^(k-j)∧o*2^(k-j)≤x:=by
  intro j hj
  have hp:(0:Int)<2^(k-j):=Int.pow_pos (by decide)
  have hq:(1:Int)≤2^j:=by have:(0:Int)<2^j:=Int.pow_pos (by decide);omega
  have h1:0<o*2^(k-j):=Int.mul_pos ho0 hp
  refine⟨h1,?_⟩
  have e1:x=o*2^(k-j)*2^j:=by
   rw[hx,Int.mul_assoc,←Int.pow_add]
   congr 2
   omega
  rw[e1]
  have:=Int.mul_le_mul_of_nonneg_left hq (Int.le_of_lt h1)
  omega
 have HB:Hid (∀j:Nat,j≤k→0<o*2^(k-j)∧o*2^(k-j)≤x):=hb
 have HX:Hid (x=o*2^k):=hx
 clear hb hx
 go_enter Tryz.func205,Tryz.ntmps205
 go_wp2
 go_loop [1,2] (fun m t=>∃j:Nat,j≤k∧m=.int .i64 (o*2^(k-j))∧t=.int .i64 (e+(j:Int))) (fun _ t=>(e+(k:Int)-intOf t).toNat)
 case atStart=>exact⟨0,Nat.zero_le _,by rw[HX.out];rfl,by simp⟩
 case round=>
  obtain⟨j,hj,rfl,rfl⟩:=hrel
  have hjb:=HB.out j hj
  by_cases hlt:j<k
  ·have hA:=XM o k j hlt
   have hjb':=HB.out (j+1) hlt
   obtain⟨M,hM⟩:∃M,M=o*2^(k-(j+1)):=⟨_,rfl⟩
   rw[←hM]at hA hjb'
   rw[hA]at hjb ⊢
   have HM:Hid (M=o*2^(k-(j+1))):=hM
   clear hM hA
   have hmod:(2*M)%2=0:=by omega
   go_wp2
   go_round
   case rel=>exact⟨j+1,by omega,by rw[←HM.out],by go_num⟩
   case measure=>simp[intOf];omega
  ·obtain rfl:j=k:=by omega
   rw[Nat.sub_self,Int.pow_zero,Int.mul_one]at hjb ⊢
   have hodd:(o%2==0)=false:=by rw[ho2];rfl
   go_wp2
   go_loop [1,2] (fun m t=>∃i:Nat,i≤U∧m=.int .i64 (o*2^i)∧t=.int .i64 (e+(j:Int)-(i:Int))) (fun _ t=>(intOf t-(e+(j:Int)-(U:Int))).toNat)
   case atStart=>exact⟨0,Nat.zero_le _,by simp,by simp⟩
   case round=>
    obtain⟨i,hi,rfl,rfl⟩:=hrel
    by_cases hlt2:i<U
    ·obtain⟨g1,g2⟩:=HU.out i hlt2
     have hd:=hdbl.out i
     have hp0:=hpos.out i
     obtain⟨M,hM⟩:∃M,M=o*2^i:=⟨_,rfl⟩
     rw[←hM]at g1 hd hp0 ⊢
     have HD:Hid (o*2^(i+1)=M+M):=hd
     clear hd hM
     go_wp2
     go_round
     case rel=>exact⟨i+1,by omega,by rw[HD.out],by go_num⟩
     case measure=>simp[intOf];omega
    ·obtain rfl:i=U:=by omega
     rw[HV.out]
     rcases HE.out with hx1|⟨hx1,hx2⟩
     ·go_wp2
      go_ret3
      exact⟨rfl,(qlv _).alloc _ _⟩
     ·go_wp2
      go_ret3
      exact⟨rfl,(qlv _).alloc _ _⟩
theorem xM (x e o:Int)(k:Nat)(hx:x=o*2^k)(hx1:x≤9223372036854775807)(ho0:0<o)(ho2:o%2=1)(hk:k<64)(he1:-2000≤e)(he2:e≤2000)(h53:o<16777216)(hlow:-149≤e+(k:Int))(U:Nat)(V:Int)(hV:o*2^U=V)(hUb:∀i:Nat,i<U→o*2^i<8388608∧-149<e+(k:Int)-(i:Int))(hUk:(U:Int)≤4000)(hend:e+(k:Int)-(U:Int)≤-149∨(-149<e+(k:Int)-(U:Int)∧8388608≤V))(w:World):Calls Tryz.prog 205 #[.agg #[.int .i64 32,.int .i64 24,.int .i64 8388608,.int .i64 255,.int .i64 (-149),.int .i64 128,.int .i64 2139095040,.int .i64 2147483648,.int .i64 2143289345],.int .i64 x,.int .i64 e] w fun r w'=>r=.returned (.tuple #[.int .i64 V,.int .i64 (e+(k:Int)-(U:Int)),.bool true])∧Kept w w':=by
 have HV:Hid (o*2^U=V):=hV
 have HU:Hid (∀i:Nat,i<U→o*2^i<8388608∧-149<e+(k:Int)-(i:Int)):=hUb
 have hdbl:Hid (∀i:Nat,o*2^(i+1)=o*2^i+o*2^i):=by
  show ∀i:Nat,o*2^(i+1)=o*2^i+o*2^i
  intro i
  rw[Int.pow_succ,←Int.mul_assoc]
  omega
 have hpos:Hid (∀i:Nat,0<o*2^i):=by
  show ∀i:Nat,0<o*2^i
  exact fun i=>Int.mul_pos ho0 (Int.pow_pos (by decide))
 have HE:Hid (e+(k:Int)-(U:Int)≤-149∨(-149<e+(k:Int)-(U:Int)∧8388608≤V)):=hend
 clear hV hUb hend
 have hb:∀j:Nat,j≤k→0<o*2^(k-j)∧o*2^(k-j)≤x:=by
  intro j hj
  have hp:(0:Int)<2^(k-j):=Int.pow_pos (by decide)
  have hq:(1:Int)≤2^j:=by have:(0:Int)<2^j:=Int.pow_pos (by decide);omega
  have h1:0<o*2^(k-j):=Int.mul_pos ho0 hp
  refine⟨h1,?_⟩
  have e1:x=o*2^(k-j)*2^j:=by
   rw[hx,Int.mul_assoc,←Int.pow_add]
   congr 2
   omega
  rw[e1]
  have:=Int.mul_le_mul_of_nonneg_left hq (Int.le_of_lt h1)
  omega
 have HB:Hid (∀j:Nat,j≤k→0<o*2^(k-j)∧o*2^(k-j)≤x):=hb
 have HX:Hid (x=o*2^k):=hx
 clear hb hx
 go_enter Tryz.func205,Tryz.ntmps205
 go_wp2
 go_loop [1,2] (fun m t=>∃j:Nat,j≤k∧m=.int .i64 (o*2^(k-j))∧t=.int .i64 (e+(j:Int))) (fun _ t=>(e+(k:Int)-intOf t).toNat)
 case atStart=>exact⟨0,Nat.zero_le _,by rw[HX.out];rfl,by simp⟩
 case round=>
  obtain⟨j,hj,rfl,rfl⟩:=hrel
  have hjb:=HB.out j hj
  by_cases hlt:j<k
  ·have hA:=XM o k j hlt
   have hjb':=HB.out (j+1) hlt
   obtain⟨M,hM⟩:∃M,M=o*2^(k-(j+1)):=⟨_,rfl⟩
   rw[←hM]at hA hjb'
   rw[hA]at hjb ⊢
   have HM:Hid (M=o*2^(k-(j+1))):=hM
   clear hM hA
   have hmod:(2*M)%2=0:=by omega
   go_wp2
   go_round
   case rel=>exact⟨j+1,by omega,by rw[←HM.out],by go_num⟩
   case measure=>simp[intOf];omega
  ·obtain rfl:j=k:=by omega
   rw[Nat.sub_self,Int.pow_zero,Int.mul_one]at hjb ⊢
   have hodd:(o%2==0)=false:=by rw[ho2];rfl
   go_wp2
   go_loop [1,2] (fun m t=>∃i:Nat,i≤U∧m=.int .i64 (o*2^i)∧t=.int .i64 (e+(j:Int)-(i:Int))) (fun _ t=>(intOf t-(e+(j:Int)-(U:Int))).toNat)
   case atStart=>exact⟨0,Nat.zero_le _,by simp,by simp⟩
   case round=>
    obtain⟨i,hi,rfl,rfl⟩:=hrel
    by_cases hlt2:i<U
    ·obtain⟨g1,g2⟩:=HU.out i hlt2
     have hd:=hdbl.out i
     have hp0:=hpos.out i
     obtain⟨M,hM⟩:∃M,M=o*2^i:=⟨_,rfl⟩
     rw[←hM]at g1 hd hp0 ⊢
     have HD:Hid (o*2^(i+1)=M+M):=hd
     clear hd hM
     go_wp2
     go_round
     case rel=>exact⟨i+1,by omega,by rw[HD.out],by go_num⟩
     case measure=>simp[intOf];omega
    ·obtain rfl:i=U:=by omega
     rw[HV.out]
     rcases HE.out with hx1|⟨hx1,hx2⟩
     ·go_wp2
      go_ret3
      exact⟨rfl,(qlv _).alloc _ _⟩
     ·go_wp2
      go_ret3
      exact⟨rfl,(qlv _).alloc _ _⟩
end Go.Proofs.YtelbefihigkhjaaGreatDoor

namespace Go.Proofs.YtelbefihigkhjaaGreatDoor
open Go.ChangeShapes Go.WideShapes Go.ChangeAt Go.RowKit
set_option maxHeartbeats 16000000
set_option maxRecDepth 100000
set_option linter.unusedVariables false
set_option linter.unusedSimpArgs false
theorem Xr {a b:Int}{p:Bool}(h:a=b):Ending.returned (.tuple #[.int .i64 a,.bool p])=.returned (.tuple #[.int .i64 b,.bool p]):=by rw[h]
theorem Qr (p:Bool)(e:Int)(w:World):Calls Tryz.prog 124 #[.bool p,.int .i64 0,.int .i64 e,.int .i64 64] w fun r w'=>r=.returned (.tuple #[.int .i64 (if p=true then -9223372036854775808 else 0),.bool true])∧Kept w w':=by
 by_cases h1:2000<e<;>by_cases h2:e< -2000
 ·omega
 all_goals
  cases p
  all_goals
   go_enter Tryz.func124,Tryz.ntmps124
   go_wp2_with (first|(go_at_call 116;refine(xD _).mono ?_;rintro e w1 ⟨rfl,hk1⟩))
   go_ret2
   exact⟨rfl,hk1.alloc _ _⟩
theorem yC (p:Bool)(x e V E q:Int)(hx:0<x)(he1:-2000≤e)(he2:e≤2000)(hE:E≤971)(hE0:-1074≤E)(hV0:0<V)(hV1:V<9007199254740992)(hs:V<4503599627370496→E=-1074)(hq:q=(E+1074)*4503599627370496+V+(if p=true then -9223372036854775808 else 0))(Ks:Hid (∀w:World,Calls Tryz.prog 205 #[.agg #[.int .i64 64,.int .i64 53,.int .i64 4503599627370496,.int .i64 2047,.int .i64 (-1074),.int .i64 1024,.int .i64 9218868437227405312,.int .i64 (-9223372036854775808),.int .i64 9221120237041090561],.int .i64 x,.int .i64 e] w fun e w'=>e=.returned (.tuple #[.int .i64 V,.int .i64 E,.bool true])∧Kept w w'))(w:World):Calls Tryz.prog 124 #[.bool p,.int .i64 x,.int .i64 e,.int .i64 64] w fun r w'=>r=.returned (.tuple #[.int .i64 q,.bool true])∧Kept w w':=by
 have hx0:(x==0)=false:=by rw[beq_eq_false_iff_ne];omega
 have HQ:Hid (q=(E+1074)*4503599627370496+V+(if p=true then -9223372036854775808 else 0)):=hq
 have HS:Hid (V<4503599627370496→E=-1074):=hs
 clear hq hs
 cases p
 all_goals
  by_cases hvs:V<4503599627370496
  all_goals
   go_enter Tryz.func124,Tryz.ntmps124
   go_wp2_with (first|(go_at_call 116;refine(xD _).mono ?_;rintro e w1 ⟨rfl,hk1⟩)|(go_at_call 205;refine(Ks.out _).mono ?_;rintro e w2 ⟨rfl,hk2⟩;have hcl:=qe hk2))
   go_ret2
   refine⟨Xr ?_,(hk1.alloc _ _).trans hk2⟩
   have hq:=HQ.out
   have hs:=HS.out
   simp only[Bool.false_eq_true,if_true,if_false]at hq
   try unfold wrap64
   omega
theorem VJ (p:Bool)(e:Int)(w:World):Calls Tryz.prog 124 #[.bool p,.int .i64 0,.int .i64 e,.int .i64 32] w fun r w'=>r=.returned (.tuple #[.int .i64 (if p=true then 2147483648 else 0),.bool true])∧Kept w w':=by
 by_cases h1:2000<e<;>by_cases h2:e< -2000
 ·omega
 all_goals
  cases p
  all_goals
   go_enter Tryz.func124,Tryz.ntmps124
   go_wp2_with (first|(go_at_call 116;refine(xE _).mono ?_;rintro e w1 ⟨rfl,hk1⟩))
   go_ret2
   exact⟨rfl,hk1.alloc _ _⟩
theorem Zn (p:Bool)(x e V E q:Int)(hx:0<x)(he1:-2000≤e)(he2:e≤2000)(hE:E≤104)(hE0:-149≤E)(hV0:0<V)(hV1:V<16777216)(hs:V<8388608→E=-149)(hq:q=(E+149)*8388608+V+(if p=true then 2147483648 else 0))(Ks:Hid (∀w:World,Calls Tryz.prog 205 #[.agg #[.int .i64 32,.int .i64 24,.int .i64 8388608,.int .i64 255,.int .i64 (-149),.int .i64 128,.int .i64 2139095040,.int .i64 2147483648,.int .i64 2143289345],.int .i64 x,.int .i64 e] w fun e w'=>e=.returned (.tuple #[.int .i64 V,.int .i64 E,.bool true])∧Kept w w'))(w:World):Calls Tryz.prog 124 #[.bool p,.int .i64 x,.int .i64 e,.int .i64 32] w fun r w'=>r=.returned (.tuple #[.int .i64 q,.bool true])∧Kept w w':=by
 have hx0:(x==0)=false:=by rw[beq_eq_false_iff_ne];omega
 have HQ:Hid (q=(E+149)*8388608+V+(if p=true then 2147483648 else 0)):=hq
 have HS:Hid (V<8388608→E=-149):=hs
 clear hq hs
 cases p
 all_goals
  by_cases hvs:V<8388608
  all_goals
   go_enter Tryz.func124,Tryz.ntmps124
   go_wp2_with (first|(go_at_call 116;refine(xE _).mono ?_;rintro e w1 ⟨rfl,hk1⟩)|(go_at_call 205;refine(Ks.out _).mono ?_;rintro e w2 ⟨rfl,hk2⟩;have hcl:=qe hk2))
   go_ret2
   refine⟨Xr ?_,(hk1.alloc _ _).trans hk2⟩
   have hq:=HQ.out
   have hs:=HS.out
   simp only[Bool.false_eq_true,if_true,if_false]at hq
   try unfold wrap64
   omega
end Go.Proofs.YtelbefihigkhjaaGreatDoor

namespace Go.Proofs.YtelbefihigkhjaaGreatDoor
open Go.ChangeShapes Go.WideShapes Go.ChangeAt Go.RowKit
set_option maxHeartbeats 16000000
set_option maxRecDepth 100000
def Reads (w:World)(b off:Nat)(L:List Int):Prop:=∀i,i<L.length→w.cell? ⟨b,off+i,none⟩=some (.int .i64 (L.getD i 0))
def Sl (w:World)(v:Value)(L:List Int):Prop:=
 ∃ao cap,v=.slice ao L.length cap∧L.length≤cap∧cap≤maxLen∧(L≠[]→∃b off,ao=some ⟨b,off,none⟩∧b<w.heap.size∧Reads w b off L)
theorem Reads.kept {w w':World}{b off:Nat}{L:List Int}(h:Reads w b off L)(hb:b<w.heap.size)(k:Kept w w'):Reads w' b off L:=
 fun i hi=>(k.below.cell (p:=⟨b,off+i,none⟩) hb).trans (h i hi)
theorem Sl.kept {w w':World}{v:Value}{L:List Int}(h:Sl w v L)(k:Kept w w'):Sl w' v L:=by
 obtain⟨ao,cap,e,hc,hm,hr⟩:=h
 refine⟨ao,cap,e,hc,hm,fun hne=>?_⟩
 obtain⟨b,off,e2,hb,hr⟩:=hr hne
 exact⟨b,off,e2,qlf hb k.below.size,hr.kept hb k⟩
def dig (L:List Int)(i:Int):Int:=if 0≤i then L.getD i.toNat 0 else 0
theorem qb6 (L:List Int)(b off cap:Nat)(i:Nat)(hi:i<L.length)(w:World)(hr:Reads w b off L):Calls Tryz.prog 321 #[.slice (some ⟨b,off,none⟩) L.length cap,.int .i64 (i:Int)] w fun e w'=>e=.returned (.int .i64 (L.getD i 0))∧w=w':=by
 have h1:=hr i hi
 have h2:((i:Int)<0)=False:=by simp
 have h3:((L.length:Int)≤(i:Int))=False:=by simp;omega
 generalize L.getD i 0=d at *
 generalize L.length=n at *
 clear hr
 go_enter Tryz.func321,Tryz.ntmps321
 go_wp2
 go_ret
 exact⟨rfl,rfl⟩
theorem Y9 (n:Nat)(ao:Option Addr)(cap:Nat)(i:Int)(hi:i<0∨(n:Int)≤i)(w:World):Calls Tryz.prog 321 #[.slice ao n cap,.int .i64 i] w fun e w'=>e=.returned (.int .i64 0)∧w=w':=by
 rcases(show i<0∨(0≤i∧(n:Int)≤i) by omega)with h|⟨h0,h⟩
 ·go_enter Tryz.func321,Tryz.ntmps321
  go_wp2
  go_ret
  exact⟨rfl,rfl⟩
 ·go_enter Tryz.func321,Tryz.ntmps321
  go_wp2
  go_ret
  exact⟨rfl,rfl⟩
theorem Q2 (L:List Int)(v:Value)(i:Int)(w:World)(h:Sl w v L):Calls Tryz.prog 321 #[v,.int .i64 i] w fun e w'=>e=.returned (.int .i64 (dig L i))∧w=w':=by
 obtain⟨ao,cap,rfl,hc,hm,hr⟩:=h
 by_cases hi:0≤i∧i<L.length
 ·obtain⟨b,off,rfl,-,hr⟩:=hr (by intro h;subst h;simp at hi;omega)
  have:=qb6 L b off cap i.toNat (by omega) w hr
  rw[Int.toNat_of_nonneg hi.1]at this
  rw[dig,if_pos hi.1]
  exact this
 ·have:dig L i=0:=by
   unfold dig
   split
   ·rw[qli,List.getElem?_eq_none (by omega)];rfl
   ·rfl
  rw[this]
  exact Y9 _ _ _ _ (by omega) w
theorem ZH (L:List Int)(h:Dg L)(q:Nat):dig L (q:Int)=((nv L/2^(30*q)%1073741824:Nat):Int):=by
 have h1:=zI L h q
 have h2:=h.getD q
 rw[dig,if_pos (by omega),Int.toNat_natCast]
 omega
theorem Yq (L:List Int)(q:Int)(h:q<0):dig L q=0:=by rw[dig,if_neg (by omega)]
def pcq (L:List Int)(q:Int)(s:Nat):Int:=bits .and .i64 (bits .or .i64 (dig L q/2^s) (IntKind.i64.wrap (dig L (q+1)*2^(30-s)))) 1073741823
theorem ZI (x y s:Nat)(hs:s<30)(hx:x<1073741824)(hy:y<1073741824):bits .and .i64 (bits .or .i64 ((x:Int)/2^s) (IntKind.i64.wrap ((y:Int)*2^(30-s)))) 1073741823=(((x/2^s+y*2^(30-s))%1073741824:Nat):Int):=by
 obtain⟨p,q,hp,hq,e⟩:∃p q:Nat,2^s=p∧2^(30-s)=q∧p*q=1073741824:=⟨_,_,rfl,rfl,by rw[←qlg,show s+(30-s)=30 by omega]⟩
 have hp0:0<p:=by rw[←hp];exact qle _
 have hq0:0<q:=by rw[←hq];exact qle _
 have hq1:q≤1073741824:=by rw[←e];exact Nat.le_mul_of_pos_left _ hp0
 have e1:(x:Int)/2^s=((x/2^s:Nat):Int):=by rw[Int.natCast_ediv,Int.natCast_pow];rfl
 have e2:(y:Int)*2^(30-s)=((y*2^(30-s):Nat):Int):=by rw[Int.natCast_mul,Int.natCast_pow];rfl
 have h1:x/2^s<2^(30-s):=by
  rw[hp,hq]
  exact(Nat.div_lt_iff_lt_mul hp0).2 (by rw[qll];omega)
 have h2:y*2^(30-s)<1152921504606846976:=by
  rw[hq]
  calc y*q≤y*1073741824:=Nat.mul_le_mul_left _ hq1
   _<1152921504606846976:=by omega
 have e3:IntKind.i64.wrap ((y*2^(30-s):Nat):Int)=((y*2^(30-s):Nat):Int):=by
  rw[qc];omega
 rw[e1,e2,e3,VA _ _ _ h1 (by have:x/2^s≤x:=Nat.div_le_self _ _;omega),vH]
 rfl
theorem qb7 (L:List Int)(h:Dg L)(q:Int)(s:Nat)(hs:s<30):pcq L q s=pcz (nv L) (30*q+s):=by
 unfold pcq pcz
 by_cases h0:0≤q
 ·obtain⟨n,rfl⟩:∃n:Nat,q=n:=⟨q.toNat,by omega⟩
  rw[if_pos (by omega),show((n:Int)+1)=((n+1:Nat):Int) by omega,ZH L h,ZH L h,ZI _ _ s hs (Nat.mod_lt _ (by decide)) (Nat.mod_lt _ (by decide)),Zj _ s hs,show(30*(n:Int)+(s:Int)).toNat=30*n+s by omega]
 ·rw[if_neg (by omega),Yq L q (by omega)]
  by_cases h1:q=-1
  ·subst h1
   have e:=ZH L h 0
   rw[show(-1+1:Int)=((0:Nat):Int) by rfl,e,show(0:Int)=((0:Nat):Int)from rfl,ZI 0 _ s hs (by decide) (Nat.mod_lt _ (by decide)),show(-(30*(-1)+(s:Int))).toNat=30-s by omega]
   simp[Nat.mod_mul_mod]
  ·rw[Yq L (q+1) (by omega),show(0:Int)=((0:Nat):Int)from rfl,ZI 0 0 s hs (by decide) (by decide)]
   obtain⟨k,hk⟩:∃k,(-(30*q+(s:Int))).toNat=30+k:=⟨(-(30*q+(s:Int))).toNat-30,by omega⟩
   have e:nv L*(2^30*2^k)%1073741824=0:=by
    rw[Nat.mul_left_comm]
    exact Nat.mul_mod_right _ _
   rw[hk,qlg,e]
   simp
theorem kn (p q s:Int)(h0:0≤s)(hs:s<30)(hp:p=30*q+s)(hc:0≤q∨s=0):p.tdiv 30=q∧p.tmod 30=s:=by
 by_cases h:0≤p
 ·rw[Int.tdiv_eq_ediv_of_nonneg (by omega),Int.tmod_eq_emod_of_nonneg (by omega)]
  omega
 ·have e:p.tdiv 30=-((-p).tdiv 30):=by rw[Int.neg_tdiv];omega
  have f:p.tmod 30=-((-p).tmod 30):=by rw[Int.neg_tmod];omega
  rw[e,f,Int.tdiv_eq_ediv_of_nonneg (by omega),Int.tmod_eq_emod_of_nonneg (by omega)]
  omega
theorem Vc (p q s:Int)(h0:0<s)(hs:s<30)(hp:p=30*q+s)(hc:q<0):p.tdiv 30=q+1∧p.tmod 30=s-30:=by
 have e:p.tdiv 30=-((-p).tdiv 30):=by rw[Int.neg_tdiv];omega
 have f:p.tmod 30=-((-p).tmod 30):=by rw[Int.neg_tmod];omega
 rw[e,f,Int.tdiv_eq_ediv_of_nonneg (by omega),Int.tmod_eq_emod_of_nonneg (by omega)]
 omega
theorem JT (L:List Int)(v:Value)(q:Int)(s:Nat)(hs:s<30)(hq:q<100000000)(hq0:-100000000<q)(p:Int)(hp:p=30*(q:Int)+s)(hc:0≤q∨(s:Int)=0)(w:World)(h:Sl w v L):Calls Tryz.prog 289 #[v,.int .i64 p] w fun e w'=>e=.returned (.int .i64 (pcq L q s))∧Kept w w':=by
 have H:Hid (Sl w v L):=h
 clear h
 obtain⟨e1,e2⟩:=kn p q s (by omega) (by omega) hp hc
 clear hp hc
 have hK:=qlv w
 have e3:IntKind.i64.wrap (q+1)=q+1:=by rw[qc];omega
 have e4:IntKind.i64.wrap (30-(s:Int))=((30-s:Nat):Int):=by rw[qc];omega
 go_enter Tryz.func289,Tryz.ntmps289
 go_wp2_with fail
 go_region_held (fun u=>Kept w u) (first|exact hK.drew|assumption) (first|(go_at_call 321;refine(Q2 L v _ _ (H.out.kept (by assumption))).mono ?_;rintro e w1 ⟨rfl,rfl⟩))
 go_wp2
 go_ret
 exact⟨rfl,hK.drew⟩
theorem JU (L:List Int)(v:Value)(q:Int)(s:Nat)(hs:s<30)(hq:q<0)(hq0:-100000000<q)(p:Int)(hp:p=30*(q:Int)+s)(hc:0<s)(w:World)(h:Sl w v L):Calls Tryz.prog 289 #[v,.int .i64 p] w fun e w'=>e=.returned (.int .i64 (pcq L q s))∧Kept w w':=by
 have H:Hid (Sl w v L):=h
 clear h
 obtain⟨e1,e2⟩:=Vc p q s (by omega) (by omega) hp hq
 clear hp
 have hK:=qlv w
 have e3:IntKind.i64.wrap (q+1)=q+1:=by rw[qc];omega
 have e5:IntKind.i64.wrap (q+1-1)=q:=by rw[qc];omega
 have e6:IntKind.i64.wrap ((s:Int)-30+30)=(s:Int):=by rw[qc];omega
 have e4:IntKind.i64.wrap (30-(s:Int))=((30-s:Nat):Int):=by rw[qc];omega
 go_enter Tryz.func289,Tryz.ntmps289
 go_wp2_with fail
 go_region_held (fun u=>Kept w u) (first|exact hK.drew|assumption) (first|(go_at_call 321;refine(Q2 L v _ _ (H.out.kept (by assumption))).mono ?_;rintro e w1 ⟨rfl,rfl⟩))
 go_wp2
 go_ret
 exact⟨rfl,hK.drew⟩
theorem xW (L:List Int)(hL:Dg L)(v:Value)(p:Int)(h1:-1000000000<p)(h2:p<1000000000)(w:World)(h:Sl w v L):Calls Tryz.prog 289 #[v,.int .i64 p] w fun e w'=>e=.returned (.int .i64 (pcz (nv L) p))∧Kept w w':=by
 obtain⟨s,hs⟩:∃s:Nat,p%30=s:=⟨(p%30).toNat,by omega⟩
 have e:30*(p/30)+(s:Int)=p:=by omega
 have:=qb7 L hL (p/30) s (by omega)
 rw[e]at this
 rw[←this]
 by_cases hc:0≤p/30∨(s:Int)=0
 ·exact JT L v (p/30) s (by omega) (by omega) (by omega) p e.symm hc w h
 ·exact JU L v (p/30) s (by omega) (by omega) (by omega) p e.symm (by omega) w h
end Go.Proofs.YtelbefihigkhjaaGreatDoor
