/-  -/
import Derived.Test.YtelbefihigkhjaaGreatDoorWm43
import Derived.Test.YtelbefihigkhjaaGreatDoorWm38
import Derived.Deep.RegionHeld
import Derived.Test.YtelbefihigkhjaaGreatDoorWm14
import Derived.Test.YtelbefihigkhjaaGreatDoorWm33
import Derived.Test.YtelbefihigkhjaaGreatDoorWm37
import Derived.Test.YtelbefihigkhjaaGreatDoorWm35
namespace Go.Proofs.YtelbefihigkhjaaGreatDoor
open Go.ChangeShapes Go.WideShapes Go.ChangeAt Go.RowKit
set_option maxHeartbeats 16000000
set_option maxRecDepth 100000
theorem Xy (b:Int)(hb1:-9223372036854775808≤b)(hb2:b≤9223372036854775807):cls b 64=0↔b=0∨b=-9223372036854775808:=by
 unfold cls zn
 rw[if_pos rfl]
 (repeat' split)<;>omega
theorem Xz (b:Int):cls b 32=0↔b=0∨b=2147483648:=by
 unfold cls zn
 rw[if_neg (by decide),if_pos rfl]
 (repeat' split)<;>omega
theorem xf (b n:Int)(hb1:-9223372036854775808≤b)(hb2:b≤9223372036854775807)(w:World):Calls Tryz.prog 174 #[.int .i64 b,.int .i64 n] w fun e w'=>e=.returned (.int .i64 (can b n))∧Kept w w':=by
 by_cases h64:n=64
 ·subst h64
  refine(qav b hb1 hb2 w).mono ?_
  rintro e w' ⟨rfl,hk⟩
  refine⟨qt ?_,hk⟩
  have hz:=Xy b hb1 hb2
  by_cases hc:cls b 64=4
  ·simp[can,qv,jJ,hc]
  ·have hi:qv b 64=true:=by simp[qv,hc]
   unfold can
   rw[if_neg hc,if_pos hi,if_pos rfl]
   (repeat' split)<;>omega
 ·by_cases h32:n=32
  ·subst h32
   refine(qaw b hb1 hb2 w).mono ?_
   rintro e w' ⟨rfl,hk⟩
   refine⟨qt ?_,hk⟩
   have hz:=Xz b
   by_cases hc:cls b 32=4
   ·simp[can,qv,jJ,hc]
   ·have hi:qv b 32=true:=by simp[qv,hc]
    unfold can
    rw[if_neg hc,if_pos hi,if_neg (by decide:¬(32:Int)=64)]
    (repeat' split)<;>omega
  ·refine(qd5 b n (by simpa using h32) (by simpa using h64) w).mono ?_
   rintro e w' ⟨rfl,hk⟩
   exact⟨qt (by simp[can,v8 b n h64 h32,ZY n h64 h32]),hk⟩
end Go.Proofs.YtelbefihigkhjaaGreatDoor

namespace Go.Proofs.YtelbefihigkhjaaGreatDoor
open Go.ChangeShapes Go.WideShapes Go.ChangeAt Go.RowKit
set_option maxHeartbeats 16000000
set_option maxRecDepth 100000
set_option linter.unusedVariables false
theorem QV (b:Int)(hb1:-9223372036854775808≤b)(hb2:b≤9223372036854775807)(hs:sgn b 64=true)(hg:b<0)(w:World):Calls Tryz.prog 173 #[.agg #[.int .i64 64,.int .i64 53,.int .i64 4503599627370496,.int .i64 2047,.int .i64 (-1074),.int .i64 1024,.int .i64 9218868437227405312,.int .i64 (-9223372036854775808),.int .i64 9221120237041090561],.int .i64 b] w fun e w'=>e=.returned (.int .i64 (-(b- -9223372036854775808)-1))∧Kept w w':=by
 go_enter Tryz.func173,Tryz.ntmps173
 go_wp2_with (first|(go_at_call 240;refine(xH _ hb1 hb2 _).mono ?_;rintro e w2 ⟨rfl,hk2⟩;have hcl:=qe hk2))
 go_ret
 exact⟨qt (by(try unfold wrap64);omega),((qlv _).alloc _ _).trans hk2⟩
theorem Jp (b:Int)(hb1:-9223372036854775808≤b)(hb2:b≤9223372036854775807)(hs:sgn b 64=false)(w:World):Calls Tryz.prog 173 #[.agg #[.int .i64 64,.int .i64 53,.int .i64 4503599627370496,.int .i64 2047,.int .i64 (-1074),.int .i64 1024,.int .i64 9218868437227405312,.int .i64 (-9223372036854775808),.int .i64 9221120237041090561],.int .i64 b] w fun e w'=>e=.returned (.int .i64 b)∧Kept w w':=by
 go_enter Tryz.func173,Tryz.ntmps173
 go_wp2_with (first|(go_at_call 240;refine(xH _ hb1 hb2 _).mono ?_;rintro e w2 ⟨rfl,hk2⟩;have hcl:=qe hk2))
 go_ret
 exact⟨rfl,((qlv _).alloc _ _).trans hk2⟩
theorem QW (b:Int)(hb1:-9223372036854775808≤b)(hb2:b≤9223372036854775807)(hs:jo b=true)(hg:2147483648≤b)(w:World):Calls Tryz.prog 173 #[.agg #[.int .i64 32,.int .i64 24,.int .i64 8388608,.int .i64 255,.int .i64 (-149),.int .i64 128,.int .i64 2139095040,.int .i64 2147483648,.int .i64 2143289345],.int .i64 b] w fun e w'=>e=.returned (.int .i64 (-(b-2147483648)-1))∧Kept w w':=by
 go_enter Tryz.func173,Tryz.ntmps173
 go_wp2_with (first|(go_at_call 240;refine(xI _ _).mono ?_;rintro e w2 ⟨rfl,hk2⟩;have hcl:=qe hk2))
 go_ret
 exact⟨qt (by(try unfold wrap64);omega),((qlv _).alloc _ _).trans hk2⟩
theorem Jq (b:Int)(hb1:-9223372036854775808≤b)(hb2:b≤9223372036854775807)(hs:jo b=false)(w:World):Calls Tryz.prog 173 #[.agg #[.int .i64 32,.int .i64 24,.int .i64 8388608,.int .i64 255,.int .i64 (-149),.int .i64 128,.int .i64 2139095040,.int .i64 2147483648,.int .i64 2143289345],.int .i64 b] w fun e w'=>e=.returned (.int .i64 b)∧Kept w w':=by
 go_enter Tryz.func173,Tryz.ntmps173
 go_wp2_with (first|(go_at_call 240;refine(xI _ _).mono ?_;rintro e w2 ⟨rfl,hk2⟩;have hcl:=qe hk2))
 go_ret
 exact⟨rfl,((qlv _).alloc _ _).trans hk2⟩
theorem qh3 {x v:World}{c:Array Value}{t:TypeId}(h:Kept (x.alloc (.cells c t)) v):Kept (x.alloc (.cells c t)) v.drew∧∀o,v.drew.cell? ⟨x.heap.size,o,none⟩=(x.alloc (.cells c t)).cell? ⟨x.heap.size,o,none⟩:=⟨h.drew,qe h.drew⟩
theorem qh4 {x v v':World}{c:Array Value}{t:TypeId}(h:Kept (x.alloc (.cells c t)) v∧∀o,v.cell? ⟨x.heap.size,o,none⟩=(x.alloc (.cells c t)).cell? ⟨x.heap.size,o,none⟩)(k:Kept v v'):Kept (x.alloc (.cells c t)) v'∧∀o,v'.cell? ⟨x.heap.size,o,none⟩=(x.alloc (.cells c t)).cell? ⟨x.heap.size,o,none⟩:=⟨h.1.trans k,qe (h.1.trans k)⟩
def rpl (b n:Int):Int:=if n=64 then (if b<0 then -1-b%9223372036854775808 else b)else (if jo b=true then -1-b%2147483648 else b)
theorem Zp (b:Int)(hb1:-9223372036854775808≤b)(hb2:b≤9223372036854775807)(w:World):Calls Tryz.prog 173 #[.agg #[.int .i64 64,.int .i64 53,.int .i64 4503599627370496,.int .i64 2047,.int .i64 (-1074),.int .i64 1024,.int .i64 9218868437227405312,.int .i64 (-9223372036854775808),.int .i64 9221120237041090561],.int .i64 b] w fun e w'=>e=.returned (.int .i64 (rpl b 64))∧Kept w w':=by
 by_cases h:b<0
 ·refine(QV b hb1 hb2 (by simp[sgn,h]) h w).mono ?_
  rintro e w' ⟨rfl,hk⟩
  exact⟨qt (by unfold rpl;rw[if_pos rfl,if_pos h];omega),hk⟩
 ·refine(Jp b hb1 hb2 (by simp[sgn];omega) w).mono ?_
  rintro e w' ⟨rfl,hk⟩
  exact⟨qt (by unfold rpl;rw[if_pos rfl,if_neg h]),hk⟩
theorem qd4 (b:Int)(h:jo b=true):2147483648≤b∧b<4294967296:=by
 simp[jo,thr,sgn]at h
 omega
theorem Zq (b:Int)(hb1:-9223372036854775808≤b)(hb2:b≤9223372036854775807)(w:World):Calls Tryz.prog 173 #[.agg #[.int .i64 32,.int .i64 24,.int .i64 8388608,.int .i64 255,.int .i64 (-149),.int .i64 128,.int .i64 2139095040,.int .i64 2147483648,.int .i64 2143289345],.int .i64 b] w fun e w'=>e=.returned (.int .i64 (rpl b 32))∧Kept w w':=by
 cases h:jo b
 ·refine(Jq b hb1 hb2 h w).mono ?_
  rintro e w' ⟨rfl,hk⟩
  exact⟨qt (by unfold rpl;rw[if_neg (by decide),if_neg (by rw[h];decide)]),hk⟩
 ·have hv:=qd4 b h
  refine(QW b hb1 hb2 h hv.1 w).mono ?_
  rintro e w' ⟨rfl,hk⟩
  exact⟨qt (by unfold rpl;rw[if_neg (by decide),if_pos h];omega),hk⟩
end Go.Proofs.YtelbefihigkhjaaGreatDoor

namespace Go.Proofs.YtelbefihigkhjaaGreatDoor
open Go.ChangeShapes Go.WideShapes Go.ChangeAt Go.RowKit
set_option maxHeartbeats 16000000
set_option maxRecDepth 100000
set_option linter.unusedVariables false
end Go.Proofs.YtelbefihigkhjaaGreatDoor

namespace Go.Proofs.YtelbefihigkhjaaGreatDoor
open Go.ChangeShapes Go.WideShapes Go.ChangeAt Go.RowKit
set_option maxHeartbeats 16000000
set_option maxRecDepth 100000
set_option linter.unusedVariables false
set_option linter.unusedSimpArgs false
theorem Jm (b n:Int)(hb1:-9223372036854775808≤b)(hb2:b≤9223372036854775807):-9223372036854775808≤can b n∧can b n≤9223372036854775807:=by
 have:=QE n
 unfold can
 (repeat' split)<;>omega
theorem Jn (a b:Int)(ha1:-9223372036854775808≤a)(ha2:a≤9223372036854775807)(hb1:-9223372036854775808≤b)(hb2:b≤9223372036854775807)(ca:(cls a 64==4)=false)(cb:(cls b 64==4)=false)(w:World):Calls Tryz.prog 94 #[.int .i64 a,.int .i64 b,.int .i64 64] w fun e w'=>e=.returned (.bool (decide (rpl (can a 64) 64<rpl (can b 64) 64)))∧Kept w w':=by
 have qa:=Jm a 64 ha1 ha2
 have qb:=Jm b 64 hb1 hb2
 go_enter Tryz.func94,Tryz.ntmps94
 go_wp2_with fail
 refine(xD _).mono ?_
 rintro e w1 ⟨rfl,hk1⟩
 go_wp2_with fail
 refine(qz a 64 ha1 ha2 _).mono ?_
 rintro e w2 ⟨rfl,hk2⟩
 go_wp2_with fail
 refine(qz b 64 hb1 hb2 _).mono ?_
 rintro e w3 ⟨rfl,hk3⟩
 have hK:=hk2.trans hk3
 go_wp2
 go_region_held (fun v=>Kept (w1.alloc (.cells #[.int .i64 64,.int .i64 53,.int .i64 4503599627370496,.int .i64 2047,.int .i64 (-1074),.int .i64 1024,.int .i64 9218868437227405312,.int .i64 (-9223372036854775808),.int .i64 9221120237041090561] 136)) v∧∀o,v.cell? ⟨w1.heap.size,o,none⟩=(w1.alloc (.cells #[.int .i64 64,.int .i64 53,.int .i64 4503599627370496,.int .i64 2047,.int .i64 (-1074),.int .i64 1024,.int .i64 9218868437227405312,.int .i64 (-9223372036854775808),.int .i64 9221120237041090561] 136)).cell? ⟨w1.heap.size,o,none⟩) (first|exact qh3 hK|(refine qh4 ?_ hk4;assumption)) (first|(go_at_call_of 173 (can a 64);refine(Zp (can a 64) qa.1 qa.2 _).mono ?_;rintro e w4 ⟨rfl,hk4⟩)|(go_at_call_of 173 (can b 64);refine(Zp (can b 64) qb.1 qb.2 _).mono ?_;rintro e w4 ⟨rfl,hk4⟩)|(go_at_call_of 174 a;refine(xf a 64 ha1 ha2 _).mono ?_;rintro e w4 ⟨rfl,hk4⟩)|(go_at_call_of 174 b;refine(xf b 64 hb1 hb2 _).mono ?_;rintro e w4 ⟨rfl,hk4⟩))
 all_goals
  go_wp2
  go_ret
  exact⟨rfl,(hk1.alloc _ _).trans (And.left ‹_›)⟩
theorem Xu (a b:Int)(ha1:-9223372036854775808≤a)(ha2:a≤9223372036854775807)(hb1:-9223372036854775808≤b)(hb2:b≤9223372036854775807)(ca:(cls a 64==4)=true)(w:World):Calls Tryz.prog 94 #[.int .i64 a,.int .i64 b,.int .i64 64] w fun e w'=>e=.returned (.bool false)∧Kept w w':=by
 go_enter Tryz.func94,Tryz.ntmps94
 go_wp2_with fail
 refine(xD _).mono ?_
 rintro e w1 ⟨rfl,hk1⟩
 go_wp2_with fail
 refine(qz a 64 ha1 ha2 _).mono ?_
 rintro e w2 ⟨rfl,hk2⟩
 go_wp2
 go_ret
 exact⟨rfl,(hk1.alloc _ _).trans hk2⟩
theorem Xv (a b:Int)(ha1:-9223372036854775808≤a)(ha2:a≤9223372036854775807)(hb1:-9223372036854775808≤b)(hb2:b≤9223372036854775807)(ca:(cls a 64==4)=false)(cb:(cls b 64==4)=true)(w:World):Calls Tryz.prog 94 #[.int .i64 a,.int .i64 b,.int .i64 64] w fun e w'=>e=.returned (.bool false)∧Kept w w':=by
 go_enter Tryz.func94,Tryz.ntmps94
 go_wp2_with fail
 refine(xD _).mono ?_
 rintro e w1 ⟨rfl,hk1⟩
 go_wp2_with fail
 refine(qz a 64 ha1 ha2 _).mono ?_
 rintro e w2 ⟨rfl,hk2⟩
 go_wp2_with fail
 refine(qz b 64 hb1 hb2 _).mono ?_
 rintro e w3 ⟨rfl,hk3⟩
 go_wp2
 go_ret
 exact⟨rfl,(hk1.alloc _ _).trans (hk2.trans hk3)⟩
theorem Jo (a b:Int)(ha1:-9223372036854775808≤a)(ha2:a≤9223372036854775807)(hb1:-9223372036854775808≤b)(hb2:b≤9223372036854775807)(ca:(cls a 32==4)=false)(cb:(cls b 32==4)=false)(w:World):Calls Tryz.prog 94 #[.int .i64 a,.int .i64 b,.int .i64 32] w fun e w'=>e=.returned (.bool (decide (rpl (can a 32) 32<rpl (can b 32) 32)))∧Kept w w':=by
 have qa:=Jm a 32 ha1 ha2
 have qb:=Jm b 32 hb1 hb2
 go_enter Tryz.func94,Tryz.ntmps94
 go_wp2_with fail
 refine(xE _).mono ?_
 rintro e w1 ⟨rfl,hk1⟩
 go_wp2_with fail
 refine(qz a 32 ha1 ha2 _).mono ?_
 rintro e w2 ⟨rfl,hk2⟩
 go_wp2_with fail
 refine(qz b 32 hb1 hb2 _).mono ?_
 rintro e w3 ⟨rfl,hk3⟩
 have hK:=hk2.trans hk3
 go_wp2
 go_region_held (fun v=>Kept (w1.alloc (.cells #[.int .i64 32,.int .i64 24,.int .i64 8388608,.int .i64 255,.int .i64 (-149),.int .i64 128,.int .i64 2139095040,.int .i64 2147483648,.int .i64 2143289345] 136)) v∧∀o,v.cell? ⟨w1.heap.size,o,none⟩=(w1.alloc (.cells #[.int .i64 32,.int .i64 24,.int .i64 8388608,.int .i64 255,.int .i64 (-149),.int .i64 128,.int .i64 2139095040,.int .i64 2147483648,.int .i64 2143289345] 136)).cell? ⟨w1.heap.size,o,none⟩) (first|exact qh3 hK|(refine qh4 ?_ hk4;assumption)) (first|(go_at_call_of 173 (can a 32);refine(Zq (can a 32) qa.1 qa.2 _).mono ?_;rintro e w4 ⟨rfl,hk4⟩)|(go_at_call_of 173 (can b 32);refine(Zq (can b 32) qb.1 qb.2 _).mono ?_;rintro e w4 ⟨rfl,hk4⟩)|(go_at_call_of 174 a;refine(xf a 32 ha1 ha2 _).mono ?_;rintro e w4 ⟨rfl,hk4⟩)|(go_at_call_of 174 b;refine(xf b 32 hb1 hb2 _).mono ?_;rintro e w4 ⟨rfl,hk4⟩))
 all_goals
  go_wp2
  go_ret
  exact⟨rfl,(hk1.alloc _ _).trans (And.left ‹_›)⟩
theorem Xw (a b:Int)(ha1:-9223372036854775808≤a)(ha2:a≤9223372036854775807)(hb1:-9223372036854775808≤b)(hb2:b≤9223372036854775807)(ca:(cls a 32==4)=true)(w:World):Calls Tryz.prog 94 #[.int .i64 a,.int .i64 b,.int .i64 32] w fun e w'=>e=.returned (.bool false)∧Kept w w':=by
 go_enter Tryz.func94,Tryz.ntmps94
 go_wp2_with fail
 refine(xE _).mono ?_
 rintro e w1 ⟨rfl,hk1⟩
 go_wp2_with fail
 refine(qz a 32 ha1 ha2 _).mono ?_
 rintro e w2 ⟨rfl,hk2⟩
 go_wp2
 go_ret
 exact⟨rfl,(hk1.alloc _ _).trans hk2⟩
theorem Xx (a b:Int)(ha1:-9223372036854775808≤a)(ha2:a≤9223372036854775807)(hb1:-9223372036854775808≤b)(hb2:b≤9223372036854775807)(ca:(cls a 32==4)=false)(cb:(cls b 32==4)=true)(w:World):Calls Tryz.prog 94 #[.int .i64 a,.int .i64 b,.int .i64 32] w fun e w'=>e=.returned (.bool false)∧Kept w w':=by
 go_enter Tryz.func94,Tryz.ntmps94
 go_wp2_with fail
 refine(xE _).mono ?_
 rintro e w1 ⟨rfl,hk1⟩
 go_wp2_with fail
 refine(qz a 32 ha1 ha2 _).mono ?_
 rintro e w2 ⟨rfl,hk2⟩
 go_wp2_with fail
 refine(qz b 32 hb1 hb2 _).mono ?_
 rintro e w3 ⟨rfl,hk3⟩
 go_wp2
 go_ret
 exact⟨rfl,(hk1.alloc _ _).trans (hk2.trans hk3)⟩
theorem qgx (a b n:Int)(h1:(n==32)=false)(h2:(n==64)=false)(w:World):Calls Tryz.prog 94 #[.int .i64 a,.int .i64 b,.int .i64 n] w fun e w'=>e=.returned (.bool false)∧Kept w w':=by
 go_enter Tryz.func94,Tryz.ntmps94
 go_wp2_with fail
 refine(qgw n h1 h2 _).mono ?_
 rintro e w1 ⟨rfl,hk1⟩
 go_wp2
 go_ret
 exact⟨rfl,hk1.alloc _ _⟩
theorem kG (b n:Int)(hb1:-9223372036854775808≤b)(hb2:b≤9223372036854775807)(h:qv b n=true):rpl (can b n) n=if jU b n<0 then jU b n-1 else jU b n:=by
 rcases vi b n h with ⟨rfl,hc⟩|⟨rfl,hc⟩
 ·unfold rpl can jU
  rw[if_pos h]
  simp only[if_true]
  (repeat' split)<;>omega
 ·have hv:=zd b hc
  have e32:¬(32:Int)=64:=by decide
  have hcan:can b 32=if b=2147483648 then 0 else b:=by
   unfold can
   rw[if_pos h,if_neg e32]
  have hcv:0≤can b 32∧can b 32<4294967296:=by rw[hcan];split<;>omega
  have ht:thr (can b 32)=true:=by simp[thr,hcv]
  have e:jo (can b 32)=decide (2147483648≤can b 32):=by simp[jo,ht,sgn]
  unfold rpl jU
  rw[if_neg e32,if_neg e32,e]
  simp only[qlm]
  rw[hcan]
  (repeat' split)<;>omega
theorem qau (a b n:Int)(ha1:-9223372036854775808≤a)(ha2:a≤9223372036854775807)(hb1:-9223372036854775808≤b)(hb2:b≤9223372036854775807)(w:World):Calls Tryz.prog 94 #[.int .i64 a,.int .i64 b,.int .i64 n] w fun e w'=>e=.returned (.bool (lss a b n))∧Kept w w':=by
 by_cases h64:n=64
 ·subst h64
  cases ca:(cls a 64==4)
  ·have ia:qv a 64=true:=by simpa [qv] using ca
   cases cb:(cls b 64==4)
   ·have ib:qv b 64=true:=by simpa [qv] using cb
    refine(Jn a b ha1 ha2 hb1 hb2 ca cb w).mono ?_
    rintro e w' ⟨rfl,hk⟩
    refine⟨zK ?_,hk⟩
    unfold lss
    rw[ia,ib,Bool.true_and,Bool.true_and,kG a 64 ha1 ha2 ia,kG b 64 hb1 hb2 ib,Bool.eq_iff_iff,qlm,qlm]
    (repeat' split)<;>omega
   ·have ib:qv b 64=false:=by simpa [qv] using cb
    refine(Xv a b ha1 ha2 hb1 hb2 ca cb w).mono ?_
    rintro e w' ⟨rfl,hk⟩
    exact⟨zK (by simp[lss,ib]),hk⟩
  ·have ia:qv a 64=false:=by simpa [qv] using ca
   refine(Xu a b ha1 ha2 hb1 hb2 ca w).mono ?_
   rintro e w' ⟨rfl,hk⟩
   exact⟨zK (by simp[lss,ia]),hk⟩
 ·by_cases h32:n=32
  ·subst h32
   cases ca:(cls a 32==4)
   ·have ia:qv a 32=true:=by simpa [qv] using ca
    cases cb:(cls b 32==4)
    ·have ib:qv b 32=true:=by simpa [qv] using cb
     refine(Jo a b ha1 ha2 hb1 hb2 ca cb w).mono ?_
     rintro e w' ⟨rfl,hk⟩
     refine⟨zK ?_,hk⟩
     unfold lss
     rw[ia,ib,Bool.true_and,Bool.true_and,kG a 32 ha1 ha2 ia,kG b 32 hb1 hb2 ib,Bool.eq_iff_iff,qlm,qlm]
     (repeat' split)<;>omega
    ·have ib:qv b 32=false:=by simpa [qv] using cb
     refine(Xx a b ha1 ha2 hb1 hb2 ca cb w).mono ?_
     rintro e w' ⟨rfl,hk⟩
     exact⟨zK (by simp[lss,ib]),hk⟩
   ·have ia:qv a 32=false:=by simpa [qv] using ca
    refine(Xw a b ha1 ha2 hb1 hb2 ca w).mono ?_
    rintro e w' ⟨rfl,hk⟩
    exact⟨zK (by simp[lss,ia]),hk⟩
  ·refine(qgx a b n (by simpa using h32) (by simpa using h64) w).mono ?_
   rintro e w' ⟨rfl,hk⟩
   exact⟨zK (by simp[lss,v8 a n h64 h32]),hk⟩
end Go.Proofs.YtelbefihigkhjaaGreatDoor

namespace Go.Proofs.YtelbefihigkhjaaGreatDoor
open Go.ChangeShapes Go.WideShapes Go.ChangeAt Go.RowKit
set_option maxHeartbeats 16000000
set_option maxRecDepth 100000
set_option linter.unusedVariables false
set_option linter.unusedSimpArgs false
theorem yT (b:Int)(u:Bool)(h1:-9223372036854775808≤b)(h2:b≤9223372036854775807)(w:World):Calls Tryz.prog 114 #[.int .i64 b,.bool u] w fun e w'=>e=.returned (.int .i64 (ckn b u))∧Kept w w':=by
 have KN:Hid (∀v,Calls Tryz.prog 127 #[.int .i64 b,.int .i64 64] v fun e w'=>e=.returned (.bool (cls b 64==4))∧Kept v w'):=fun v=>XO b 64 h1 h2 v
 have KF:Hid (∀v,Calls Tryz.prog 93 #[.int .i64 b,.int .i64 64] v fun e w'=>e=.returned (.bool (decide (cls b 64<3)))∧Kept v w'):=fun v=>yX b 64 h1 h2 v
 have hcl:cls b 64≤4:=by
  unfold cls zn
  repeat' split
  all_goals decide
 cases u
 ·by_cases hb:b=0
  ·subst hb
   have e0:ckn 0 false=0:=by decide+kernel
   rw[e0]
   go_enter Tryz.func114,Tryz.ntmps114
   go_wp2_with fail
   go_ret
   exact⟨rfl,qlv _⟩
  ·have e0:ckn b false=1:=by unfold ckn;rw[if_pos ⟨rfl,hb⟩]
   have hbb:(b==0)=false:=by simpa using hb
   rw[e0]
   clear e0
   go_enter Tryz.func114,Tryz.ntmps114
   go_wp2_with fail
   go_ret
   exact⟨rfl,qlv _⟩
 ·have e0:ckn b true=if cls b 64=4 then 30 else if cls b 64=3 then 31 else 0:=by unfold ckn;rw[if_neg (by rintro⟨h,-⟩;cases h)]
  rw[e0]
  clear e0
  generalize cls b 64=c at *
  rcases(show c=4∨c=3∨c<3 by omega)with rfl|rfl|h3
  ·go_enter Tryz.func114,Tryz.ntmps114
   go_wp2_with (first|(go_at_call 127;refine(KN.out _).mono ?_;rintro e w1 ⟨rfl,k1⟩))
   go_ret
   exact⟨rfl,k1⟩
  ·go_enter Tryz.func114,Tryz.ntmps114
   go_wp2_with (first|(go_at_call 127;refine(KN.out _).mono ?_;rintro e w1 ⟨rfl,k1⟩)|(go_at_call 93;refine(KF.out _).mono ?_;rintro e w2 ⟨rfl,k2⟩))
   go_ret
   exact⟨rfl,k1.trans k2⟩
  ·have q1:(c==4)=false:=by rw[beq_eq_false_iff_ne];omega
   have q2:¬c=4:=by omega
   have q3:¬c=3:=by omega
   rw[q1]at KN
   rw[qln h3]at KF
   rw[if_neg q2,if_neg q3]
   clear q1 q2 q3
   go_enter Tryz.func114,Tryz.ntmps114
   go_wp2_with (first|(go_at_call 127;refine(KN.out _).mono ?_;rintro e w1 ⟨rfl,k1⟩)|(go_at_call 93;refine(KF.out _).mono ?_;rintro e w2 ⟨rfl,k2⟩))
   go_ret
   exact⟨rfl,k1.trans k2⟩
theorem Ku (kd:Int)(w:World):Calls Tryz.prog 113 #[.int .i64 kd] w fun e w'=>e=.returned (.tuple #[.bool (uA kd),.bool (uB kd)])∧w=w':=by
 unfold uA uB
 by_cases h1:kd=1
 ·subst h1
  go_enter Tryz.func113,Tryz.ntmps113
  go_wp2_with fail
  exact qlu (v:=.tuple #[.bool true,.bool false]) (by simp[results,Tryz.results113,go_sem]) rfl ⟨by first|rfl|simp[h1,h2,h5],rfl⟩
 ·by_cases h2:kd=2
  ·subst h2
   go_enter Tryz.func113,Tryz.ntmps113
   go_wp2_with fail
   exact qlu (v:=.tuple #[.bool true,.bool true]) (by simp[results,Tryz.results113,go_sem]) rfl ⟨by first|rfl|simp[h1,h2,h5],rfl⟩
  ·by_cases h5:kd=5
   ·subst h5
    go_enter Tryz.func113,Tryz.ntmps113
    go_wp2_with fail
    exact qlu (v:=.tuple #[.bool true,.bool false]) (by simp[results,Tryz.results113,go_sem]) rfl ⟨by first|rfl|simp[h1,h2,h5],rfl⟩
   ·have b1:(kd==1)=false:=by simpa using h1
    have b2:(kd==2)=false:=by simpa using h2
    have b5:(kd==5)=false:=by simpa using h5
    go_enter Tryz.func113,Tryz.ntmps113
    go_wp2_with fail
    exact qlu (v:=.tuple #[.bool false,.bool false]) (by simp[results,Tryz.results113,go_sem]) rfl ⟨by first|rfl|simp[h1,h2,h5],rfl⟩
theorem Kv (kd ro co wd va vb:Int)(hk:kd<0∨5<kd)(w:World):Calls Tryz.prog 30 #[.agg #[.int .i64 kd,.int .i64 ro,.int .i64 co,.int .i64 wd,.int .i64 va,.int .i64 vb]] w fun e w'=>e=.returned (.int .i64 42)∧Kept w w':=by
 obtain⟨X,hX⟩:∃X,X=w.alloc (.cells #[.int .i64 kd,.int .i64 ro,.int .i64 co,.int .i64 wd,.int .i64 va,.int .i64 vb] 23):=⟨_,rfl⟩
 have hK:Kept w X:=by rw[hX];exact(qlv w).alloc _ _
 have hP:Q6 X w.heap.size (.int .i64 kd) (.int .i64 ro) (.int .i64 co) (.int .i64 wd) (.int .i64 va) (.int .i64 vb):=by rw[hX];exact Q6.new w _ _ _ _ _ _ _
 obtain⟨B0,hB0⟩:∃B,B=w.heap.size:=⟨_,rfl⟩
 rw[←hB0]at hP
 have HP:=(show Hid (∀u,Kept X u→Q6 u B0 (.int .i64 kd) (.int .i64 ro) (.int .i64 co) (.int .i64 wd) (.int .i64 va) (.int .i64 vb))from fun u k=>hP.kept k)
 clear hP
 go_enter Tryz.func30,Tryz.ntmps30
 go_upto_region 1 with fail
 rw[←hX,←hB0]
 clear hX hB0
 obtain⟨p0,p1,p2,p3,p4,p5⟩:=HP.out _ (qlv X)
 rcases hk with h|h
 ·go_wp2_with fail
  go_ret
  exact⟨rfl,hK⟩
 ·have h':¬kd<0:=by omega
  go_wp2_with fail
  go_ret
  exact⟨rfl,hK⟩
theorem Kw (kd ro co wd va vb q:Int)(hk:0≤kd∧kd≤5)(hq:ckS ro co wd=q)(hq0:(q==0)=false)(hq1:(q != 0)=true)(w:World):Calls Tryz.prog 30 #[.agg #[.int .i64 kd,.int .i64 ro,.int .i64 co,.int .i64 wd,.int .i64 va,.int .i64 vb]] w fun e w'=>e=.returned (.int .i64 q)∧Kept w w':=by
 have KS:Hid (∀u,Calls Tryz.prog 112 #[.int .i64 ro,.int .i64 co,.int .i64 wd] u fun e w'=>e=.returned (.int .i64 q)∧u=w'):=fun u=>by rw[←hq];exact Zv ro co wd u
 have h1:¬kd<0:=by omega
 have h2:¬5<kd:=by omega
 have h3:¬q=0:=by simpa using hq0
 clear hq
 obtain⟨X,hX⟩:∃X,X=w.alloc (.cells #[.int .i64 kd,.int .i64 ro,.int .i64 co,.int .i64 wd,.int .i64 va,.int .i64 vb] 23):=⟨_,rfl⟩
 have hK:Kept w X:=by rw[hX];exact(qlv w).alloc _ _
 have hP:Q6 X w.heap.size (.int .i64 kd) (.int .i64 ro) (.int .i64 co) (.int .i64 wd) (.int .i64 va) (.int .i64 vb):=by rw[hX];exact Q6.new w _ _ _ _ _ _ _
 obtain⟨B0,hB0⟩:∃B,B=w.heap.size:=⟨_,rfl⟩
 rw[←hB0]at hP
 have HP:=(show Hid (∀u,Kept X u→Q6 u B0 (.int .i64 kd) (.int .i64 ro) (.int .i64 co) (.int .i64 wd) (.int .i64 va) (.int .i64 vb))from fun u k=>hP.kept k)
 clear hP
 go_enter Tryz.func30,Tryz.ntmps30
 go_upto_region 1 with fail
 rw[←hX,←hB0]
 clear hX hB0
 obtain⟨p0,p1,p2,p3,p4,p5⟩:=HP.out _ (qlv X)
 go_wp2_with (first|(go_at_call 112;refine(KS.out _).mono ?_;rintro e w1 ⟨rfl,rfl⟩))
 go_ret
 exact⟨rfl,hK⟩
theorem qcm (kd ro co wd va vb:Int)(hk:0≤kd∧kd≤5)(hq:ckS ro co wd=0)(ha:-9223372036854775808≤va∧va≤9223372036854775807)(hb:-9223372036854775808≤vb∧vb≤9223372036854775807)(w:World):Calls Tryz.prog 30 #[.agg #[.int .i64 kd,.int .i64 ro,.int .i64 co,.int .i64 wd,.int .i64 va,.int .i64 vb]] w fun e w'=>e=.returned (.int .i64 (cks kd va vb))∧Kept w w':=by
 have KS:Hid (∀u,Calls Tryz.prog 112 #[.int .i64 ro,.int .i64 co,.int .i64 wd] u fun e w'=>e=.returned (.int .i64 0)∧u=w'):=fun u=>by rw[←hq];exact Zv ro co wd u
 have h1:¬kd<0:=by omega
 have h2:¬5<kd:=by omega
 have KU:Hid (∀u,Calls Tryz.prog 113 #[.int .i64 kd] u fun e w'=>e=.returned (.tuple #[.bool (uA kd),.bool (uB kd)])∧u=w'):=fun u=>Ku kd u
 have KA:Hid (∀u,Calls Tryz.prog 114 #[.int .i64 va,.bool (uA kd)] u fun e w'=>e=.returned (.int .i64 (ckn va (uA kd)))∧Kept u w'):=fun u=>yT va _ ha.1 ha.2 u
 have KB:Hid (∀u,Calls Tryz.prog 114 #[.int .i64 vb,.bool (uB kd)] u fun e w'=>e=.returned (.int .i64 (ckn vb (uB kd)))∧Kept u w'):=fun u=>yT vb _ hb.1 hb.2 u
 have KL:Hid (∀u,Calls Tryz.prog 94 #[.int .i64 vb,.int .i64 va,.int .i64 64] u fun e w'=>e=.returned (.bool (lss vb va 64))∧Kept u w'):=fun u=>qau vb va 64 hb.1 hb.2 ha.1 ha.2 u
 obtain⟨R,hR⟩:∃R,cks kd va vb=R:=⟨_,rfl⟩
 rw[hR]
 have HR:Hid ((if ckn va (uA kd)≠0 then ckn va (uA kd)else if ckn vb (uB kd)≠0 then ckn vb (uB kd)else if uB kd=true∧lss vb va 64=true then 1 else 0)=R):=hR
 have HU:Hid (uB kd=decide (kd=2)):=rfl
 clear hR hq ha hb
 generalize ckn va (uA kd)=m1 at *
 generalize ckn vb (uB kd)=m2 at *
 generalize lss vb va 64=lb at *
 generalize uA kd=ua at *
 generalize hub:uB kd=ub at *
 clear hub
 obtain⟨X,hX⟩:∃X,X=w.alloc (.cells #[.int .i64 kd,.int .i64 ro,.int .i64 co,.int .i64 wd,.int .i64 va,.int .i64 vb] 23):=⟨_,rfl⟩
 have hK:Kept w X:=by rw[hX];exact(qlv w).alloc _ _
 have hP:Q6 X w.heap.size (.int .i64 kd) (.int .i64 ro) (.int .i64 co) (.int .i64 wd) (.int .i64 va) (.int .i64 vb):=by rw[hX];exact Q6.new w _ _ _ _ _ _ _
 obtain⟨B0,hB0⟩:∃B,B=w.heap.size:=⟨_,rfl⟩
 rw[←hB0]at hP
 have HP:=(show Hid (∀u,Kept X u→Q6 u B0 (.int .i64 kd) (.int .i64 ro) (.int .i64 co) (.int .i64 wd) (.int .i64 va) (.int .i64 vb))from fun u k=>hP.kept k)
 clear hP
 go_enter Tryz.func30,Tryz.ntmps30
 go_upto_region 1 with fail
 rw[←hX,←hB0]
 clear hX hB0
 obtain⟨p0,p1,p2,p3,p4,p5⟩:=HP.out _ (qlv X)
 go_upto_region 7 with (first|(go_at_call 112;refine(KS.out _).mono ?_;rintro e w1 ⟨rfl,rfl⟩)|(go_at_call 113;refine(KU.out _).mono ?_;rintro e w1 ⟨rfl,rfl⟩))
 go_wp2_with fail
 refine(KA.out _).mono ?_
 rintro e w1 ⟨rfl,k1⟩
 clear p0 p1 p2 p3 p4 p5
 obtain⟨p0,p1,p2,p3,p4,p5⟩:=HP.out _ k1
 by_cases hm1:m1=0
 ·subst hm1
  go_wp2_with fail
  refine(KB.out _).mono ?_
  rintro e w2 ⟨rfl,k2⟩
  clear p0 p1 p2 p3 p4 p5
  obtain⟨p0,p1,p2,p3,p4,p5⟩:=HP.out _ (k1.trans k2)
  by_cases hm2:m2=0
  ·subst hm2
   by_cases h22:kd=2
   ·subst h22
    cases lb
    ·have hR:=HR.out
     have hU:=HU.out
     simp at hR hU
     subst hU
     (try simp at hR)
     subst hR
     go_wp2_with (first|(go_at_call 94;refine(KL.out _).mono ?_;rintro e w3 ⟨rfl,k3⟩))
     go_ret
     exact⟨rfl,hK.trans (k1.trans (k2.trans k3))⟩
    ·have hR:=HR.out
     have hU:=HU.out
     simp at hR hU
     subst hU
     (try simp at hR)
     subst hR
     go_wp2_with (first|(go_at_call 94;refine(KL.out _).mono ?_;rintro e w3 ⟨rfl,k3⟩))
     go_ret
     exact⟨rfl,hK.trans (k1.trans (k2.trans k3))⟩
   ·have hR:=HR.out
    have hU:=HU.out
    simp[h22]at hR hU
    subst hU
    (try simp at hR)
    subst hR
    have h23:(kd==2)=false:=by simpa using h22
    go_wp2_with fail
    go_ret
    exact⟨rfl,hK.trans (k1.trans k2)⟩
  ·have hR:=HR.out
   simp[hm2]at hR
   subst hR
   have hm3:(m2==0)=false:=by simpa using hm2
   go_wp2_with fail
   go_ret
   exact⟨rfl,hK.trans (k1.trans k2)⟩
 ·have hR:=HR.out
  simp[hm1]at hR
  subst hR
  have hm3:(m1==0)=false:=by simpa using hm1
  go_wp2_with fail
  go_ret
  exact⟨rfl,hK.trans k1⟩
end Go.Proofs.YtelbefihigkhjaaGreatDoor

namespace Go.Proofs.YtelbefihigkhjaaGreatDoor
open Go.ChangeShapes Go.WideShapes Go.ChangeAt Go.RowKit
set_option maxHeartbeats 16000000
set_option maxRecDepth 100000
set_option linter.unusedVariables false
set_option linter.unusedSimpArgs false
theorem qbc (l n:Nat)(hl:l≤n)(hn:n<100000000)(w:World):(Instr.makeSlice 26 (.int .i64 (l:Int)) (.int .i64 (n:Int))).run Tryz.prog w=.ok (.slice (some ⟨w.heap.size,0,none⟩) l n) (w.alloc (.cells (madeCells #[.int .i64 0] n) 3)):=by
 obtain⟨i,hi,hz,hs,hby⟩:=info_parts (jN)
 have:=run_make (P:=Tryz.prog) w 26 3 i (.int .i64 0) ju hi hz .i64 .i64 (l:Int) (n:Int) (by omega) (by omega) (by rw[hby];omega) (by omega)
 rw[hs,Int.toNat_natCast,Int.toNat_natCast,Nat.mul_one]at this
 exact this
theorem qbd (l n:Nat)(hl:l≤n)(hn:n<100000000)(w:World):Own (w.alloc (.cells (madeCells #[.int .i64 0] n) 3)) w.heap.size n (List.replicate l 0):=by
 refine⟨_,heap_alloc_new w _,by simpa using hl,by simp[maxLen];omega,by simp[size_madeCells],?_⟩
 rw[List.length_replicate,toList_madeCells_one]
 simp[List.take_replicate,Nat.min_eq_left hl]
theorem Grw.size {g:Nat}{a b:World}(h:Grw g a b):a.heap.size≤b.heap.size:=h.grown.size
def Rgl (L:List Int):Prop:=∀i,i<L.length→-9223372036854775808≤L.getD i 0∧L.getD i 0≤9223372036854775807
theorem qk8 (w:World)(B:Nat)(a b c d:Value)(h:M4 w B a b c d)(x y z u:Value):M4 ((((w.setCell ⟨B,0,none⟩ x).setCell ⟨B,1,none⟩ y).setCell ⟨B,2,none⟩ z).setCell ⟨B,3,none⟩ u) B x y z u:=by
 obtain⟨c0,c1,c2,c3⟩:=h
 exact⟨by simp[go_sem, *],by simp[go_sem, *],by simp[go_sem, *],by simp[go_sem, *]⟩
end Go.Proofs.YtelbefihigkhjaaGreatDoor

namespace Go.Proofs.YtelbefihigkhjaaGreatDoor
open Go.ChangeShapes Go.WideShapes Go.ChangeAt Go.RowKit
set_option maxHeartbeats 16000000
set_option maxRecDepth 100000
set_option linter.unusedVariables false
set_option linter.unusedSimpArgs false
end Go.Proofs.YtelbefihigkhjaaGreatDoor

namespace Go.Proofs.YtelbefihigkhjaaGreatDoor
open Go.ChangeShapes Go.WideShapes Go.ChangeAt Go.RowKit Ieee
set_option maxHeartbeats 16000000
set_option maxRecDepth 100000
set_option linter.unusedVariables false
set_option linter.unusedSimpArgs false
end Go.Proofs.YtelbefihigkhjaaGreatDoor

namespace Go.Proofs.YtelbefihigkhjaaGreatDoor
open Go.ChangeShapes Go.WideShapes Go.ChangeAt Go.RowKit
set_option maxHeartbeats 16000000
set_option maxRecDepth 100000
set_option linter.unusedVariables false
set_option linter.unusedSimpArgs false
structure Bk (w:World) (b:Nat) (vs:List Value):Prop where
 c:∀i v,vs[i]?=some v→w.cell? ⟨b,i,none⟩=some v
 fz:∀o,w.frozen? ⟨b,o,none⟩=false
 lt:b<w.heap.size
theorem Bk.new (w:World)(vs:List Value)(t:TypeId):Bk (w.alloc (.cells vs.toArray t)) w.heap.size vs:=by
 refine⟨fun i v h=>?_,fun o=>by simp[go_sem],by simp⟩
 rw[cell_of_row _ w.heap.size i vs.toArray t (0,0) (heap_alloc_new w _)]
 simpa using h
theorem Bk.gs {S:List Nat}{w w':World}{b:Nat}{vs:List Value}(h:Bk w b vs)(k:Gs S w w')(hn:b∉S):Bk w' b vs:=
 ⟨fun i v e=>(k.cell b i h.lt hn).trans (h.c i v e),fun o=>(k.frozen _).trans (h.fz o),qlf h.lt k.size⟩
theorem Bk.kept {w w':World}{b:Nat}{vs:List Value}(h:Bk w b vs)(k:Kept w w'):Bk w' b vs:=h.gs (k.gs []) (fun h=>by cases h)
theorem Bk.alloc {w:World}{b:Nat}{vs:List Value}(h:Bk w b vs)(c:Array Value)(t:TypeId):Bk (w.alloc (.cells c t)) b vs:=h.kept ((qlv w).alloc c t)
end Go.Proofs.YtelbefihigkhjaaGreatDoor
