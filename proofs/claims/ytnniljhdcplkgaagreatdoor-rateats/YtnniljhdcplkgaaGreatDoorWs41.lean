/-  -/
import Derived.Test.YtnniljhdcplkgaaGreatDoorWs40
import Derived.Deep.RegionHeld
import Derived.Test.YtnniljhdcplkgaaGreatDoorWs14
import Derived.Test.YtnniljhdcplkgaaGreatDoorWs39
namespace Go.Proofs.YtnniljhdcplkgaaGreatDoor
open Go.ChangeShapes Go.WideShapes Go.ChangeAt Go.RowKit
set_option maxHeartbeats 16000000
set_option maxRecDepth 100000
set_option linter.unusedVariables false
theorem rplace_64_yes (b:Int)(hb1:-9223372036854775808≤b)(hb2:b≤9223372036854775807)(hs:sgn b 64=true)(hg:b<0)(w:World):Calls Tryz.prog 115 #[.agg #[.int .i64 64,.int .i64 53,.int .i64 4503599627370496,.int .i64 2047,.int .i64 (-1074),.int .i64 1024,.int .i64 9218868437227405312,.int .i64 (-9223372036854775808),.int .i64 9221120237041090561],.int .i64 b] w fun e w'=>e=.returned (.int .i64 (-(b- -9223372036854775808)-1))∧Kept w w':=by
 go_enter Tryz.func115,Tryz.ntmps115
 go_wp2_with (first|(go_at_call 138;refine(negative_64 _ hb1 hb2 _).mono ?_;rintro e w2 ⟨rfl,hk2⟩;have hcl:=laid_cell hk2))
 go_ret
 exact⟨ret_int (by(try unfold wrap64);omega),((Kept.refl _).alloc _ _).trans hk2⟩
theorem rplace_64_no (b:Int)(hb1:-9223372036854775808≤b)(hb2:b≤9223372036854775807)(hs:sgn b 64=false)(w:World):Calls Tryz.prog 115 #[.agg #[.int .i64 64,.int .i64 53,.int .i64 4503599627370496,.int .i64 2047,.int .i64 (-1074),.int .i64 1024,.int .i64 9218868437227405312,.int .i64 (-9223372036854775808),.int .i64 9221120237041090561],.int .i64 b] w fun e w'=>e=.returned (.int .i64 b)∧Kept w w':=by
 go_enter Tryz.func115,Tryz.ntmps115
 go_wp2_with (first|(go_at_call 138;refine(negative_64 _ hb1 hb2 _).mono ?_;rintro e w2 ⟨rfl,hk2⟩;have hcl:=laid_cell hk2))
 go_ret
 exact⟨rfl,((Kept.refl _).alloc _ _).trans hk2⟩
theorem rplace_32_yes (b:Int)(hb1:-9223372036854775808≤b)(hb2:b≤9223372036854775807)(hs:sg32 b=true)(hg:2147483648≤b)(w:World):Calls Tryz.prog 115 #[.agg #[.int .i64 32,.int .i64 24,.int .i64 8388608,.int .i64 255,.int .i64 (-149),.int .i64 128,.int .i64 2139095040,.int .i64 2147483648,.int .i64 2143289345],.int .i64 b] w fun e w'=>e=.returned (.int .i64 (-(b-2147483648)-1))∧Kept w w':=by
 go_enter Tryz.func115,Tryz.ntmps115
 go_wp2_with (first|(go_at_call 138;refine(negative_32 _ _).mono ?_;rintro e w2 ⟨rfl,hk2⟩;have hcl:=laid_cell hk2))
 go_ret
 exact⟨ret_int (by(try unfold wrap64);omega),((Kept.refl _).alloc _ _).trans hk2⟩
theorem rplace_32_no (b:Int)(hb1:-9223372036854775808≤b)(hb2:b≤9223372036854775807)(hs:sg32 b=false)(w:World):Calls Tryz.prog 115 #[.agg #[.int .i64 32,.int .i64 24,.int .i64 8388608,.int .i64 255,.int .i64 (-149),.int .i64 128,.int .i64 2139095040,.int .i64 2147483648,.int .i64 2143289345],.int .i64 b] w fun e w'=>e=.returned (.int .i64 b)∧Kept w w':=by
 go_enter Tryz.func115,Tryz.ntmps115
 go_wp2_with (first|(go_at_call 138;refine(negative_32 _ _).mono ?_;rintro e w2 ⟨rfl,hk2⟩;have hcl:=laid_cell hk2))
 go_ret
 exact⟨rfl,((Kept.refl _).alloc _ _).trans hk2⟩
theorem keep0 {x v:World}{c:Array Value}{t:TypeId}(h:Kept (x.alloc (.cells c t)) v):Kept (x.alloc (.cells c t)) v.drew∧∀o,v.drew.cell? ⟨x.heap.size,o,none⟩=(x.alloc (.cells c t)).cell? ⟨x.heap.size,o,none⟩:=⟨h.drew,laid_cell h.drew⟩
theorem keep1 {x v v':World}{c:Array Value}{t:TypeId}(h:Kept (x.alloc (.cells c t)) v∧∀o,v.cell? ⟨x.heap.size,o,none⟩=(x.alloc (.cells c t)).cell? ⟨x.heap.size,o,none⟩)(k:Kept v v'):Kept (x.alloc (.cells c t)) v'∧∀o,v'.cell? ⟨x.heap.size,o,none⟩=(x.alloc (.cells c t)).cell? ⟨x.heap.size,o,none⟩:=⟨h.1.trans k,laid_cell (h.1.trans k)⟩
def rpl (b n:Int):Int:=if n=64 then (if b<0 then -1-b%9223372036854775808 else b)else (if sg32 b=true then -1-b%2147483648 else b)
theorem rplace_64 (b:Int)(hb1:-9223372036854775808≤b)(hb2:b≤9223372036854775807)(w:World):Calls Tryz.prog 115 #[.agg #[.int .i64 64,.int .i64 53,.int .i64 4503599627370496,.int .i64 2047,.int .i64 (-1074),.int .i64 1024,.int .i64 9218868437227405312,.int .i64 (-9223372036854775808),.int .i64 9221120237041090561],.int .i64 b] w fun e w'=>e=.returned (.int .i64 (rpl b 64))∧Kept w w':=by
 by_cases h:b<0
 ·refine(rplace_64_yes b hb1 hb2 (by simp[sgn,h]) h w).mono ?_
  rintro e w' ⟨rfl,hk⟩
  exact⟨ret_int (by unfold rpl;rw[if_pos rfl,if_pos h];omega),hk⟩
 ·refine(rplace_64_no b hb1 hb2 (by simp[sgn];omega) w).mono ?_
  rintro e w' ⟨rfl,hk⟩
  exact⟨ret_int (by unfold rpl;rw[if_pos rfl,if_neg h]),hk⟩
theorem sg32_inv (b:Int)(h:sg32 b=true):2147483648≤b∧b<4294967296:=by
 simp[sg32,thr,sgn]at h
 omega
theorem rplace_32 (b:Int)(hb1:-9223372036854775808≤b)(hb2:b≤9223372036854775807)(w:World):Calls Tryz.prog 115 #[.agg #[.int .i64 32,.int .i64 24,.int .i64 8388608,.int .i64 255,.int .i64 (-149),.int .i64 128,.int .i64 2139095040,.int .i64 2147483648,.int .i64 2143289345],.int .i64 b] w fun e w'=>e=.returned (.int .i64 (rpl b 32))∧Kept w w':=by
 cases h:sg32 b
 ·refine(rplace_32_no b hb1 hb2 h w).mono ?_
  rintro e w' ⟨rfl,hk⟩
  exact⟨ret_int (by unfold rpl;rw[if_neg (by decide),if_neg (by rw[h];decide)]),hk⟩
 ·have hv:=sg32_inv b h
  refine(rplace_32_yes b hb1 hb2 h hv.1 w).mono ?_
  rintro e w' ⟨rfl,hk⟩
  exact⟨ret_int (by unfold rpl;rw[if_neg (by decide),if_pos h];omega),hk⟩
end Go.Proofs.YtnniljhdcplkgaaGreatDoor

namespace Go.Proofs.YtnniljhdcplkgaaGreatDoor
open Go.ChangeShapes Go.WideShapes Go.ChangeAt Go.RowKit
set_option maxHeartbeats 16000000
set_option maxRecDepth 100000
set_option linter.unusedVariables false
end Go.Proofs.YtnniljhdcplkgaaGreatDoor

namespace Go.Proofs.YtnniljhdcplkgaaGreatDoor
open Go.ChangeShapes Go.WideShapes Go.ChangeAt Go.RowKit
set_option maxHeartbeats 16000000
set_option maxRecDepth 100000
set_option linter.unusedVariables false
set_option linter.unusedSimpArgs false
theorem can_bd (b n:Int)(hb1:-9223372036854775808≤b)(hb2:b≤9223372036854775807):-9223372036854775808≤can b n∧can b n≤9223372036854775807:=by
 have:=nanOf_bd n
 unfold can
 (repeat' split)<;>omega
theorem rless_64_num (a b:Int)(ha1:-9223372036854775808≤a)(ha2:a≤9223372036854775807)(hb1:-9223372036854775808≤b)(hb2:b≤9223372036854775807)(ca:(cls a 64==4)=false)(cb:(cls b 64==4)=false)(w:World):Calls Tryz.prog 76 #[.int .i64 a,.int .i64 b,.int .i64 64] w fun e w'=>e=.returned (.bool (decide (rpl (can a 64) 64<rpl (can b 64) 64)))∧Kept w w':=by
 have qa:=can_bd a 64 ha1 ha2
 have qb:=can_bd b 64 hb1 hb2
 go_enter Tryz.func76,Tryz.ntmps76
 go_wp2_with fail
 refine(of_64 _).mono ?_
 rintro e w1 ⟨rfl,hk1⟩
 go_wp2_with fail
 refine(rclass_any a 64 ha1 ha2 _).mono ?_
 rintro e w2 ⟨rfl,hk2⟩
 go_wp2_with fail
 refine(rclass_any b 64 hb1 hb2 _).mono ?_
 rintro e w3 ⟨rfl,hk3⟩
 have hK:=hk2.trans hk3
 go_wp2
 go_region_held (fun v=>Kept (w1.alloc (.cells #[.int .i64 64,.int .i64 53,.int .i64 4503599627370496,.int .i64 2047,.int .i64 (-1074),.int .i64 1024,.int .i64 9218868437227405312,.int .i64 (-9223372036854775808),.int .i64 9221120237041090561] 66)) v∧∀o,v.cell? ⟨w1.heap.size,o,none⟩=(w1.alloc (.cells #[.int .i64 64,.int .i64 53,.int .i64 4503599627370496,.int .i64 2047,.int .i64 (-1074),.int .i64 1024,.int .i64 9218868437227405312,.int .i64 (-9223372036854775808),.int .i64 9221120237041090561] 66)).cell? ⟨w1.heap.size,o,none⟩) (first|exact keep0 hK|(refine keep1 ?_ hk4;assumption)) (first|(go_at_call_of 115 (can a 64);refine(rplace_64 (can a 64) qa.1 qa.2 _).mono ?_;rintro e w4 ⟨rfl,hk4⟩)|(go_at_call_of 115 (can b 64);refine(rplace_64 (can b 64) qb.1 qb.2 _).mono ?_;rintro e w4 ⟨rfl,hk4⟩)|(go_at_call_of 116 a;refine(rcanon_any a 64 ha1 ha2 _).mono ?_;rintro e w4 ⟨rfl,hk4⟩)|(go_at_call_of 116 b;refine(rcanon_any b 64 hb1 hb2 _).mono ?_;rintro e w4 ⟨rfl,hk4⟩))
 all_goals
  go_wp2
  go_ret
  exact⟨rfl,(hk1.alloc _ _).trans (And.left ‹_›)⟩
theorem rless_64_na (a b:Int)(ha1:-9223372036854775808≤a)(ha2:a≤9223372036854775807)(hb1:-9223372036854775808≤b)(hb2:b≤9223372036854775807)(ca:(cls a 64==4)=true)(w:World):Calls Tryz.prog 76 #[.int .i64 a,.int .i64 b,.int .i64 64] w fun e w'=>e=.returned (.bool false)∧Kept w w':=by
 go_enter Tryz.func76,Tryz.ntmps76
 go_wp2_with fail
 refine(of_64 _).mono ?_
 rintro e w1 ⟨rfl,hk1⟩
 go_wp2_with fail
 refine(rclass_any a 64 ha1 ha2 _).mono ?_
 rintro e w2 ⟨rfl,hk2⟩
 go_wp2
 go_ret
 exact⟨rfl,(hk1.alloc _ _).trans hk2⟩
theorem rless_64_nb (a b:Int)(ha1:-9223372036854775808≤a)(ha2:a≤9223372036854775807)(hb1:-9223372036854775808≤b)(hb2:b≤9223372036854775807)(ca:(cls a 64==4)=false)(cb:(cls b 64==4)=true)(w:World):Calls Tryz.prog 76 #[.int .i64 a,.int .i64 b,.int .i64 64] w fun e w'=>e=.returned (.bool false)∧Kept w w':=by
 go_enter Tryz.func76,Tryz.ntmps76
 go_wp2_with fail
 refine(of_64 _).mono ?_
 rintro e w1 ⟨rfl,hk1⟩
 go_wp2_with fail
 refine(rclass_any a 64 ha1 ha2 _).mono ?_
 rintro e w2 ⟨rfl,hk2⟩
 go_wp2_with fail
 refine(rclass_any b 64 hb1 hb2 _).mono ?_
 rintro e w3 ⟨rfl,hk3⟩
 go_wp2
 go_ret
 exact⟨rfl,(hk1.alloc _ _).trans (hk2.trans hk3)⟩
theorem rless_32_num (a b:Int)(ha1:-9223372036854775808≤a)(ha2:a≤9223372036854775807)(hb1:-9223372036854775808≤b)(hb2:b≤9223372036854775807)(ca:(cls a 32==4)=false)(cb:(cls b 32==4)=false)(w:World):Calls Tryz.prog 76 #[.int .i64 a,.int .i64 b,.int .i64 32] w fun e w'=>e=.returned (.bool (decide (rpl (can a 32) 32<rpl (can b 32) 32)))∧Kept w w':=by
 have qa:=can_bd a 32 ha1 ha2
 have qb:=can_bd b 32 hb1 hb2
 go_enter Tryz.func76,Tryz.ntmps76
 go_wp2_with fail
 refine(of_32 _).mono ?_
 rintro e w1 ⟨rfl,hk1⟩
 go_wp2_with fail
 refine(rclass_any a 32 ha1 ha2 _).mono ?_
 rintro e w2 ⟨rfl,hk2⟩
 go_wp2_with fail
 refine(rclass_any b 32 hb1 hb2 _).mono ?_
 rintro e w3 ⟨rfl,hk3⟩
 have hK:=hk2.trans hk3
 go_wp2
 go_region_held (fun v=>Kept (w1.alloc (.cells #[.int .i64 32,.int .i64 24,.int .i64 8388608,.int .i64 255,.int .i64 (-149),.int .i64 128,.int .i64 2139095040,.int .i64 2147483648,.int .i64 2143289345] 66)) v∧∀o,v.cell? ⟨w1.heap.size,o,none⟩=(w1.alloc (.cells #[.int .i64 32,.int .i64 24,.int .i64 8388608,.int .i64 255,.int .i64 (-149),.int .i64 128,.int .i64 2139095040,.int .i64 2147483648,.int .i64 2143289345] 66)).cell? ⟨w1.heap.size,o,none⟩) (first|exact keep0 hK|(refine keep1 ?_ hk4;assumption)) (first|(go_at_call_of 115 (can a 32);refine(rplace_32 (can a 32) qa.1 qa.2 _).mono ?_;rintro e w4 ⟨rfl,hk4⟩)|(go_at_call_of 115 (can b 32);refine(rplace_32 (can b 32) qb.1 qb.2 _).mono ?_;rintro e w4 ⟨rfl,hk4⟩)|(go_at_call_of 116 a;refine(rcanon_any a 32 ha1 ha2 _).mono ?_;rintro e w4 ⟨rfl,hk4⟩)|(go_at_call_of 116 b;refine(rcanon_any b 32 hb1 hb2 _).mono ?_;rintro e w4 ⟨rfl,hk4⟩))
 all_goals
  go_wp2
  go_ret
  exact⟨rfl,(hk1.alloc _ _).trans (And.left ‹_›)⟩
theorem rless_32_na (a b:Int)(ha1:-9223372036854775808≤a)(ha2:a≤9223372036854775807)(hb1:-9223372036854775808≤b)(hb2:b≤9223372036854775807)(ca:(cls a 32==4)=true)(w:World):Calls Tryz.prog 76 #[.int .i64 a,.int .i64 b,.int .i64 32] w fun e w'=>e=.returned (.bool false)∧Kept w w':=by
 go_enter Tryz.func76,Tryz.ntmps76
 go_wp2_with fail
 refine(of_32 _).mono ?_
 rintro e w1 ⟨rfl,hk1⟩
 go_wp2_with fail
 refine(rclass_any a 32 ha1 ha2 _).mono ?_
 rintro e w2 ⟨rfl,hk2⟩
 go_wp2
 go_ret
 exact⟨rfl,(hk1.alloc _ _).trans hk2⟩
theorem rless_32_nb (a b:Int)(ha1:-9223372036854775808≤a)(ha2:a≤9223372036854775807)(hb1:-9223372036854775808≤b)(hb2:b≤9223372036854775807)(ca:(cls a 32==4)=false)(cb:(cls b 32==4)=true)(w:World):Calls Tryz.prog 76 #[.int .i64 a,.int .i64 b,.int .i64 32] w fun e w'=>e=.returned (.bool false)∧Kept w w':=by
 go_enter Tryz.func76,Tryz.ntmps76
 go_wp2_with fail
 refine(of_32 _).mono ?_
 rintro e w1 ⟨rfl,hk1⟩
 go_wp2_with fail
 refine(rclass_any a 32 ha1 ha2 _).mono ?_
 rintro e w2 ⟨rfl,hk2⟩
 go_wp2_with fail
 refine(rclass_any b 32 hb1 hb2 _).mono ?_
 rintro e w3 ⟨rfl,hk3⟩
 go_wp2
 go_ret
 exact⟨rfl,(hk1.alloc _ _).trans (hk2.trans hk3)⟩
theorem rless_0 (a b n:Int)(h1:(n==32)=false)(h2:(n==64)=false)(w:World):Calls Tryz.prog 76 #[.int .i64 a,.int .i64 b,.int .i64 n] w fun e w'=>e=.returned (.bool false)∧Kept w w':=by
 go_enter Tryz.func76,Tryz.ntmps76
 go_wp2_with fail
 refine(of_0 n h1 h2 _).mono ?_
 rintro e w1 ⟨rfl,hk1⟩
 go_wp2
 go_ret
 exact⟨rfl,hk1.alloc _ _⟩
theorem rpl_can (b n:Int)(hb1:-9223372036854775808≤b)(hb2:b≤9223372036854775807)(h:isnum b n=true):rpl (can b n) n=if keyOf b n<0 then keyOf b n-1 else keyOf b n:=by
 rcases isnum_inv b n h with ⟨rfl,hc⟩|⟨rfl,hc⟩
 ·unfold rpl can keyOf
  rw[if_pos h]
  simp only[if_true]
  (repeat' split)<;>omega
 ·have hv:=cls_valid b hc
  have e32:¬(32:Int)=64:=by decide
  have hcan:can b 32=if b=2147483648 then 0 else b:=by
   unfold can
   rw[if_pos h,if_neg e32]
  have hcv:0≤can b 32∧can b 32<4294967296:=by rw[hcan];split<;>omega
  have ht:thr (can b 32)=true:=by simp[thr,hcv]
  have e:sg32 (can b 32)=decide (2147483648≤can b 32):=by simp[sg32,ht,sgn]
  unfold rpl keyOf
  rw[if_neg e32,if_neg e32,e]
  simp only[decide_eq_true_eq]
  rw[hcan]
  (repeat' split)<;>omega
theorem rless_any (a b n:Int)(ha1:-9223372036854775808≤a)(ha2:a≤9223372036854775807)(hb1:-9223372036854775808≤b)(hb2:b≤9223372036854775807)(w:World):Calls Tryz.prog 76 #[.int .i64 a,.int .i64 b,.int .i64 n] w fun e w'=>e=.returned (.bool (lss a b n))∧Kept w w':=by
 by_cases h64:n=64
 ·subst h64
  cases ca:(cls a 64==4)
  ·have ia:isnum a 64=true:=by simpa [isnum] using ca
   cases cb:(cls b 64==4)
   ·have ib:isnum b 64=true:=by simpa [isnum] using cb
    refine(rless_64_num a b ha1 ha2 hb1 hb2 ca cb w).mono ?_
    rintro e w' ⟨rfl,hk⟩
    refine⟨ret_truth ?_,hk⟩
    unfold lss
    rw[ia,ib,Bool.true_and,Bool.true_and,rpl_can a 64 ha1 ha2 ia,rpl_can b 64 hb1 hb2 ib,Bool.eq_iff_iff,decide_eq_true_eq,decide_eq_true_eq]
    (repeat' split)<;>omega
   ·have ib:isnum b 64=false:=by simpa [isnum] using cb
    refine(rless_64_nb a b ha1 ha2 hb1 hb2 ca cb w).mono ?_
    rintro e w' ⟨rfl,hk⟩
    exact⟨ret_truth (by simp[lss,ib]),hk⟩
  ·have ia:isnum a 64=false:=by simpa [isnum] using ca
   refine(rless_64_na a b ha1 ha2 hb1 hb2 ca w).mono ?_
   rintro e w' ⟨rfl,hk⟩
   exact⟨ret_truth (by simp[lss,ia]),hk⟩
 ·by_cases h32:n=32
  ·subst h32
   cases ca:(cls a 32==4)
   ·have ia:isnum a 32=true:=by simpa [isnum] using ca
    cases cb:(cls b 32==4)
    ·have ib:isnum b 32=true:=by simpa [isnum] using cb
     refine(rless_32_num a b ha1 ha2 hb1 hb2 ca cb w).mono ?_
     rintro e w' ⟨rfl,hk⟩
     refine⟨ret_truth ?_,hk⟩
     unfold lss
     rw[ia,ib,Bool.true_and,Bool.true_and,rpl_can a 32 ha1 ha2 ia,rpl_can b 32 hb1 hb2 ib,Bool.eq_iff_iff,decide_eq_true_eq,decide_eq_true_eq]
     (repeat' split)<;>omega
    ·have ib:isnum b 32=false:=by simpa [isnum] using cb
     refine(rless_32_nb a b ha1 ha2 hb1 hb2 ca cb w).mono ?_
     rintro e w' ⟨rfl,hk⟩
     exact⟨ret_truth (by simp[lss,ib]),hk⟩
   ·have ia:isnum a 32=false:=by simpa [isnum] using ca
    refine(rless_32_na a b ha1 ha2 hb1 hb2 ca w).mono ?_
    rintro e w' ⟨rfl,hk⟩
    exact⟨ret_truth (by simp[lss,ia]),hk⟩
  ·refine(rless_0 a b n (by simpa using h32) (by simpa using h64) w).mono ?_
   rintro e w' ⟨rfl,hk⟩
   exact⟨ret_truth (by simp[lss,isnum_0 a n h64 h32]),hk⟩
end Go.Proofs.YtnniljhdcplkgaaGreatDoor

namespace Go.Proofs.YtnniljhdcplkgaaGreatDoor
open Go.ChangeShapes Go.WideShapes Go.ChangeAt Go.RowKit
set_option maxHeartbeats 16000000
set_option maxRecDepth 100000
set_option linter.unusedVariables false
set_option linter.unusedSimpArgs false
def cnt (n:Int):Bool:=decide (0≤n∧n≤1099511627776)
theorem isCount_any (n:Int)(w:World):Calls Tryz.prog 9 #[.int .i64 n] w fun e w'=>e=.returned (.bool (cnt n))∧Kept w w':=by
 unfold cnt
 go_enter Tryz.func9,Tryz.ntmps9
 by_cases h0:0≤n
 ·by_cases h1:n≤1099511627776
  ·rw[decide_eq_true ⟨h0,h1⟩]
   go_wp2
   go_ret
   exact⟨by simp[h0,h1],Kept.refl _⟩
  ·rw[decide_eq_false (fun h=>h1 h.2)]
   go_wp2
   go_ret
   exact⟨by simp[h0,h1],Kept.refl _⟩
 ·rw[decide_eq_false (fun h=>h0 h.1)]
  go_wp2
  go_ret
  exact⟨by simp[h0],Kept.refl _⟩
theorem isSize_walk (b:Int)(l:Bool)(KL:Hid (∀w:World,Calls Tryz.prog 39 #[.int .i64 b,.int .i64 0,.int .i64 64] w fun e w'=>e=.returned (.bool l)∧Kept w w'))(w:World):Calls Tryz.prog 20 #[.int .i64 b] w fun e w'=>e=.returned (.bool (decide (cls b 64<3)&&!l))∧Kept w w':=by
 have KC:Hid (∀v,Calls Tryz.prog 11 #[.int .i64 b,.int .i64 64] v fun e w'=>e=.returned (.int .i64 (cls b 64))∧Kept v w'):=fun v=>class_any b 64 v
 obtain⟨c,hc⟩:∃c,cls b 64=c:=⟨_,rfl⟩
 rw[hc]at KC ⊢
 go_enter Tryz.func20,Tryz.ntmps20
 by_cases h:c<3
 ·rw[decide_eq_true h]
  go_wp2_with fail
  refine(KC.out _).mono ?_
  rintro e w1 ⟨rfl,k1⟩
  go_wp2_with fail
  refine(KL.out _).mono ?_
  rintro e w2 ⟨rfl,k2⟩
  go_wp2_with fail
  go_ret
  exact⟨by simp,k1.trans k2⟩
 ·rw[decide_eq_false h]
  go_wp2_with fail
  refine(KC.out _).mono ?_
  rintro e w1 ⟨rfl,k1⟩
  go_wp2_with fail
  go_ret
  exact⟨by simp,k1⟩
theorem counts_no (kd ba fa wa ev tt:Int)(b1 b2 b3:Bool)(hb:(b1&&b2&&b3)=false)(w:World)
  (K1:Hid (∀u:World,Calls Tryz.prog 9 #[.int .i64 wa] u fun e w'=>e=.returned (.bool b1)∧Kept u w'))
  (K2:Hid (∀u:World,Calls Tryz.prog 9 #[.int .i64 ev] u fun e w'=>e=.returned (.bool b2)∧Kept u w'))
  (K3:Hid (∀u:World,Calls Tryz.prog 9 #[.int .i64 tt] u fun e w'=>e=.returned (.bool b3)∧Kept u w')):
  Calls Tryz.prog 21 #[.agg #[.int .i64 kd,.int .i64 ba,.int .i64 fa,.int .i64 wa,.int .i64 ev,.int .i64 tt]] w fun e w'=>e=.returned (.bool false)∧Kept w w':=by
 obtain⟨X,hX⟩:∃X,X=w.alloc (.cells #[.int .i64 kd,.int .i64 ba,.int .i64 fa,.int .i64 wa,.int .i64 ev,.int .i64 tt] 23):=⟨_,rfl⟩
 have hK:Kept w X:=by rw[hX];exact(Kept.refl w).alloc _ _
 have HS0:Hid (∀u,Kept X u→u.cell? ⟨w.heap.size,0,none⟩=some (.int .i64 kd)∧u.cell? ⟨w.heap.size,1,none⟩=some (.int .i64 ba)∧u.cell? ⟨w.heap.size,2,none⟩=some (.int .i64 fa)∧u.cell? ⟨w.heap.size,3,none⟩=some (.int .i64 wa)∧u.cell? ⟨w.heap.size,4,none⟩=some (.int .i64 ev)∧u.cell? ⟨w.heap.size,5,none⟩=some (.int .i64 tt)):=fun u k=>sch_cells w kd ba fa wa ev tt _ X hX u k
 obtain⟨B0,hB0⟩:∃B,B=w.heap.size:=⟨_,rfl⟩
 rw[←hB0]at HS0
 go_enter Tryz.func21,Tryz.ntmps21
 go_upto_region 1 with fail
 rw[←hX,←hB0]
 have hBX:B0<X.heap.size:=by rw[hB0,hX];simp
 clear hX hB0
 obtain⟨c0,c1,c2,c3,c4,c5⟩:=HS0.out _ (Kept.refl X)
 go_wp2_with fail
 refine(K1.out _).mono ?_
 rintro e w1 ⟨rfl,k1⟩
 clear c0 c1 c2 c3 c4 c5
 obtain⟨c0,c1,c2,c3,c4,c5⟩:=HS0.out _ k1
 cases b1
 ·go_wp2_with fail
  go_ret
  exact⟨rfl,hK.trans k1⟩
 ·go_wp2_with fail
  refine(K2.out _).mono ?_
  rintro e w2 ⟨rfl,k2⟩
  clear c0 c1 c2 c3 c4 c5
  obtain⟨c0,c1,c2,c3,c4,c5⟩:=HS0.out _ (k1.trans k2)
  cases b2
  ·go_wp2_with fail
   go_ret
   exact⟨rfl,hK.trans (k1.trans k2)⟩
  ·obtain rfl:b3=false:=by simpa using hb
   go_wp2_with fail
   refine(K3.out _).mono ?_
   rintro e w3 ⟨rfl,k3⟩
   go_wp2_with fail
   go_ret
   exact⟨rfl,hK.trans (k1.trans (k2.trans k3))⟩
def cok (kd ev tt:Int):Bool:=if kd=1∨kd=3∨kd=4 then decide (0<ev)else if kd=2 then decide (0<tt)else if kd=5 then (decide (0<ev)&&decide (ev≤8)&&decide (0<tt))else true
theorem counts_yes (kd ba fa wa ev tt:Int)(hk:kd=0∨kd=1∨kd=2∨kd=3∨kd=4∨kd=5)(w:World)
  (K1:Hid (∀u:World,Calls Tryz.prog 9 #[.int .i64 wa] u fun e w'=>e=.returned (.bool true)∧Kept u w'))
  (K2:Hid (∀u:World,Calls Tryz.prog 9 #[.int .i64 ev] u fun e w'=>e=.returned (.bool true)∧Kept u w'))
  (K3:Hid (∀u:World,Calls Tryz.prog 9 #[.int .i64 tt] u fun e w'=>e=.returned (.bool true)∧Kept u w')):
  Calls Tryz.prog 21 #[.agg #[.int .i64 kd,.int .i64 ba,.int .i64 fa,.int .i64 wa,.int .i64 ev,.int .i64 tt]] w fun e w'=>e=.returned (.bool (cok kd ev tt))∧Kept w w':=by
 obtain⟨X,hX⟩:∃X,X=w.alloc (.cells #[.int .i64 kd,.int .i64 ba,.int .i64 fa,.int .i64 wa,.int .i64 ev,.int .i64 tt] 23):=⟨_,rfl⟩
 have hK:Kept w X:=by rw[hX];exact(Kept.refl w).alloc _ _
 have HS0:Hid (∀u,Kept X u→u.cell? ⟨w.heap.size,0,none⟩=some (.int .i64 kd)∧u.cell? ⟨w.heap.size,1,none⟩=some (.int .i64 ba)∧u.cell? ⟨w.heap.size,2,none⟩=some (.int .i64 fa)∧u.cell? ⟨w.heap.size,3,none⟩=some (.int .i64 wa)∧u.cell? ⟨w.heap.size,4,none⟩=some (.int .i64 ev)∧u.cell? ⟨w.heap.size,5,none⟩=some (.int .i64 tt)):=fun u k=>sch_cells w kd ba fa wa ev tt _ X hX u k
 obtain⟨B0,hB0⟩:∃B,B=w.heap.size:=⟨_,rfl⟩
 rw[←hB0]at HS0
 go_enter Tryz.func21,Tryz.ntmps21
 go_upto_region 1 with fail
 rw[←hX,←hB0]
 have hBX:B0<X.heap.size:=by rw[hB0,hX];simp
 clear hX hB0
 obtain⟨c0,c1,c2,c3,c4,c5⟩:=HS0.out _ (Kept.refl X)
 go_wp2_with fail
 refine(K1.out _).mono ?_
 rintro e w1 ⟨rfl,k1⟩
 clear c0 c1 c2 c3 c4 c5
 obtain⟨c0,c1,c2,c3,c4,c5⟩:=HS0.out _ k1
 go_wp2_with fail
 refine(K2.out _).mono ?_
 rintro e w2 ⟨rfl,k2⟩
 clear c0 c1 c2 c3 c4 c5
 obtain⟨c0,c1,c2,c3,c4,c5⟩:=HS0.out _ (k1.trans k2)
 go_wp2_with fail
 refine(K3.out _).mono ?_
 rintro e w3 ⟨rfl,k3⟩
 clear c0 c1 c2 c3 c4 c5
 have k4:=k1.trans (k2.trans k3)
 obtain⟨c0,c1,c2,c3,c4,c5⟩:=HS0.out _ k4
 have HQ:=hidr (hK.trans k4)
 clear k1 k2 k3 k4
 rcases hk with rfl|rfl|rfl|rfl|rfl|rfl
 ·go_wp2_with fail
  go_ret
  exact⟨rfl,HQ.out⟩
 ·go_wp2_with fail
  go_ret
  exact⟨rfl,HQ.out⟩
 ·go_wp2_with fail
  go_ret
  exact⟨rfl,HQ.out⟩
 ·go_wp2_with fail
  go_ret
  exact⟨rfl,HQ.out⟩
 ·go_wp2_with fail
  go_ret
  exact⟨rfl,HQ.out⟩
 ·by_cases h1:0<ev
  ·by_cases h2:ev≤8
   ·go_wp2_with fail
    go_ret
    exact⟨by simp[cok,h1,h2]<;>omega,HQ.out⟩
   ·go_wp2_with fail
    go_ret
    exact⟨by simp[cok,h1,h2]<;>omega,HQ.out⟩
  ·go_wp2_with fail
   go_ret
   exact⟨by simp[cok,h1]<;>omega,HQ.out⟩
end Go.Proofs.YtnniljhdcplkgaaGreatDoor
