/- The walks of the document's own place and Order. The walks of Min and Max of package bits. The walks of the document's own Less,Same,Min,Max: the same contracts as package bits'. Keys of valid intervals,of roundings,of finite floats. The document's ends by values: Of,order,sign,plus,turned,times. -/
import Derived.Test.YtdhimkpfnhoagaaGreatDoorWo44
import Derived.Deep.RegionHeld
import Derived.Test.YtdhimkpfnhoagaaGreatDoorWo23
import Derived.Test.YtdhimkpfnhoagaaGreatDoorWo38
import Derived.Test.YtdhimkpfnhoagaaGreatDoorWo20
namespace Go.Proofs.YtdhimkpfnhoagaaGreatDoor
open Go.ChangeShapes Go.WideShapes Go.ChangeAt Go.RowKit
set_option linter.unusedVariables false
set_option linter.unusedSimpArgs false
set_option maxHeartbeats 16000000
set_option maxRecDepth 100000
theorem rplace_64_yes (b : Int) (hb1 : -9223372036854775808 ≤ b) (hb2 : b ≤ 9223372036854775807) (hs : sgn b 64 = true) (hg : b < 0) (w : World) : Calls Tryz.prog 189 #[.agg #[.int .i64 64, .int .i64 53, .int .i64 4503599627370496, .int .i64 2047, .int .i64 (-1074), .int .i64 1024, .int .i64 9218868437227405312, .int .i64 (-9223372036854775808), .int .i64 9221120237041090561], .int .i64 b] w fun e w' => e = .returned (.int .i64 (-(b - -9223372036854775808) - 1)) ∧ Kept w w' := by
  go_enter Tryz.func189, Tryz.ntmps189
  go_wp2_with (first | (go_at_call 195; refine (negative_64 _ hb1 hb2 _).mono ?_; rintro e w2 ⟨rfl, hk2⟩; have hcl := laid_cell hk2))
  go_ret
  exact ⟨ret_int (by try unfold wrap64
                     omega), ((Kept.refl _).alloc _ _).trans hk2⟩
theorem rplace_64_no (b : Int) (hb1 : -9223372036854775808 ≤ b) (hb2 : b ≤ 9223372036854775807) (hs : sgn b 64 = false) (w : World) : Calls Tryz.prog 189 #[.agg #[.int .i64 64,.int .i64 53,.int .i64 4503599627370496,.int .i64 2047,.int .i64 (-1074),.int .i64 1024,.int .i64 9218868437227405312,.int .i64 (-9223372036854775808),.int .i64 9221120237041090561],.int .i64 b] w fun e w' => e = .returned (.int .i64 b) ∧ Kept w w':=by
 go_enter Tryz.func189,Tryz.ntmps189
 go_wp2_with (first | (go_at_call 195; refine (negative_64 _ hb1 hb2 _).mono ?_; rintro e w2 ⟨rfl,hk2⟩; have hcl:=laid_cell hk2))
 go_ret
 exact ⟨rfl,((Kept.refl _).alloc _ _).trans hk2⟩
theorem rplace_32_yes (b : Int) (hb1 : -9223372036854775808 ≤ b) (hb2 : b ≤ 9223372036854775807) (hs : sg32 b = true) (hg : 2147483648 ≤ b) (w : World) : Calls Tryz.prog 189 #[.agg #[.int .i64 32, .int .i64 24, .int .i64 8388608, .int .i64 255, .int .i64 (-149), .int .i64 128, .int .i64 2139095040, .int .i64 2147483648, .int .i64 2143289345], .int .i64 b] w fun e w' => e = .returned (.int .i64 (-(b - 2147483648) - 1)) ∧ Kept w w' := by
  go_enter Tryz.func189, Tryz.ntmps189
  go_wp2_with (first | (go_at_call 195; refine (negative_32 _ _).mono ?_; rintro e w2 ⟨rfl, hk2⟩; have hcl := laid_cell hk2))
  go_ret
  exact ⟨ret_int (by try unfold wrap64
                     omega), ((Kept.refl _).alloc _ _).trans hk2⟩
theorem rplace_32_no (b : Int) (hb1 : -9223372036854775808 ≤ b) (hb2 : b ≤ 9223372036854775807) (hs : sg32 b = false) (w : World) : Calls Tryz.prog 189 #[.agg #[.int .i64 32,.int .i64 24,.int .i64 8388608,.int .i64 255,.int .i64 (-149),.int .i64 128,.int .i64 2139095040,.int .i64 2147483648,.int .i64 2143289345],.int .i64 b] w fun e w' => e = .returned (.int .i64 b) ∧ Kept w w':=by
 go_enter Tryz.func189,Tryz.ntmps189
 go_wp2_with (first | (go_at_call 195; refine (negative_32 _ _).mono ?_; rintro e w2 ⟨rfl,hk2⟩; have hcl:=laid_cell hk2))
 go_ret
 exact ⟨rfl,((Kept.refl _).alloc _ _).trans hk2⟩
theorem keep0 {x v : World} {c : Array Value} {t : TypeId} (h : Kept (x.alloc (.cells c t)) v) : Kept (x.alloc (.cells c t)) v.drew ∧ ∀ o,v.drew.cell? ⟨x.heap.size,o,none⟩ = (x.alloc (.cells c t)).cell? ⟨x.heap.size,o,none⟩:=⟨h.drew,laid_cell h.drew⟩
theorem keep1 {x v v' : World} {c : Array Value} {t : TypeId} (h : Kept (x.alloc (.cells c t)) v ∧ ∀ o,v.cell? ⟨x.heap.size,o,none⟩ = (x.alloc (.cells c t)).cell? ⟨x.heap.size,o,none⟩) (k : Kept v v') : Kept (x.alloc (.cells c t)) v' ∧ ∀ o,v'.cell? ⟨x.heap.size,o,none⟩ = (x.alloc (.cells c t)).cell? ⟨x.heap.size,o,none⟩:=⟨h.1.trans k,laid_cell (h.1.trans k)⟩
def rpl (b n : Int) : Int:=if n = 64 then (if b < 0 then -1 - b % 9223372036854775808 else b) else (if sg32 b = true then -1 - b % 2147483648 else b)
theorem rplace_64 (b : Int) (hb1 : -9223372036854775808 ≤ b) (hb2 : b ≤ 9223372036854775807) (w : World) : Calls Tryz.prog 189 #[.agg #[.int .i64 64,.int .i64 53,.int .i64 4503599627370496,.int .i64 2047,.int .i64 (-1074),.int .i64 1024,.int .i64 9218868437227405312,.int .i64 (-9223372036854775808),.int .i64 9221120237041090561],.int .i64 b] w fun e w' => e = .returned (.int .i64 (rpl b 64)) ∧ Kept w w':=by
 by_cases h : b < 0
 ·refine (rplace_64_yes b hb1 hb2 (by simp [sgn,h]) h w).mono ?_
  rintro e w' ⟨rfl,hk⟩
  exact ⟨ret_int (by unfold rpl; rw [if_pos rfl,if_pos h]; omega),hk⟩
 ·refine (rplace_64_no b hb1 hb2 (by simp [sgn]; omega) w).mono ?_
  rintro e w' ⟨rfl,hk⟩
  exact ⟨ret_int (by unfold rpl; rw [if_pos rfl,if_neg h]),hk⟩
theorem sg32_inv (b : Int) (h : sg32 b = true) : 2147483648 ≤ b ∧ b < 4294967296:=by
 simp [sg32,thr,sgn] at h
 omega
theorem rplace_32 (b : Int) (hb1 : -9223372036854775808 ≤ b) (hb2 : b ≤ 9223372036854775807) (w : World) : Calls Tryz.prog 189 #[.agg #[.int .i64 32,.int .i64 24,.int .i64 8388608,.int .i64 255,.int .i64 (-149),.int .i64 128,.int .i64 2139095040,.int .i64 2147483648,.int .i64 2143289345],.int .i64 b] w fun e w' => e = .returned (.int .i64 (rpl b 32)) ∧ Kept w w':=by
 cases h : sg32 b
 ·refine (rplace_32_no b hb1 hb2 h w).mono ?_
  rintro e w' ⟨rfl,hk⟩
  exact ⟨ret_int (by unfold rpl; rw [if_neg (by decide),if_neg (by rw [h]; decide)]),hk⟩
 ·have hv:=sg32_inv b h
  refine (rplace_32_yes b hb1 hb2 h hv.1 w).mono ?_
  rintro e w' ⟨rfl,hk⟩
  exact ⟨ret_int (by unfold rpl; rw [if_neg (by decide),if_pos h]; omega),hk⟩
theorem can_bd (b n : Int) (hb1 : -9223372036854775808 ≤ b) (hb2 : b ≤ 9223372036854775807) : -9223372036854775808 ≤ can b n ∧ can b n ≤ 9223372036854775807:=by
 have:=nanOf_bd n
 unfold can
 (repeat' split) <;> omega
theorem rless_64_num (a b : Int) (ha1 : -9223372036854775808 ≤ a) (ha2 : a ≤ 9223372036854775807) (hb1 : -9223372036854775808 ≤ b) (hb2 : b ≤ 9223372036854775807) (ca : (cls a 64 == 4) = false) (cb : (cls b 64 == 4) = false) (w : World) : Calls Tryz.prog 172 #[.int .i64 a,.int .i64 b,.int .i64 64] w fun e w' => e = .returned (.bool (decide (rpl (can a 64) 64 < rpl (can b 64) 64))) ∧ Kept w w':=by
 have qa:=can_bd a 64 ha1 ha2
 have qb:=can_bd b 64 hb1 hb2
 go_enter Tryz.func172,Tryz.ntmps172
 go_wp2_with fail
 refine (of_64 _).mono ?_
 rintro e w1 ⟨rfl,hk1⟩
 go_wp2_with fail
 refine (rclass_any a 64 ha1 ha2 _).mono ?_
 rintro e w2 ⟨rfl,hk2⟩
 go_wp2_with fail
 refine (rclass_any b 64 hb1 hb2 _).mono ?_
 rintro e w3 ⟨rfl,hk3⟩
 have hK:=hk2.trans hk3
 go_wp2
 go_region_held (fun v => Kept (w1.alloc (.cells #[.int .i64 64,.int .i64 53,.int .i64 4503599627370496,.int .i64 2047,.int .i64 (-1074),.int .i64 1024,.int .i64 9218868437227405312,.int .i64 (-9223372036854775808),.int .i64 9221120237041090561] 176)) v ∧ ∀ o,v.cell? ⟨w1.heap.size,o,none⟩ = (w1.alloc (.cells #[.int .i64 64,.int .i64 53,.int .i64 4503599627370496,.int .i64 2047,.int .i64 (-1074),.int .i64 1024,.int .i64 9218868437227405312,.int .i64 (-9223372036854775808),.int .i64 9221120237041090561] 176)).cell? ⟨w1.heap.size,o,none⟩) (first | exact keep0 hK | (refine keep1 ?_ hk4; assumption)) (first | (go_at_call_of 189 (can a 64); refine (rplace_64 (can a 64) qa.1 qa.2 _).mono ?_; rintro e w4 ⟨rfl,hk4⟩) | (go_at_call_of 189 (can b 64); refine (rplace_64 (can b 64) qb.1 qb.2 _).mono ?_; rintro e w4 ⟨rfl,hk4⟩) | (go_at_call_of 190 a; refine (rcanon_any a 64 ha1 ha2 _).mono ?_; rintro e w4 ⟨rfl,hk4⟩) | (go_at_call_of 190 b; refine (rcanon_any b 64 hb1 hb2 _).mono ?_; rintro e w4 ⟨rfl,hk4⟩))
 all_goals
  go_wp2
  go_ret
  exact ⟨rfl,(hk1.alloc _ _).trans (And.left ‹_›)⟩
theorem rless_64_na (a b : Int) (ha1 : -9223372036854775808 ≤ a) (ha2 : a ≤ 9223372036854775807) (hb1 : -9223372036854775808 ≤ b) (hb2 : b ≤ 9223372036854775807) (ca : (cls a 64 == 4) = true) (w : World) : Calls Tryz.prog 172 #[.int .i64 a,.int .i64 b,.int .i64 64] w fun e w' => e = .returned (.bool false) ∧ Kept w w':=by
 go_enter Tryz.func172,Tryz.ntmps172
 go_wp2_with fail
 refine (of_64 _).mono ?_
 rintro e w1 ⟨rfl,hk1⟩
 go_wp2_with fail
 refine (rclass_any a 64 ha1 ha2 _).mono ?_
 rintro e w2 ⟨rfl,hk2⟩
 go_wp2
 go_ret
 exact ⟨rfl,(hk1.alloc _ _).trans hk2⟩
theorem rless_64_nb (a b : Int) (ha1 : -9223372036854775808 ≤ a) (ha2 : a ≤ 9223372036854775807) (hb1 : -9223372036854775808 ≤ b) (hb2 : b ≤ 9223372036854775807) (ca : (cls a 64 == 4) = false) (cb : (cls b 64 == 4) = true) (w : World) : Calls Tryz.prog 172 #[.int .i64 a,.int .i64 b,.int .i64 64] w fun e w' => e = .returned (.bool false) ∧ Kept w w':=by
 go_enter Tryz.func172,Tryz.ntmps172
 go_wp2_with fail
 refine (of_64 _).mono ?_
 rintro e w1 ⟨rfl,hk1⟩
 go_wp2_with fail
 refine (rclass_any a 64 ha1 ha2 _).mono ?_
 rintro e w2 ⟨rfl,hk2⟩
 go_wp2_with fail
 refine (rclass_any b 64 hb1 hb2 _).mono ?_
 rintro e w3 ⟨rfl,hk3⟩
 go_wp2
 go_ret
 exact ⟨rfl,(hk1.alloc _ _).trans (hk2.trans hk3)⟩
theorem rless_32_num (a b : Int) (ha1 : -9223372036854775808 ≤ a) (ha2 : a ≤ 9223372036854775807) (hb1 : -9223372036854775808 ≤ b) (hb2 : b ≤ 9223372036854775807) (ca : (cls a 32 == 4) = false) (cb : (cls b 32 == 4) = false) (w : World) : Calls Tryz.prog 172 #[.int .i64 a,.int .i64 b,.int .i64 32] w fun e w' => e = .returned (.bool (decide (rpl (can a 32) 32 < rpl (can b 32) 32))) ∧ Kept w w':=by
 have qa:=can_bd a 32 ha1 ha2
 have qb:=can_bd b 32 hb1 hb2
 go_enter Tryz.func172,Tryz.ntmps172
 go_wp2_with fail
 refine (of_32 _).mono ?_
 rintro e w1 ⟨rfl,hk1⟩
 go_wp2_with fail
 refine (rclass_any a 32 ha1 ha2 _).mono ?_
 rintro e w2 ⟨rfl,hk2⟩
 go_wp2_with fail
 refine (rclass_any b 32 hb1 hb2 _).mono ?_
 rintro e w3 ⟨rfl,hk3⟩
 have hK:=hk2.trans hk3
 go_wp2
 go_region_held (fun v => Kept (w1.alloc (.cells #[.int .i64 32,.int .i64 24,.int .i64 8388608,.int .i64 255,.int .i64 (-149),.int .i64 128,.int .i64 2139095040,.int .i64 2147483648,.int .i64 2143289345] 176)) v ∧ ∀ o,v.cell? ⟨w1.heap.size,o,none⟩ = (w1.alloc (.cells #[.int .i64 32,.int .i64 24,.int .i64 8388608,.int .i64 255,.int .i64 (-149),.int .i64 128,.int .i64 2139095040,.int .i64 2147483648,.int .i64 2143289345] 176)).cell? ⟨w1.heap.size,o,none⟩) (first | exact keep0 hK | (refine keep1 ?_ hk4; assumption)) (first | (go_at_call_of 189 (can a 32); refine (rplace_32 (can a 32) qa.1 qa.2 _).mono ?_; rintro e w4 ⟨rfl,hk4⟩) | (go_at_call_of 189 (can b 32); refine (rplace_32 (can b 32) qb.1 qb.2 _).mono ?_; rintro e w4 ⟨rfl,hk4⟩) | (go_at_call_of 190 a; refine (rcanon_any a 32 ha1 ha2 _).mono ?_; rintro e w4 ⟨rfl,hk4⟩) | (go_at_call_of 190 b; refine (rcanon_any b 32 hb1 hb2 _).mono ?_; rintro e w4 ⟨rfl,hk4⟩))
 all_goals
  go_wp2
  go_ret
  exact ⟨rfl,(hk1.alloc _ _).trans (And.left ‹_›)⟩
theorem rless_32_na (a b : Int) (ha1 : -9223372036854775808 ≤ a) (ha2 : a ≤ 9223372036854775807) (hb1 : -9223372036854775808 ≤ b) (hb2 : b ≤ 9223372036854775807) (ca : (cls a 32 == 4) = true) (w : World) : Calls Tryz.prog 172 #[.int .i64 a,.int .i64 b,.int .i64 32] w fun e w' => e = .returned (.bool false) ∧ Kept w w':=by
 go_enter Tryz.func172,Tryz.ntmps172
 go_wp2_with fail
 refine (of_32 _).mono ?_
 rintro e w1 ⟨rfl,hk1⟩
 go_wp2_with fail
 refine (rclass_any a 32 ha1 ha2 _).mono ?_
 rintro e w2 ⟨rfl,hk2⟩
 go_wp2
 go_ret
 exact ⟨rfl,(hk1.alloc _ _).trans hk2⟩
theorem rless_32_nb (a b : Int) (ha1 : -9223372036854775808 ≤ a) (ha2 : a ≤ 9223372036854775807) (hb1 : -9223372036854775808 ≤ b) (hb2 : b ≤ 9223372036854775807) (ca : (cls a 32 == 4) = false) (cb : (cls b 32 == 4) = true) (w : World) : Calls Tryz.prog 172 #[.int .i64 a,.int .i64 b,.int .i64 32] w fun e w' => e = .returned (.bool false) ∧ Kept w w':=by
 go_enter Tryz.func172,Tryz.ntmps172
 go_wp2_with fail
 refine (of_32 _).mono ?_
 rintro e w1 ⟨rfl,hk1⟩
 go_wp2_with fail
 refine (rclass_any a 32 ha1 ha2 _).mono ?_
 rintro e w2 ⟨rfl,hk2⟩
 go_wp2_with fail
 refine (rclass_any b 32 hb1 hb2 _).mono ?_
 rintro e w3 ⟨rfl,hk3⟩
 go_wp2
 go_ret
 exact ⟨rfl,(hk1.alloc _ _).trans (hk2.trans hk3)⟩
theorem rless_0 (a b n : Int) (h1 : (n == 32) = false) (h2 : (n == 64) = false) (w : World) : Calls Tryz.prog 172 #[.int .i64 a,.int .i64 b,.int .i64 n] w fun e w' => e = .returned (.bool false) ∧ Kept w w':=by
 go_enter Tryz.func172,Tryz.ntmps172
 go_wp2_with fail
 refine (of_0 n h1 h2 _).mono ?_
 rintro e w1 ⟨rfl,hk1⟩
 go_wp2
 go_ret
 exact ⟨rfl,hk1.alloc _ _⟩
theorem rpl_can (b n : Int) (hb1 : -9223372036854775808 ≤ b) (hb2 : b ≤ 9223372036854775807) (h : isnum b n = true) : rpl (can b n) n = if keyOf b n < 0 then keyOf b n - 1 else keyOf b n:=by
 rcases isnum_inv b n h with ⟨rfl,hc⟩ | ⟨rfl,hc⟩
 ·unfold rpl can keyOf
  rw [if_pos h]
  simp only [if_true]
  (repeat' split) <;> omega
 ·have hv:=cls_valid b hc
  have e32 : ¬ (32 : Int) = 64:=by decide
  have hcan : can b 32 = if b = 2147483648 then 0 else b:=by
   unfold can
   rw [if_pos h,if_neg e32]
  have hcv : 0 ≤ can b 32 ∧ can b 32 < 4294967296:=by rw [hcan]; split <;> omega
  have ht : thr (can b 32) = true:=by simp [thr,hcv]
  have e : sg32 (can b 32) = decide (2147483648 ≤ can b 32):=by simp [sg32,ht,sgn]
  unfold rpl keyOf
  rw [if_neg e32,if_neg e32,e]
  simp only [decide_eq_true_eq]
  rw [hcan]
  (repeat' split) <;> omega
theorem rless_any (a b n : Int) (ha1 : -9223372036854775808 ≤ a) (ha2 : a ≤ 9223372036854775807) (hb1 : -9223372036854775808 ≤ b) (hb2 : b ≤ 9223372036854775807) (w : World) : Calls Tryz.prog 172 #[.int .i64 a,.int .i64 b,.int .i64 n] w fun e w' => e = .returned (.bool (lss a b n)) ∧ Kept w w':=by
 by_cases h64 : n = 64
 ·subst h64
  cases ca : (cls a 64 == 4)
  ·have ia : isnum a 64 = true:=by simpa [isnum] using ca
   cases cb : (cls b 64 == 4)
   ·have ib : isnum b 64 = true:=by simpa [isnum] using cb
    refine (rless_64_num a b ha1 ha2 hb1 hb2 ca cb w).mono ?_
    rintro e w' ⟨rfl,hk⟩
    refine ⟨ret_truth ?_,hk⟩
    unfold lss
    rw [ia,ib,Bool.true_and,Bool.true_and,rpl_can a 64 ha1 ha2 ia,rpl_can b 64 hb1 hb2 ib,Bool.eq_iff_iff,decide_eq_true_eq,decide_eq_true_eq]
    (repeat' split) <;> omega
   ·have ib : isnum b 64 = false:=by simpa [isnum] using cb
    refine (rless_64_nb a b ha1 ha2 hb1 hb2 ca cb w).mono ?_
    rintro e w' ⟨rfl,hk⟩
    exact ⟨ret_truth (by simp [lss,ib]),hk⟩
  ·have ia : isnum a 64 = false:=by simpa [isnum] using ca
   refine (rless_64_na a b ha1 ha2 hb1 hb2 ca w).mono ?_
   rintro e w' ⟨rfl,hk⟩
   exact ⟨ret_truth (by simp [lss,ia]),hk⟩
 ·by_cases h32 : n = 32
  ·subst h32
   cases ca : (cls a 32 == 4)
   ·have ia : isnum a 32 = true:=by simpa [isnum] using ca
    cases cb : (cls b 32 == 4)
    ·have ib : isnum b 32 = true:=by simpa [isnum] using cb
     refine (rless_32_num a b ha1 ha2 hb1 hb2 ca cb w).mono ?_
     rintro e w' ⟨rfl,hk⟩
     refine ⟨ret_truth ?_,hk⟩
     unfold lss
     rw [ia,ib,Bool.true_and,Bool.true_and,rpl_can a 32 ha1 ha2 ia,rpl_can b 32 hb1 hb2 ib,Bool.eq_iff_iff,decide_eq_true_eq,decide_eq_true_eq]
     (repeat' split) <;> omega
    ·have ib : isnum b 32 = false:=by simpa [isnum] using cb
     refine (rless_32_nb a b ha1 ha2 hb1 hb2 ca cb w).mono ?_
     rintro e w' ⟨rfl,hk⟩
     exact ⟨ret_truth (by simp [lss,ib]),hk⟩
   ·have ia : isnum a 32 = false:=by simpa [isnum] using ca
    refine (rless_32_na a b ha1 ha2 hb1 hb2 ca w).mono ?_
    rintro e w' ⟨rfl,hk⟩
    exact ⟨ret_truth (by simp [lss,ia]),hk⟩
  ·refine (rless_0 a b n (by simpa using h32) (by simpa using h64) w).mono ?_
   rintro e w' ⟨rfl,hk⟩
   exact ⟨ret_truth (by simp [lss,isnum_0 a n h64 h32]),hk⟩
end Go.Proofs.YtdhimkpfnhoagaaGreatDoor
namespace Go.Proofs.YtdhimkpfnhoagaaGreatDoor
open Go.ChangeShapes Go.WideShapes Go.ChangeAt Go.RowKit Ieee
set_option linter.unusedVariables false
set_option linter.unusedSimpArgs false
set_option maxHeartbeats 16000000
set_option maxRecDepth 100000
/- what is around a number,by keys -/
theorem ofN_key (y n : Int) (hn : n = 64 ∨ n = 32) (hy : RB y) (hc : cls y n < 3) : ofN y n = ofN (pz n (keyOf y n)) n ∧ isnum y n = true ∧ (-(ifn n : Int) < keyOf y n ∧ keyOf y n < (ifn n : Int)):=by
 have hi : isnum y n = true:=by
  unfold isnum
  rw [decide_eq_true_eq]
  exact ⟨hn,by omega⟩
 have hf:=fin_key y n hn hi hy
 have hfin : fin y n = true:=by
  unfold fin
  rw [decide_eq_true_eq]
  exact ⟨hn,hc⟩
 rw [hfin] at hf
 have hne:=of_decide_eq_true hf.symm
 have hr:=key_rng y n hi hy.1 hy.2
 refine ⟨?_,hi,by omega⟩
 have hcan:=can_pz y n hi hy.1 hy.2
 rw [← hcan]
 unfold can
 rw [if_pos hi]
 rcases hn with rfl | rfl
 ·rw [if_pos rfl]
  by_cases hz : y = -9223372036854775808
  ·rw [if_pos hz]
   subst hz
   rw [(of_zero (-9223372036854775808) 64 (by decide)).2,(of_zero 0 64 (by decide)).2]
  ·rw [if_neg hz]
 ·rw [if_neg (by decide : ¬ (32 : Int) = 64)]
  by_cases hz : y = 2147483648
  ·rw [if_pos hz]
   subst hz
   rw [(of_zero 2147483648 32 (by decide)).2,(of_zero 0 32 (by decide)).2]
  ·rw [if_neg hz]
theorem of_both_lies (y n : Int) (hn : n = 64 ∨ n = 32) (hy : RB y) (hc : cls y n < 3) : Lies (-1075) 5000 (ofN y n) ∧ vz (-1075) (ofN y n) = kvz n (-1074) (keyOf y n) * 2:=by
 obtain ⟨e,hi,b1,b2⟩:=ofN_key y n hn hy hc
 rw [e]
 obtain ⟨h1,h2⟩:=of_key n (keyOf y n) hn b1 b2 (-1075) (by decide) (by decide)
 refine ⟨h1,?_⟩
 have hkl : (-1074 : Int) ≤ kleast n:=by rcases hn with rfl | rfl <;> decide
 rw [h2,kvz_down n (-1075) (-1074) _ (by decide) hkl]
 rfl
end Go.Proofs.YtdhimkpfnhoagaaGreatDoor
namespace Go.Proofs.YtdhimkpfnhoagaaGreatDoor
open Go.ChangeShapes Go.WideShapes Go.ChangeAt Go.RowKit
set_option linter.unusedVariables false
set_option linter.unusedSimpArgs false
set_option maxHeartbeats 16000000
set_option maxRecDepth 100000
theorem cz_cases5 (a b : Int) : (a < b → cz a b = -1) ∧ (a = b → cz a b = 0) ∧ (b < a → cz a b = 1):=by
 unfold cz
 refine ⟨fun h => ?_,fun h => ?_,fun h => ?_⟩ <;> (repeat' split) <;> omega
/-- the sign of an infinite end -/
def infS (n k : Int) : Int:=if k = (ifn n : Int) then 1 else if k = -(ifn n : Int) then -1 else 0
theorem infS_is (n k : Int) : infS n k = -1 ∨ infS n k = 0 ∨ infS n k = 1:=by
 unfold infS
 (repeat' split) <;> simp
theorem rsgn5 (b n : Int) (hb : RB b) (w : World) : Calls Tryz.prog 138 #[.int .i64 b,.int .i64 n] w fun e w' => e = .returned (.int .i64 (if lss b 0 n = true then -1 else if lss 0 b n = true then 1 else 0)) ∧ Kept w w':=by
 have K1 : Hid (∀ u,Calls Tryz.prog 172 #[.int .i64 b,.int .i64 0,.int .i64 n] u fun e w' => e = .returned (.bool (lss b 0 n)) ∧ Kept u w'):=fun u => rless_any b 0 n hb.1 hb.2 (by decide) (by decide) u
 have K2 : Hid (∀ u,Calls Tryz.prog 172 #[.int .i64 0,.int .i64 b,.int .i64 n] u fun e w' => e = .returned (.bool (lss 0 b n)) ∧ Kept u w'):=fun u => rless_any 0 b n (by decide) (by decide) hb.1 hb.2 u
 generalize lss b 0 n = t1 at *
 generalize lss 0 b n = t2 at *
 go_enter Tryz.func138,Tryz.ntmps138
 go_wp2_with fail
 refine (K1.out _).mono ?_
 rintro e w1 ⟨rfl,k1⟩
 cases t1
 ·go_wp2_with fail
  refine (K2.out _).mono ?_
  rintro e w2 ⟨rfl,k2⟩
  cases t2
  ·go_wp2_with fail
   go_ret
   exact ⟨rfl,k1.trans k2⟩
  ·go_wp2_with fail
   go_ret
   exact ⟨rfl,k1.trans k2⟩
 ·go_wp2_with fail
  go_ret
  exact ⟨rfl,k1⟩
theorem cls_key (b n : Int) (hb : RB b) (hi : isnum b n = true) : (cls b n < 3 ↔ -(ifn n : Int) < keyOf b n ∧ keyOf b n < (ifn n : Int)) ∧ (cls b n < 3 ∨ cls b n = 3):=by
 have hn:=isnum_wid b n hi
 have hf:=fin_key b n hn hi hb
 have hr:=key_rng b n hi hb.1 hb.2
 have h4 : cls b n ≠ 4:=by
  unfold isnum at hi
  rw [decide_eq_true_eq] at hi
  exact hi.2
 have hle : cls b n ≤ 4:=by
  unfold cls clsOf
  (repeat' split) <;> omega
 unfold fin at hf
 refine ⟨⟨fun h => ?_,fun h => ?_⟩,by omega⟩
 ·rw [decide_eq_true ⟨hn,h⟩] at hf
  have:=of_decide_eq_true hf.symm
  omega
 ·rw [decide_eq_true (show ¬ (keyOf b n = (ifn n : Int) ∨ keyOf b n = -(ifn n : Int)) by omega)] at hf
  exact (of_decide_eq_true hf).2
theorem rof5 (b n : Int) (hb : RB b) (hi : isnum b n = true) (w : World) : Calls Tryz.prog 88 #[.int .i64 b,.int .i64 n] w fun e w' => (∃ r,e = .returned r ∧ EnAt (Fresh w.heap.size) w' r (infS n (keyOf b n)) (numOf b n) oneN5) ∧ Kept w w':=by
 have hn:=isnum_wid b n hi
 obtain ⟨hc,h3⟩:=cls_key b n hb hi
 have hr:=key_rng b n hi hb.1 hb.2
 have hpos:=ifn_p n
 by_cases hcl : cls b n < 3
 ·have hk:=hc.1 hcl
  have e1 : infS n (keyOf b n) = 0:=by unfold infS; rw [if_neg (by omega),if_neg (by omega)]
  have e2 : numOf b n = ofN b n:=by unfold numOf; rw [if_pos hcl]
  rw [e1,e2,(ofN_nrm b n hn hcl).2]
  exact rof_fin b n (cls b n) _ (by simp; omega) w (fun u => rclass_any b n hb.1 hb.2 u) (fun u => rexact_any b n hb.1 hb.2 hn hcl u)
 ·have hc3 : cls b n = 3:=by omega
  have e2 : numOf b n = ⟨false,[],0⟩:=by unfold numOf; rw [if_neg hcl]
  have h0 : isnum 0 n = true ∧ keyOf 0 n = 0:=by rcases hn with rfl | rfl <;> decide
  have hk : ¬ (-(ifn n : Int) < keyOf b n ∧ keyOf b n < (ifn n : Int)):=fun h => hcl (hc.2 h)
  have es : (if lss b 0 n = true then (-1 : Int) else if lss 0 b n = true then 1 else 0) = infS n (keyOf b n):=by
   unfold lss infS
   rw [hi,h0.1,h0.2]
   simp only [Bool.true_and,decide_eq_true_eq]
   (repeat' split) <;> omega
  rw [e2,← es]
  refine rof_inf b n _ w (fun u => ?_) (fun u => rsgn5 b n hb u)
  have:=rclass_any b n hb.1 hb.2 u
  rw [hc3] at this
  exact this
theorem nrm_self (x : Nm) (h : vld x = true) : nrm x.neg (nv x.mag) x.exp = x:=by
 obtain ⟨ng,L,e⟩:=x
 by_cases hL : L = []
 ·subst hL
  obtain ⟨rfl,rfl⟩:=vld_nil _ _ h
  simp [nrm,nv]
 ·have h1:=vz_cfm e ng L e h (fun _ => Int.le_refl _)
  have h2:=frm_nrm (decide (vz e ⟨ng,L,e⟩ < 0)) (vz e ⟨ng,L,e⟩).natAbs e
  unfold cfm at h1
  rw [h1] at h2
  have h3 : (vz e ⟨ng,L,e⟩).natAbs = nv L:=by
   rw [vz_abs]
   simp
  have hs:=vz_sign e ⟨ng,L,e⟩ h
  have hp:=vz_pos e ng L e hL h
  rw [Int.sub_self] at hp
  have h4 : decide (vz e ⟨ng,L,e⟩ < 0) = ng:=by
   cases ng
   ·have:=hs.2.1 rfl
    rw [decide_eq_false_iff_not]; omega
   ·have:=hs.1 rfl
    rw [decide_eq_true_eq]; omega
  rw [h3,h4] at h2
  split at h2
  ·exact (Option.some.inj h2).symm
  ·cases h2
theorem tms_one (x : Nm) (h : vld x = true) : tms x oneN5 = x:=by
 have e1 : nv oneN5.mag = 1:=by decide
 have e2 : (x.neg != oneN5.neg) = x.neg:=by
  have : oneN5.neg = false:=rfl
  rw [this]
  cases x.neg <;> rfl
 unfold tms
 rw [e1,e2,Nat.mul_one,show oneN5.exp = 0 from rfl,Int.add_zero]
 exact nrm_self x h
theorem one_vld : vld oneN5 = true:=by decide
/-- an end's size: the infinite ones at T -/
def Rh (T s i : Int) (x : Nm) : Int:=if 0 < i then T else if i < 0 then -T else vz s x
theorem rorder5 (P : Nat → Prop) (v1 v2 : Value) (i1 i2 : Int) (x1 x2 : Nm) (s T : Int) (hi1 : i1 = -1 ∨ i1 = 0 ∨ i1 = 1) (hi2 : i2 = -1 ∨ i2 = 0 ∨ i2 = 1) (h1 : vld x1 = true) (h2 : vld x2 = true) (s1 : x1.mag ≠ [] → s ≤ x1.exp) (s2 : x2.mag ≠ [] → s ≤ x2.exp) (b1 : -T < vz s x1 ∧ vz s x1 < T) (b2 : -T < vz s x2 ∧ vz s x2 < T) (w : World) (e1 : EnAt P w v1 i1 x1 oneN5) (e2 : EnAt P w v2 i2 x2 oneN5) : Calls Tryz.prog 89 #[v1,v2] w fun e w' => e = .returned (.int .i64 (cz (Rh T s i1 x1) (Rh T s i2 x2))) ∧ Kept w w':=by
 obtain ⟨a1,c1,a2,c2,rfl,r1,r2⟩:=e1
 obtain ⟨a3,c3,a4,c4,rfl,r3,r4⟩:=e2
 by_cases hne : i1 = i2
 ·subst hne
  by_cases h0 : i1 = 0
  ·subst h0
   have er : cz (Rh T s 0 x1) (Rh T s 0 x2) = cz (vz s x1) (vz s x2):=by
    unfold Rh
    rw [if_neg (by decide),if_neg (by decide),if_neg (by decide),if_neg (by decide)]
   rw [er]
   refine rorder_fin _ _ _ _ _ _ _ _ _ _ _ _ _ _ _ _ _ _ _ _ _ (fun u v => RNp (PL P w) u v x1) (fun u v => RNp (PL P w) u v x2) w (fun u u' v h k => h.kept k) (fun u k => ?_) (fun u k => ?_) (fun u v1 v2 g1 g2 => ?_)
   ·have:=times_any P u x1 oneN5 _ _ ⟨_,rfl,r1.kept k⟩ ⟨_,rfl,r4.kept k⟩ h1 one_vld
    refine this.mono ?_
    rintro e w' ⟨⟨v,rfl,hv⟩,kk⟩
    rw [tms_one x1 h1] at hv
    exact ⟨v,rfl,hv.imp (fun c hc => hc.elim .inl (fun g => .inr (Nat.le_trans k.below.size g))),kk⟩
   ·have:=times_any P u x2 oneN5 _ _ ⟨_,rfl,r3.kept k⟩ ⟨_,rfl,r2.kept k⟩ h2 one_vld
    refine this.mono ?_
    rintro e w' ⟨⟨v,rfl,hv⟩,kk⟩
    rw [tms_one x2 h2] at hv
    exact ⟨v,rfl,hv.imp (fun c hc => hc.elim .inl (fun g => .inr (Nat.le_trans k.below.size g))),kk⟩
   ·exact order2_any _ u x1 x2 v1 v2 g1 g2 h1 h2 _ (ord_cz s x1 x2 h1 h2 s1 s2)
  ·have er : cz (Rh T s i1 x1) (Rh T s i1 x2) = 0:=by
    have : Rh T s i1 x1 = Rh T s i1 x2:=by
     unfold Rh
     (repeat' split) <;> first | rfl | omega
    rw [this]
    exact (cz_cases5 _ _).2.1 rfl
   rw [er]
   exact rorder_inf _ _ _ _ _ _ _ _ _ _ _ _ _ _ _ _ _ _ _ _ i1 (by simpa using h0) w
 ·refine rorder_ne i1 _ _ _ _ _ _ _ _ _ _ i2 _ _ _ _ _ _ _ _ _ _ (by simpa using hne) _ ?_ w
  obtain ⟨q1,q2,q3⟩:=cz_cases5 (Rh T s i1 x1) (Rh T s i2 x2)
  unfold Rh at *
  rcases hi1 with rfl | rfl | rfl <;> rcases hi2 with rfl | rfl | rfl <;> simp at * <;> first | (apply q1; omega) | (apply q3; omega)
end Go.Proofs.YtdhimkpfnhoagaaGreatDoor
