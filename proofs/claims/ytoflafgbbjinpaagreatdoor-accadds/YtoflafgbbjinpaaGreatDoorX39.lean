/- The walks of the document's own place and Order. The document's inf and negative. -/
import Derived.Test.YtoflafgbbjinpaaGreatDoorX38
import Derived.Deep.RegionHeld
import Derived.Test.YtoflafgbbjinpaaGreatDoorX30
namespace Go.Proofs.YtoflafgbbjinpaaGreatDoor
open Go.ChangeShapes Go.WideShapes Go.ChangeAt Go.RowKit
set_option linter.unusedVariables false
set_option linter.unusedSimpArgs false
set_option maxHeartbeats 16000000
set_option maxRecDepth 100000
theorem rplace_64_yes (b : Int) (hb1 : -9223372036854775808 ≤ b) (hb2 : b ≤ 9223372036854775807) (hs : sgn b 64 = true) (hg : b < 0) (w : World) : Calls Tryz.prog 165 #[.agg #[.int .i64 64, .int .i64 53, .int .i64 4503599627370496, .int .i64 2047, .int .i64 (-1074), .int .i64 1024, .int .i64 9218868437227405312, .int .i64 (-9223372036854775808), .int .i64 9221120237041090561], .int .i64 b] w fun e w' => e = .returned (.int .i64 (-(b - -9223372036854775808) - 1)) ∧ Kept w w' := by
  go_enter Tryz.func165, Tryz.ntmps165
  go_wp2_with (first | (go_at_call 178; refine (negative_64 _ hb1 hb2 _).mono ?_; rintro e w2 ⟨rfl, hk2⟩; have hcl := laid_cell hk2))
  go_ret
  exact ⟨ret_int (by try unfold wrap64
                     omega), ((Kept.refl _).alloc _ _).trans hk2⟩
theorem rplace_64_no (b : Int) (hb1 : -9223372036854775808 ≤ b) (hb2 : b ≤ 9223372036854775807) (hs : sgn b 64 = false) (w : World) : Calls Tryz.prog 165 #[.agg #[.int .i64 64,.int .i64 53,.int .i64 4503599627370496,.int .i64 2047,.int .i64 (-1074),.int .i64 1024,.int .i64 9218868437227405312,.int .i64 (-9223372036854775808),.int .i64 9221120237041090561],.int .i64 b] w fun e w' => e = .returned (.int .i64 b) ∧ Kept w w':=by
 go_enter Tryz.func165,Tryz.ntmps165
 go_wp2_with (first | (go_at_call 178; refine (negative_64 _ hb1 hb2 _).mono ?_; rintro e w2 ⟨rfl,hk2⟩; have hcl:=laid_cell hk2))
 go_ret
 exact ⟨rfl,((Kept.refl _).alloc _ _).trans hk2⟩
theorem rplace_32_yes (b : Int) (hb1 : -9223372036854775808 ≤ b) (hb2 : b ≤ 9223372036854775807) (hs : sg32 b = true) (hg : 2147483648 ≤ b) (w : World) : Calls Tryz.prog 165 #[.agg #[.int .i64 32, .int .i64 24, .int .i64 8388608, .int .i64 255, .int .i64 (-149), .int .i64 128, .int .i64 2139095040, .int .i64 2147483648, .int .i64 2143289345], .int .i64 b] w fun e w' => e = .returned (.int .i64 (-(b - 2147483648) - 1)) ∧ Kept w w' := by
  go_enter Tryz.func165, Tryz.ntmps165
  go_wp2_with (first | (go_at_call 178; refine (negative_32 _ _).mono ?_; rintro e w2 ⟨rfl, hk2⟩; have hcl := laid_cell hk2))
  go_ret
  exact ⟨ret_int (by try unfold wrap64
                     omega), ((Kept.refl _).alloc _ _).trans hk2⟩
theorem rplace_32_no (b : Int) (hb1 : -9223372036854775808 ≤ b) (hb2 : b ≤ 9223372036854775807) (hs : sg32 b = false) (w : World) : Calls Tryz.prog 165 #[.agg #[.int .i64 32,.int .i64 24,.int .i64 8388608,.int .i64 255,.int .i64 (-149),.int .i64 128,.int .i64 2139095040,.int .i64 2147483648,.int .i64 2143289345],.int .i64 b] w fun e w' => e = .returned (.int .i64 b) ∧ Kept w w':=by
 go_enter Tryz.func165,Tryz.ntmps165
 go_wp2_with (first | (go_at_call 178; refine (negative_32 _ _).mono ?_; rintro e w2 ⟨rfl,hk2⟩; have hcl:=laid_cell hk2))
 go_ret
 exact ⟨rfl,((Kept.refl _).alloc _ _).trans hk2⟩
theorem keep0 {x v : World} {c : Array Value} {t : TypeId} (h : Kept (x.alloc (.cells c t)) v) : Kept (x.alloc (.cells c t)) v.drew ∧ ∀ o,v.drew.cell? ⟨x.heap.size,o,none⟩ = (x.alloc (.cells c t)).cell? ⟨x.heap.size,o,none⟩:=⟨h.drew,laid_cell h.drew⟩
theorem keep1 {x v v' : World} {c : Array Value} {t : TypeId} (h : Kept (x.alloc (.cells c t)) v ∧ ∀ o,v.cell? ⟨x.heap.size,o,none⟩ = (x.alloc (.cells c t)).cell? ⟨x.heap.size,o,none⟩) (k : Kept v v') : Kept (x.alloc (.cells c t)) v' ∧ ∀ o,v'.cell? ⟨x.heap.size,o,none⟩ = (x.alloc (.cells c t)).cell? ⟨x.heap.size,o,none⟩:=⟨h.1.trans k,laid_cell (h.1.trans k)⟩
def rpl (b n : Int) : Int:=if n = 64 then (if b < 0 then -1 - b % 9223372036854775808 else b) else (if sg32 b = true then -1 - b % 2147483648 else b)
theorem rplace_64 (b : Int) (hb1 : -9223372036854775808 ≤ b) (hb2 : b ≤ 9223372036854775807) (w : World) : Calls Tryz.prog 165 #[.agg #[.int .i64 64,.int .i64 53,.int .i64 4503599627370496,.int .i64 2047,.int .i64 (-1074),.int .i64 1024,.int .i64 9218868437227405312,.int .i64 (-9223372036854775808),.int .i64 9221120237041090561],.int .i64 b] w fun e w' => e = .returned (.int .i64 (rpl b 64)) ∧ Kept w w':=by
 by_cases h : b < 0
 ·refine (rplace_64_yes b hb1 hb2 (by simp [sgn,h]) h w).mono ?_
  rintro e w' ⟨rfl,hk⟩
  exact ⟨ret_int (by unfold rpl; rw [if_pos rfl,if_pos h]; omega),hk⟩
 ·refine (rplace_64_no b hb1 hb2 (by simp [sgn]; omega) w).mono ?_
  rintro e w' ⟨rfl,hk⟩
  exact ⟨ret_int (by unfold rpl; rw [if_pos rfl,if_neg h]),hk⟩
theorem sg32_inv (b : Int) (h : sg32 b = true) : 2147483648 ≤ b ∧ b < 4294967296:=by
 simp [sg32,thr,sgn] at h
 omega
theorem rplace_32 (b : Int) (hb1 : -9223372036854775808 ≤ b) (hb2 : b ≤ 9223372036854775807) (w : World) : Calls Tryz.prog 165 #[.agg #[.int .i64 32,.int .i64 24,.int .i64 8388608,.int .i64 255,.int .i64 (-149),.int .i64 128,.int .i64 2139095040,.int .i64 2147483648,.int .i64 2143289345],.int .i64 b] w fun e w' => e = .returned (.int .i64 (rpl b 32)) ∧ Kept w w':=by
 cases h : sg32 b
 ·refine (rplace_32_no b hb1 hb2 h w).mono ?_
  rintro e w' ⟨rfl,hk⟩
  exact ⟨ret_int (by unfold rpl; rw [if_neg (by decide),if_neg (by rw [h]; decide)]),hk⟩
 ·have hv:=sg32_inv b h
  refine (rplace_32_yes b hb1 hb2 h hv.1 w).mono ?_
  rintro e w' ⟨rfl,hk⟩
  exact ⟨ret_int (by unfold rpl; rw [if_neg (by decide),if_pos h]; omega),hk⟩
theorem rorder_64_lt (a b : Int) (ha1 : -9223372036854775808 ≤ a) (ha2 : a ≤ 9223372036854775807) (hb1 : -9223372036854775808 ≤ b) (hb2 : b ≤ 9223372036854775807) (ca : (cls a 64 == 4) = false) (cb : (cls b 64 == 4) = false) (h : rpl a 64 < rpl b 64) (w : World) : Calls Tryz.prog 136 #[.int .i64 a,.int .i64 b,.int .i64 64] w fun e w' => e = .returned (.int .i64 (-1)) ∧ Kept w w':=by
 go_enter Tryz.func136,Tryz.ntmps136
 go_wp2_with fail
 refine (of_64 _).mono ?_
 rintro e w1 ⟨rfl,hk1⟩
 go_wp2_with fail
 refine (rclass_any a 64 ha1 ha2 _).mono ?_
 rintro e w2 ⟨rfl,hk2⟩
 go_wp2_with fail
 refine (rclass_any b 64 hb1 hb2 _).mono ?_
 rintro e w3 ⟨rfl,hk3⟩
 have hK:=hk2.trans hk3
 have hcl:=laid_cell hK
 go_wp2
 go_region_held (fun v => Kept (w1.alloc (.cells #[.int .i64 64,.int .i64 53,.int .i64 4503599627370496,.int .i64 2047,.int .i64 (-1074),.int .i64 1024,.int .i64 9218868437227405312,.int .i64 (-9223372036854775808),.int .i64 9221120237041090561] 169)) v ∧ ∀ o,v.cell? ⟨w1.heap.size,o,none⟩ = (w1.alloc (.cells #[.int .i64 64,.int .i64 53,.int .i64 4503599627370496,.int .i64 2047,.int .i64 (-1074),.int .i64 1024,.int .i64 9218868437227405312,.int .i64 (-9223372036854775808),.int .i64 9221120237041090561] 169)).cell? ⟨w1.heap.size,o,none⟩) (first | exact keep0 hK | (refine keep1 ?_ hk4; assumption)) (first | (go_at_call_of 165 a; refine (rplace_64 a ha1 ha2 _).mono ?_; rintro e w4 ⟨rfl,hk4⟩) | (go_at_call_of 165 b; refine (rplace_64 b hb1 hb2 _).mono ?_; rintro e w4 ⟨rfl,hk4⟩))
 all_goals
  go_wp2
  go_ret
  exact ⟨rfl,(hk1.alloc _ _).trans (And.left ‹_›)⟩
theorem rorder_64_gt (a b : Int) (ha1 : -9223372036854775808 ≤ a) (ha2 : a ≤ 9223372036854775807) (hb1 : -9223372036854775808 ≤ b) (hb2 : b ≤ 9223372036854775807) (ca : (cls a 64 == 4) = false) (cb : (cls b 64 == 4) = false) (h : rpl b 64 < rpl a 64) (w : World) : Calls Tryz.prog 136 #[.int .i64 a,.int .i64 b,.int .i64 64] w fun e w' => e = .returned (.int .i64 (1)) ∧ Kept w w':=by
 go_enter Tryz.func136,Tryz.ntmps136
 go_wp2_with fail
 refine (of_64 _).mono ?_
 rintro e w1 ⟨rfl,hk1⟩
 go_wp2_with fail
 refine (rclass_any a 64 ha1 ha2 _).mono ?_
 rintro e w2 ⟨rfl,hk2⟩
 go_wp2_with fail
 refine (rclass_any b 64 hb1 hb2 _).mono ?_
 rintro e w3 ⟨rfl,hk3⟩
 have hK:=hk2.trans hk3
 have hcl:=laid_cell hK
 go_wp2
 go_region_held (fun v => Kept (w1.alloc (.cells #[.int .i64 64,.int .i64 53,.int .i64 4503599627370496,.int .i64 2047,.int .i64 (-1074),.int .i64 1024,.int .i64 9218868437227405312,.int .i64 (-9223372036854775808),.int .i64 9221120237041090561] 169)) v ∧ ∀ o,v.cell? ⟨w1.heap.size,o,none⟩ = (w1.alloc (.cells #[.int .i64 64,.int .i64 53,.int .i64 4503599627370496,.int .i64 2047,.int .i64 (-1074),.int .i64 1024,.int .i64 9218868437227405312,.int .i64 (-9223372036854775808),.int .i64 9221120237041090561] 169)).cell? ⟨w1.heap.size,o,none⟩) (first | exact keep0 hK | (refine keep1 ?_ hk4; assumption)) (first | (go_at_call_of 165 a; refine (rplace_64 a ha1 ha2 _).mono ?_; rintro e w4 ⟨rfl,hk4⟩) | (go_at_call_of 165 b; refine (rplace_64 b hb1 hb2 _).mono ?_; rintro e w4 ⟨rfl,hk4⟩))
 go_wp2
 have hK : Kept (w1.alloc (.cells #[.int .i64 64,.int .i64 53,.int .i64 4503599627370496,.int .i64 2047,.int .i64 (-1074),.int .i64 1024,.int .i64 9218868437227405312,.int .i64 (-9223372036854775808),.int .i64 9221120237041090561] 169)) w4:=And.left (b:=∀ o,w4.cell? ⟨w1.heap.size,o,none⟩ = (w1.alloc (.cells #[.int .i64 64,.int .i64 53,.int .i64 4503599627370496,.int .i64 2047,.int .i64 (-1074),.int .i64 1024,.int .i64 9218868437227405312,.int .i64 (-9223372036854775808),.int .i64 9221120237041090561] 169)).cell? ⟨w1.heap.size,o,none⟩) (by assumption)
 go_region_held (fun v => Kept (w1.alloc (.cells #[.int .i64 64,.int .i64 53,.int .i64 4503599627370496,.int .i64 2047,.int .i64 (-1074),.int .i64 1024,.int .i64 9218868437227405312,.int .i64 (-9223372036854775808),.int .i64 9221120237041090561] 169)) v ∧ ∀ o,v.cell? ⟨w1.heap.size,o,none⟩ = (w1.alloc (.cells #[.int .i64 64,.int .i64 53,.int .i64 4503599627370496,.int .i64 2047,.int .i64 (-1074),.int .i64 1024,.int .i64 9218868437227405312,.int .i64 (-9223372036854775808),.int .i64 9221120237041090561] 169)).cell? ⟨w1.heap.size,o,none⟩) (first | exact keep0 hK | (refine keep1 ?_ hk4; assumption)) (first | (go_at_call_of 165 a; refine (rplace_64 a ha1 ha2 _).mono ?_; rintro e w4 ⟨rfl,hk4⟩) | (go_at_call_of 165 b; refine (rplace_64 b hb1 hb2 _).mono ?_; rintro e w4 ⟨rfl,hk4⟩))
 all_goals
  go_wp2
  go_ret
  exact ⟨rfl,(hk1.alloc _ _).trans (And.left ‹_›)⟩
theorem rorder_64_eq (a b : Int) (ha1 : -9223372036854775808 ≤ a) (ha2 : a ≤ 9223372036854775807) (hb1 : -9223372036854775808 ≤ b) (hb2 : b ≤ 9223372036854775807) (ca : (cls a 64 == 4) = false) (cb : (cls b 64 == 4) = false) (h1 : ¬ rpl b 64 < rpl a 64) (h2 : ¬ rpl a 64 < rpl b 64) (w : World) : Calls Tryz.prog 136 #[.int .i64 a,.int .i64 b,.int .i64 64] w fun e w' => e = .returned (.int .i64 (0)) ∧ Kept w w':=by
 go_enter Tryz.func136,Tryz.ntmps136
 go_wp2_with fail
 refine (of_64 _).mono ?_
 rintro e w1 ⟨rfl,hk1⟩
 go_wp2_with fail
 refine (rclass_any a 64 ha1 ha2 _).mono ?_
 rintro e w2 ⟨rfl,hk2⟩
 go_wp2_with fail
 refine (rclass_any b 64 hb1 hb2 _).mono ?_
 rintro e w3 ⟨rfl,hk3⟩
 have hK:=hk2.trans hk3
 have hcl:=laid_cell hK
 go_wp2
 go_region_held (fun v => Kept (w1.alloc (.cells #[.int .i64 64,.int .i64 53,.int .i64 4503599627370496,.int .i64 2047,.int .i64 (-1074),.int .i64 1024,.int .i64 9218868437227405312,.int .i64 (-9223372036854775808),.int .i64 9221120237041090561] 169)) v ∧ ∀ o,v.cell? ⟨w1.heap.size,o,none⟩ = (w1.alloc (.cells #[.int .i64 64,.int .i64 53,.int .i64 4503599627370496,.int .i64 2047,.int .i64 (-1074),.int .i64 1024,.int .i64 9218868437227405312,.int .i64 (-9223372036854775808),.int .i64 9221120237041090561] 169)).cell? ⟨w1.heap.size,o,none⟩) (first | exact keep0 hK | (refine keep1 ?_ hk4; assumption)) (first | (go_at_call_of 165 a; refine (rplace_64 a ha1 ha2 _).mono ?_; rintro e w4 ⟨rfl,hk4⟩) | (go_at_call_of 165 b; refine (rplace_64 b hb1 hb2 _).mono ?_; rintro e w4 ⟨rfl,hk4⟩))
 go_wp2
 have hK : Kept (w1.alloc (.cells #[.int .i64 64,.int .i64 53,.int .i64 4503599627370496,.int .i64 2047,.int .i64 (-1074),.int .i64 1024,.int .i64 9218868437227405312,.int .i64 (-9223372036854775808),.int .i64 9221120237041090561] 169)) w4:=And.left (b:=∀ o,w4.cell? ⟨w1.heap.size,o,none⟩ = (w1.alloc (.cells #[.int .i64 64,.int .i64 53,.int .i64 4503599627370496,.int .i64 2047,.int .i64 (-1074),.int .i64 1024,.int .i64 9218868437227405312,.int .i64 (-9223372036854775808),.int .i64 9221120237041090561] 169)).cell? ⟨w1.heap.size,o,none⟩) (by assumption)
 go_region_held (fun v => Kept (w1.alloc (.cells #[.int .i64 64,.int .i64 53,.int .i64 4503599627370496,.int .i64 2047,.int .i64 (-1074),.int .i64 1024,.int .i64 9218868437227405312,.int .i64 (-9223372036854775808),.int .i64 9221120237041090561] 169)) v ∧ ∀ o,v.cell? ⟨w1.heap.size,o,none⟩ = (w1.alloc (.cells #[.int .i64 64,.int .i64 53,.int .i64 4503599627370496,.int .i64 2047,.int .i64 (-1074),.int .i64 1024,.int .i64 9218868437227405312,.int .i64 (-9223372036854775808),.int .i64 9221120237041090561] 169)).cell? ⟨w1.heap.size,o,none⟩) (first | exact keep0 hK | (refine keep1 ?_ hk4; assumption)) (first | (go_at_call_of 165 a; refine (rplace_64 a ha1 ha2 _).mono ?_; rintro e w4 ⟨rfl,hk4⟩) | (go_at_call_of 165 b; refine (rplace_64 b hb1 hb2 _).mono ?_; rintro e w4 ⟨rfl,hk4⟩))
 all_goals
  go_wp2
  go_ret
  exact ⟨rfl,(hk1.alloc _ _).trans (And.left ‹_›)⟩
theorem rorder_64_nn (a b : Int) (ha1 : -9223372036854775808 ≤ a) (ha2 : a ≤ 9223372036854775807) (hb1 : -9223372036854775808 ≤ b) (hb2 : b ≤ 9223372036854775807) (ca : (cls a 64 == 4) = true) (cb : (cls b 64 == 4) = true) (w : World) : Calls Tryz.prog 136 #[.int .i64 a,.int .i64 b,.int .i64 64] w fun e w' => e = .returned (.int .i64 (0)) ∧ Kept w w':=by
 go_enter Tryz.func136,Tryz.ntmps136
 go_wp2_with fail
 refine (of_64 _).mono ?_
 rintro e w1 ⟨rfl,hk1⟩
 go_wp2_with fail
 refine (rclass_any a 64 ha1 ha2 _).mono ?_
 rintro e w2 ⟨rfl,hk2⟩
 go_wp2_with fail
 refine (rclass_any b 64 hb1 hb2 _).mono ?_
 rintro e w3 ⟨rfl,hk3⟩
 go_wp2
 go_ret
 exact ⟨rfl,(hk1.alloc _ _).trans (hk2.trans hk3)⟩
theorem rorder_64_na (a b : Int) (ha1 : -9223372036854775808 ≤ a) (ha2 : a ≤ 9223372036854775807) (hb1 : -9223372036854775808 ≤ b) (hb2 : b ≤ 9223372036854775807) (ca : (cls a 64 == 4) = true) (cb : (cls b 64 == 4) = false) (w : World) : Calls Tryz.prog 136 #[.int .i64 a,.int .i64 b,.int .i64 64] w fun e w' => e = .returned (.int .i64 (1)) ∧ Kept w w':=by
 go_enter Tryz.func136,Tryz.ntmps136
 go_wp2_with fail
 refine (of_64 _).mono ?_
 rintro e w1 ⟨rfl,hk1⟩
 go_wp2_with fail
 refine (rclass_any a 64 ha1 ha2 _).mono ?_
 rintro e w2 ⟨rfl,hk2⟩
 go_wp2_with fail
 refine (rclass_any b 64 hb1 hb2 _).mono ?_
 rintro e w3 ⟨rfl,hk3⟩
 go_wp2
 go_ret
 exact ⟨rfl,(hk1.alloc _ _).trans (hk2.trans hk3)⟩
theorem rorder_64_nb (a b : Int) (ha1 : -9223372036854775808 ≤ a) (ha2 : a ≤ 9223372036854775807) (hb1 : -9223372036854775808 ≤ b) (hb2 : b ≤ 9223372036854775807) (ca : (cls a 64 == 4) = false) (cb : (cls b 64 == 4) = true) (w : World) : Calls Tryz.prog 136 #[.int .i64 a,.int .i64 b,.int .i64 64] w fun e w' => e = .returned (.int .i64 (-1)) ∧ Kept w w':=by
 go_enter Tryz.func136,Tryz.ntmps136
 go_wp2_with fail
 refine (of_64 _).mono ?_
 rintro e w1 ⟨rfl,hk1⟩
 go_wp2_with fail
 refine (rclass_any a 64 ha1 ha2 _).mono ?_
 rintro e w2 ⟨rfl,hk2⟩
 go_wp2_with fail
 refine (rclass_any b 64 hb1 hb2 _).mono ?_
 rintro e w3 ⟨rfl,hk3⟩
 go_wp2
 go_ret
 exact ⟨rfl,(hk1.alloc _ _).trans (hk2.trans hk3)⟩
theorem rorder_32_lt (a b : Int) (ha1 : -9223372036854775808 ≤ a) (ha2 : a ≤ 9223372036854775807) (hb1 : -9223372036854775808 ≤ b) (hb2 : b ≤ 9223372036854775807) (ca : (cls a 32 == 4) = false) (cb : (cls b 32 == 4) = false) (h : rpl a 32 < rpl b 32) (w : World) : Calls Tryz.prog 136 #[.int .i64 a,.int .i64 b,.int .i64 32] w fun e w' => e = .returned (.int .i64 (-1)) ∧ Kept w w':=by
 go_enter Tryz.func136,Tryz.ntmps136
 go_wp2_with fail
 refine (of_32 _).mono ?_
 rintro e w1 ⟨rfl,hk1⟩
 go_wp2_with fail
 refine (rclass_any a 32 ha1 ha2 _).mono ?_
 rintro e w2 ⟨rfl,hk2⟩
 go_wp2_with fail
 refine (rclass_any b 32 hb1 hb2 _).mono ?_
 rintro e w3 ⟨rfl,hk3⟩
 have hK:=hk2.trans hk3
 have hcl:=laid_cell hK
 go_wp2
 go_region_held (fun v => Kept (w1.alloc (.cells #[.int .i64 32,.int .i64 24,.int .i64 8388608,.int .i64 255,.int .i64 (-149),.int .i64 128,.int .i64 2139095040,.int .i64 2147483648,.int .i64 2143289345] 169)) v ∧ ∀ o,v.cell? ⟨w1.heap.size,o,none⟩ = (w1.alloc (.cells #[.int .i64 32,.int .i64 24,.int .i64 8388608,.int .i64 255,.int .i64 (-149),.int .i64 128,.int .i64 2139095040,.int .i64 2147483648,.int .i64 2143289345] 169)).cell? ⟨w1.heap.size,o,none⟩) (first | exact keep0 hK | (refine keep1 ?_ hk4; assumption)) (first | (go_at_call_of 165 a; refine (rplace_32 a ha1 ha2 _).mono ?_; rintro e w4 ⟨rfl,hk4⟩) | (go_at_call_of 165 b; refine (rplace_32 b hb1 hb2 _).mono ?_; rintro e w4 ⟨rfl,hk4⟩))
 all_goals
  go_wp2
  go_ret
  exact ⟨rfl,(hk1.alloc _ _).trans (And.left ‹_›)⟩
theorem rorder_32_gt (a b : Int) (ha1 : -9223372036854775808 ≤ a) (ha2 : a ≤ 9223372036854775807) (hb1 : -9223372036854775808 ≤ b) (hb2 : b ≤ 9223372036854775807) (ca : (cls a 32 == 4) = false) (cb : (cls b 32 == 4) = false) (h : rpl b 32 < rpl a 32) (w : World) : Calls Tryz.prog 136 #[.int .i64 a,.int .i64 b,.int .i64 32] w fun e w' => e = .returned (.int .i64 (1)) ∧ Kept w w':=by
 go_enter Tryz.func136,Tryz.ntmps136
 go_wp2_with fail
 refine (of_32 _).mono ?_
 rintro e w1 ⟨rfl,hk1⟩
 go_wp2_with fail
 refine (rclass_any a 32 ha1 ha2 _).mono ?_
 rintro e w2 ⟨rfl,hk2⟩
 go_wp2_with fail
 refine (rclass_any b 32 hb1 hb2 _).mono ?_
 rintro e w3 ⟨rfl,hk3⟩
 have hK:=hk2.trans hk3
 have hcl:=laid_cell hK
 go_wp2
 go_region_held (fun v => Kept (w1.alloc (.cells #[.int .i64 32,.int .i64 24,.int .i64 8388608,.int .i64 255,.int .i64 (-149),.int .i64 128,.int .i64 2139095040,.int .i64 2147483648,.int .i64 2143289345] 169)) v ∧ ∀ o,v.cell? ⟨w1.heap.size,o,none⟩ = (w1.alloc (.cells #[.int .i64 32,.int .i64 24,.int .i64 8388608,.int .i64 255,.int .i64 (-149),.int .i64 128,.int .i64 2139095040,.int .i64 2147483648,.int .i64 2143289345] 169)).cell? ⟨w1.heap.size,o,none⟩) (first | exact keep0 hK | (refine keep1 ?_ hk4; assumption)) (first | (go_at_call_of 165 a; refine (rplace_32 a ha1 ha2 _).mono ?_; rintro e w4 ⟨rfl,hk4⟩) | (go_at_call_of 165 b; refine (rplace_32 b hb1 hb2 _).mono ?_; rintro e w4 ⟨rfl,hk4⟩))
 go_wp2
 have hK : Kept (w1.alloc (.cells #[.int .i64 32,.int .i64 24,.int .i64 8388608,.int .i64 255,.int .i64 (-149),.int .i64 128,.int .i64 2139095040,.int .i64 2147483648,.int .i64 2143289345] 169)) w4:=And.left (b:=∀ o,w4.cell? ⟨w1.heap.size,o,none⟩ = (w1.alloc (.cells #[.int .i64 32,.int .i64 24,.int .i64 8388608,.int .i64 255,.int .i64 (-149),.int .i64 128,.int .i64 2139095040,.int .i64 2147483648,.int .i64 2143289345] 169)).cell? ⟨w1.heap.size,o,none⟩) (by assumption)
 go_region_held (fun v => Kept (w1.alloc (.cells #[.int .i64 32,.int .i64 24,.int .i64 8388608,.int .i64 255,.int .i64 (-149),.int .i64 128,.int .i64 2139095040,.int .i64 2147483648,.int .i64 2143289345] 169)) v ∧ ∀ o,v.cell? ⟨w1.heap.size,o,none⟩ = (w1.alloc (.cells #[.int .i64 32,.int .i64 24,.int .i64 8388608,.int .i64 255,.int .i64 (-149),.int .i64 128,.int .i64 2139095040,.int .i64 2147483648,.int .i64 2143289345] 169)).cell? ⟨w1.heap.size,o,none⟩) (first | exact keep0 hK | (refine keep1 ?_ hk4; assumption)) (first | (go_at_call_of 165 a; refine (rplace_32 a ha1 ha2 _).mono ?_; rintro e w4 ⟨rfl,hk4⟩) | (go_at_call_of 165 b; refine (rplace_32 b hb1 hb2 _).mono ?_; rintro e w4 ⟨rfl,hk4⟩))
 all_goals
  go_wp2
  go_ret
  exact ⟨rfl,(hk1.alloc _ _).trans (And.left ‹_›)⟩
theorem rorder_32_eq (a b : Int) (ha1 : -9223372036854775808 ≤ a) (ha2 : a ≤ 9223372036854775807) (hb1 : -9223372036854775808 ≤ b) (hb2 : b ≤ 9223372036854775807) (ca : (cls a 32 == 4) = false) (cb : (cls b 32 == 4) = false) (h1 : ¬ rpl b 32 < rpl a 32) (h2 : ¬ rpl a 32 < rpl b 32) (w : World) : Calls Tryz.prog 136 #[.int .i64 a,.int .i64 b,.int .i64 32] w fun e w' => e = .returned (.int .i64 (0)) ∧ Kept w w':=by
 go_enter Tryz.func136,Tryz.ntmps136
 go_wp2_with fail
 refine (of_32 _).mono ?_
 rintro e w1 ⟨rfl,hk1⟩
 go_wp2_with fail
 refine (rclass_any a 32 ha1 ha2 _).mono ?_
 rintro e w2 ⟨rfl,hk2⟩
 go_wp2_with fail
 refine (rclass_any b 32 hb1 hb2 _).mono ?_
 rintro e w3 ⟨rfl,hk3⟩
 have hK:=hk2.trans hk3
 have hcl:=laid_cell hK
 go_wp2
 go_region_held (fun v => Kept (w1.alloc (.cells #[.int .i64 32,.int .i64 24,.int .i64 8388608,.int .i64 255,.int .i64 (-149),.int .i64 128,.int .i64 2139095040,.int .i64 2147483648,.int .i64 2143289345] 169)) v ∧ ∀ o,v.cell? ⟨w1.heap.size,o,none⟩ = (w1.alloc (.cells #[.int .i64 32,.int .i64 24,.int .i64 8388608,.int .i64 255,.int .i64 (-149),.int .i64 128,.int .i64 2139095040,.int .i64 2147483648,.int .i64 2143289345] 169)).cell? ⟨w1.heap.size,o,none⟩) (first | exact keep0 hK | (refine keep1 ?_ hk4; assumption)) (first | (go_at_call_of 165 a; refine (rplace_32 a ha1 ha2 _).mono ?_; rintro e w4 ⟨rfl,hk4⟩) | (go_at_call_of 165 b; refine (rplace_32 b hb1 hb2 _).mono ?_; rintro e w4 ⟨rfl,hk4⟩))
 go_wp2
 have hK : Kept (w1.alloc (.cells #[.int .i64 32,.int .i64 24,.int .i64 8388608,.int .i64 255,.int .i64 (-149),.int .i64 128,.int .i64 2139095040,.int .i64 2147483648,.int .i64 2143289345] 169)) w4:=And.left (b:=∀ o,w4.cell? ⟨w1.heap.size,o,none⟩ = (w1.alloc (.cells #[.int .i64 32,.int .i64 24,.int .i64 8388608,.int .i64 255,.int .i64 (-149),.int .i64 128,.int .i64 2139095040,.int .i64 2147483648,.int .i64 2143289345] 169)).cell? ⟨w1.heap.size,o,none⟩) (by assumption)
 go_region_held (fun v => Kept (w1.alloc (.cells #[.int .i64 32,.int .i64 24,.int .i64 8388608,.int .i64 255,.int .i64 (-149),.int .i64 128,.int .i64 2139095040,.int .i64 2147483648,.int .i64 2143289345] 169)) v ∧ ∀ o,v.cell? ⟨w1.heap.size,o,none⟩ = (w1.alloc (.cells #[.int .i64 32,.int .i64 24,.int .i64 8388608,.int .i64 255,.int .i64 (-149),.int .i64 128,.int .i64 2139095040,.int .i64 2147483648,.int .i64 2143289345] 169)).cell? ⟨w1.heap.size,o,none⟩) (first | exact keep0 hK | (refine keep1 ?_ hk4; assumption)) (first | (go_at_call_of 165 a; refine (rplace_32 a ha1 ha2 _).mono ?_; rintro e w4 ⟨rfl,hk4⟩) | (go_at_call_of 165 b; refine (rplace_32 b hb1 hb2 _).mono ?_; rintro e w4 ⟨rfl,hk4⟩))
 all_goals
  go_wp2
  go_ret
  exact ⟨rfl,(hk1.alloc _ _).trans (And.left ‹_›)⟩
theorem rorder_32_nn (a b : Int) (ha1 : -9223372036854775808 ≤ a) (ha2 : a ≤ 9223372036854775807) (hb1 : -9223372036854775808 ≤ b) (hb2 : b ≤ 9223372036854775807) (ca : (cls a 32 == 4) = true) (cb : (cls b 32 == 4) = true) (w : World) : Calls Tryz.prog 136 #[.int .i64 a,.int .i64 b,.int .i64 32] w fun e w' => e = .returned (.int .i64 (0)) ∧ Kept w w':=by
 go_enter Tryz.func136,Tryz.ntmps136
 go_wp2_with fail
 refine (of_32 _).mono ?_
 rintro e w1 ⟨rfl,hk1⟩
 go_wp2_with fail
 refine (rclass_any a 32 ha1 ha2 _).mono ?_
 rintro e w2 ⟨rfl,hk2⟩
 go_wp2_with fail
 refine (rclass_any b 32 hb1 hb2 _).mono ?_
 rintro e w3 ⟨rfl,hk3⟩
 go_wp2
 go_ret
 exact ⟨rfl,(hk1.alloc _ _).trans (hk2.trans hk3)⟩
theorem rorder_32_na (a b : Int) (ha1 : -9223372036854775808 ≤ a) (ha2 : a ≤ 9223372036854775807) (hb1 : -9223372036854775808 ≤ b) (hb2 : b ≤ 9223372036854775807) (ca : (cls a 32 == 4) = true) (cb : (cls b 32 == 4) = false) (w : World) : Calls Tryz.prog 136 #[.int .i64 a,.int .i64 b,.int .i64 32] w fun e w' => e = .returned (.int .i64 (1)) ∧ Kept w w':=by
 go_enter Tryz.func136,Tryz.ntmps136
 go_wp2_with fail
 refine (of_32 _).mono ?_
 rintro e w1 ⟨rfl,hk1⟩
 go_wp2_with fail
 refine (rclass_any a 32 ha1 ha2 _).mono ?_
 rintro e w2 ⟨rfl,hk2⟩
 go_wp2_with fail
 refine (rclass_any b 32 hb1 hb2 _).mono ?_
 rintro e w3 ⟨rfl,hk3⟩
 go_wp2
 go_ret
 exact ⟨rfl,(hk1.alloc _ _).trans (hk2.trans hk3)⟩
theorem rorder_32_nb (a b : Int) (ha1 : -9223372036854775808 ≤ a) (ha2 : a ≤ 9223372036854775807) (hb1 : -9223372036854775808 ≤ b) (hb2 : b ≤ 9223372036854775807) (ca : (cls a 32 == 4) = false) (cb : (cls b 32 == 4) = true) (w : World) : Calls Tryz.prog 136 #[.int .i64 a,.int .i64 b,.int .i64 32] w fun e w' => e = .returned (.int .i64 (-1)) ∧ Kept w w':=by
 go_enter Tryz.func136,Tryz.ntmps136
 go_wp2_with fail
 refine (of_32 _).mono ?_
 rintro e w1 ⟨rfl,hk1⟩
 go_wp2_with fail
 refine (rclass_any a 32 ha1 ha2 _).mono ?_
 rintro e w2 ⟨rfl,hk2⟩
 go_wp2_with fail
 refine (rclass_any b 32 hb1 hb2 _).mono ?_
 rintro e w3 ⟨rfl,hk3⟩
 go_wp2
 go_ret
 exact ⟨rfl,(hk1.alloc _ _).trans (hk2.trans hk3)⟩
theorem rorder_0 (a b n : Int) (ha1 : -9223372036854775808 ≤ a) (ha2 : a ≤ 9223372036854775807) (hb1 : -9223372036854775808 ≤ b) (hb2 : b ≤ 9223372036854775807) (h1 : (n == 32) = false) (h2 : (n == 64) = false) (w : World) : Calls Tryz.prog 136 #[.int .i64 a,.int .i64 b,.int .i64 n] w fun e w' => e = .returned (.int .i64 0) ∧ Kept w w':=by
 go_enter Tryz.func136,Tryz.ntmps136
 go_wp2_with fail
 refine (of_0 n h1 h2 _).mono ?_
 rintro e w1 ⟨rfl,hk1⟩
 go_wp2_with fail
 refine (rclass_any a n ha1 ha2 _).mono ?_
 rintro e w2 ⟨rfl,hk2⟩
 go_wp2_with fail
 refine (rclass_any b n hb1 hb2 _).mono ?_
 rintro e w3 ⟨rfl,hk3⟩
 go_wp2
 go_ret
 exact ⟨rfl,(hk1.alloc _ _).trans (hk2.trans hk3)⟩
theorem rpl_num (b n : Int) (h : isnum b n = true) : plc b n = rpl b n:=by
 rcases isnum_inv b n h with ⟨rfl,hc⟩ | ⟨rfl,hc⟩
 ·unfold plc rpl
  rw [if_pos h,if_pos rfl,if_pos rfl]
 ·have hv:=cls_valid b hc
  have ht : thr b = true:=by simp [thr,hv]
  have e : sg32 b = decide (2147483648 ≤ b):=by simp [sg32,ht,sgn]
  have e32 : ¬ (32 : Int) = 64:=by decide
  unfold plc rpl
  simp only [if_pos h,if_neg e32,e,decide_eq_true_eq]
theorem plc_nan (b n : Int) (h : isnum b n = false) : plc b n = 9223372036854775807:=by
 unfold plc
 rw [if_neg (by rw [h]; decide)]
theorem plc_num (b n : Int) (hb1 : -9223372036854775808 ≤ b) (hb2 : b ≤ 9223372036854775807) (h : isnum b n = true) : plc b n < 9223372036854775807:=by
 rcases isnum_inv b n h with ⟨rfl,hc⟩ | ⟨rfl,hc⟩
 ·have:=cls_num_64 b hc
  unfold plc
  rw [if_pos h,if_pos rfl]
  split <;> omega
 ·have hv:=cls_valid b hc
  unfold plc
  rw [if_pos h,if_neg (by decide)]
  split <;> omega
theorem rorder_any (a b n : Int) (ha1 : -9223372036854775808 ≤ a) (ha2 : a ≤ 9223372036854775807) (hb1 : -9223372036854775808 ≤ b) (hb2 : b ≤ 9223372036854775807) (w : World) : Calls Tryz.prog 136 #[.int .i64 a,.int .i64 b,.int .i64 n] w fun e w' => e = .returned (.int .i64 (ord a b n)) ∧ Kept w w':=by
 by_cases h64 : n = 64
 ·subst h64
  have pa:=plc_num a 64 ha1 ha2
  have pb:=plc_num b 64 hb1 hb2
  have na:=plc_nan a 64
  have nb:=plc_nan b 64
  cases ca : (cls a 64 == 4)
  ·have ia : isnum a 64 = true:=by simpa [isnum] using ca
   cases cb : (cls b 64 == 4)
   ·have ib : isnum b 64 = true:=by simpa [isnum] using cb
    by_cases l1 : rpl a 64 < rpl b 64
    ·refine (rorder_64_lt a b ha1 ha2 hb1 hb2 ca cb l1 w).mono ?_
     rintro e w' ⟨rfl,hk⟩
     exact ⟨ret_int (by unfold ord cmpI; rw [rpl_num a _ ia,rpl_num b _ ib,if_pos l1]),hk⟩
    ·by_cases l2 : rpl b 64 < rpl a 64
     ·refine (rorder_64_gt a b ha1 ha2 hb1 hb2 ca cb l2 w).mono ?_
      rintro e w' ⟨rfl,hk⟩
      exact ⟨ret_int (by unfold ord cmpI; rw [rpl_num a _ ia,rpl_num b _ ib,if_neg l1,if_pos l2]),hk⟩
     ·refine (rorder_64_eq a b ha1 ha2 hb1 hb2 ca cb l2 l1 w).mono ?_
      rintro e w' ⟨rfl,hk⟩
      exact ⟨ret_int (by unfold ord cmpI; rw [rpl_num a _ ia,rpl_num b _ ib,if_neg l1,if_neg l2]),hk⟩
   ·have ib : isnum b 64 = false:=by simpa [isnum] using cb
    refine (rorder_64_nb a b ha1 ha2 hb1 hb2 ca cb w).mono ?_
    rintro e w' ⟨rfl,hk⟩
    have q1:=pa ia
    have q2:=nb ib
    exact ⟨ret_int (by unfold ord cmpI; rw [if_pos (by omega)]),hk⟩
  ·have ia : isnum a 64 = false:=by simpa [isnum] using ca
   have q1:=na ia
   cases cb : (cls b 64 == 4)
   ·have ib : isnum b 64 = true:=by simpa [isnum] using cb
    have q2:=pb ib
    refine (rorder_64_na a b ha1 ha2 hb1 hb2 ca cb w).mono ?_
    rintro e w' ⟨rfl,hk⟩
    exact ⟨ret_int (by unfold ord cmpI; rw [if_neg (by omega),if_pos (by omega)]),hk⟩
   ·have ib : isnum b 64 = false:=by simpa [isnum] using cb
    have q2:=nb ib
    refine (rorder_64_nn a b ha1 ha2 hb1 hb2 ca cb w).mono ?_
    rintro e w' ⟨rfl,hk⟩
    exact ⟨ret_int (by unfold ord cmpI; rw [if_neg (by omega),if_neg (by omega)]),hk⟩
 ·by_cases h32 : n = 32
  ·subst h32
   have pa:=plc_num a 32 ha1 ha2
   have pb:=plc_num b 32 hb1 hb2
   have na:=plc_nan a 32
   have nb:=plc_nan b 32
   cases ca : (cls a 32 == 4)
   ·have ia : isnum a 32 = true:=by simpa [isnum] using ca
    cases cb : (cls b 32 == 4)
    ·have ib : isnum b 32 = true:=by simpa [isnum] using cb
     by_cases l1 : rpl a 32 < rpl b 32
     ·refine (rorder_32_lt a b ha1 ha2 hb1 hb2 ca cb l1 w).mono ?_
      rintro e w' ⟨rfl,hk⟩
      exact ⟨ret_int (by unfold ord cmpI; rw [rpl_num a _ ia,rpl_num b _ ib,if_pos l1]),hk⟩
     ·by_cases l2 : rpl b 32 < rpl a 32
      ·refine (rorder_32_gt a b ha1 ha2 hb1 hb2 ca cb l2 w).mono ?_
       rintro e w' ⟨rfl,hk⟩
       exact ⟨ret_int (by unfold ord cmpI; rw [rpl_num a _ ia,rpl_num b _ ib,if_neg l1,if_pos l2]),hk⟩
      ·refine (rorder_32_eq a b ha1 ha2 hb1 hb2 ca cb l2 l1 w).mono ?_
       rintro e w' ⟨rfl,hk⟩
       exact ⟨ret_int (by unfold ord cmpI; rw [rpl_num a _ ia,rpl_num b _ ib,if_neg l1,if_neg l2]),hk⟩
    ·have ib : isnum b 32 = false:=by simpa [isnum] using cb
     refine (rorder_32_nb a b ha1 ha2 hb1 hb2 ca cb w).mono ?_
     rintro e w' ⟨rfl,hk⟩
     have q1:=pa ia
     have q2:=nb ib
     exact ⟨ret_int (by unfold ord cmpI; rw [if_pos (by omega)]),hk⟩
   ·have ia : isnum a 32 = false:=by simpa [isnum] using ca
    have q1:=na ia
    cases cb : (cls b 32 == 4)
    ·have ib : isnum b 32 = true:=by simpa [isnum] using cb
     have q2:=pb ib
     refine (rorder_32_na a b ha1 ha2 hb1 hb2 ca cb w).mono ?_
     rintro e w' ⟨rfl,hk⟩
     exact ⟨ret_int (by unfold ord cmpI; rw [if_neg (by omega),if_pos (by omega)]),hk⟩
    ·have ib : isnum b 32 = false:=by simpa [isnum] using cb
     have q2:=nb ib
     refine (rorder_32_nn a b ha1 ha2 hb1 hb2 ca cb w).mono ?_
     rintro e w' ⟨rfl,hk⟩
     exact ⟨ret_int (by unfold ord cmpI; rw [if_neg (by omega),if_neg (by omega)]),hk⟩
  ·refine (rorder_0 a b n ha1 ha2 hb1 hb2 (by simpa using h32) (by simpa using h64) w).mono ?_
   rintro e w' ⟨rfl,hk⟩
   exact ⟨ret_int (by unfold ord cmpI; rw [plc_nan a n (isnum_0 a n h64 h32),plc_nan b n (isnum_0 b n h64 h32)]; rfl),hk⟩
theorem rinf (neg ng : Bool) (ao : Option Addr) (l c : Nat) (x : Int) (p m z : Bool) (w : World) : Calls Tryz.prog 92 #[accV ng (.slice ao l c) x p m z,.bool neg] w fun e w' => e = .returned (accV ng (.slice ao l c) x (p || !neg) (m || neg) z) ∧ Kept w w':=by
 cases neg
 ·have e : accV ng (.slice ao l c) x (p || !false) (m || false) z = accV ng (.slice ao l c) x true m z:=by simp
  rw [e]
  go_enter Tryz.func92,Tryz.ntmps92
  go_wp2_with fail
  exact bodyPost_ret (v:=accV ng (.slice ao l c) x true m z) (by simp [results,Tryz.results92,go_sem]) rfl ⟨rfl,((Kept.refl w).alloc _ _).alloc _ _⟩
 ·have e : accV ng (.slice ao l c) x (p || !true) (m || true) z = accV ng (.slice ao l c) x p true z:=by simp
  rw [e]
  go_enter Tryz.func92,Tryz.ntmps92
  go_wp2_with fail
  exact bodyPost_ret (v:=accV ng (.slice ao l c) x p true z) (by simp [results,Tryz.results92,go_sem]) rfl ⟨rfl,((Kept.refl w).alloc _ _).alloc _ _⟩
theorem rnegative (b n o : Int) (w : World) (K : Hid (∀ u,Calls Tryz.prog 136 #[.int .i64 b,.int .i64 0,.int .i64 n] u fun e w' => e = .returned (.int .i64 o) ∧ Kept u w')) : Calls Tryz.prog 93 #[.int .i64 b,.int .i64 n] w fun e w' => e = .returned (.bool (decide (o < 0))) ∧ Kept w w':=by
 go_enter Tryz.func93,Tryz.ntmps93
 go_wp2_with fail
 refine (K.out _).mono ?_
 rintro e w1 ⟨rfl,k1⟩
 go_wp2_with fail
 go_ret
 exact ⟨rfl,k1⟩
end Go.Proofs.YtoflafgbbjinpaaGreatDoor
