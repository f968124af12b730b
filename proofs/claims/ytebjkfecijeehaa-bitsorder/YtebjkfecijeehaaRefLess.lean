/- The walks of the document's own Less, Same, Min, Max: the same contracts as package bits'. -/
import Derived.Test.YtebjkfecijeehaaRefOrder
import Derived.Test.YtebjkfecijeehaaWiden2
import Derived.Test.YtebjkfecijeehaaMinMax
import Derived.Deep.RegionHeld
namespace Go.Proofs.Ytebjkfecijeehaa
open Go.ChangeShapes Go.WideShapes Go.ChangeAt Go.RowKit
set_option linter.unusedVariables false
set_option linter.unusedSimpArgs false

theorem can_bd (b n : Int) (hb1 : -9223372036854775808 ≤ b) (hb2 : b ≤ 9223372036854775807) : -9223372036854775808 ≤ can b n ∧ can b n ≤ 9223372036854775807 := by
  have := nanOf_bd n
  unfold can
  (repeat' split) <;> omega

set_option maxHeartbeats 2000000 in
theorem rless_64_num (a b : Int) (ha1 : -9223372036854775808 ≤ a) (ha2 : a ≤ 9223372036854775807) (hb1 : -9223372036854775808 ≤ b) (hb2 : b ≤ 9223372036854775807) (ca : (cls a 64 == 4) = false) (cb : (cls b 64 == 4) = false) (w : World) : Calls Try.prog 32 #[.int .i64 a, .int .i64 b, .int .i64 64] w fun e w' => e = .returned (.bool (decide (rpl (can a 64) 64 < rpl (can b 64) 64))) ∧ Kept w w' := by
  have qa := can_bd a 64 ha1 ha2
  have qb := can_bd b 64 hb1 hb2
  go_enter Try.func32, Try.ntmps32
  go_wp2_with fail
  refine (of_64 _).mono ?_
  rintro e w1 ⟨rfl, hk1⟩
  go_wp2_with fail
  refine (rclass_any a 64 ha1 ha2 _).mono ?_
  rintro e w2 ⟨rfl, hk2⟩
  go_wp2_with fail
  refine (rclass_any b 64 hb1 hb2 _).mono ?_
  rintro e w3 ⟨rfl, hk3⟩
  have hK := hk2.trans hk3
  go_wp2
  go_region_held (fun v => Kept (w1.alloc (.cells #[.int .i64 64, .int .i64 53, .int .i64 4503599627370496, .int .i64 2047, .int .i64 (-1074), .int .i64 1024, .int .i64 9218868437227405312, .int .i64 (-9223372036854775808), .int .i64 9221120237041090561] 39)) v ∧ ∀ o, v.cell? ⟨w1.heap.size, o, none⟩ = (w1.alloc (.cells #[.int .i64 64, .int .i64 53, .int .i64 4503599627370496, .int .i64 2047, .int .i64 (-1074), .int .i64 1024, .int .i64 9218868437227405312, .int .i64 (-9223372036854775808), .int .i64 9221120237041090561] 39)).cell? ⟨w1.heap.size, o, none⟩) (first | exact keep0 hK | (refine keep1 ?_ hk4; assumption)) (first | (go_at_call_of 65 (can a 64); refine (rplace_64 (can a 64) qa.1 qa.2 _).mono ?_; rintro e w4 ⟨rfl, hk4⟩) | (go_at_call_of 65 (can b 64); refine (rplace_64 (can b 64) qb.1 qb.2 _).mono ?_; rintro e w4 ⟨rfl, hk4⟩) | (go_at_call_of 30 a; refine (rcanon_any a 64 ha1 ha2 _).mono ?_; rintro e w4 ⟨rfl, hk4⟩) | (go_at_call_of 30 b; refine (rcanon_any b 64 hb1 hb2 _).mono ?_; rintro e w4 ⟨rfl, hk4⟩))
  all_goals
    go_wp2
    go_ret
    exact ⟨rfl, (hk1.alloc _ _).trans (And.left ‹_›)⟩

set_option maxHeartbeats 1000000 in
theorem rless_64_na (a b : Int) (ha1 : -9223372036854775808 ≤ a) (ha2 : a ≤ 9223372036854775807) (hb1 : -9223372036854775808 ≤ b) (hb2 : b ≤ 9223372036854775807) (ca : (cls a 64 == 4) = true) (w : World) : Calls Try.prog 32 #[.int .i64 a, .int .i64 b, .int .i64 64] w fun e w' => e = .returned (.bool false) ∧ Kept w w' := by
  go_enter Try.func32, Try.ntmps32
  go_wp2_with fail
  refine (of_64 _).mono ?_
  rintro e w1 ⟨rfl, hk1⟩
  go_wp2_with fail
  refine (rclass_any a 64 ha1 ha2 _).mono ?_
  rintro e w2 ⟨rfl, hk2⟩
  go_wp2
  go_ret
  exact ⟨rfl, (hk1.alloc _ _).trans hk2⟩

set_option maxHeartbeats 1000000 in
theorem rless_64_nb (a b : Int) (ha1 : -9223372036854775808 ≤ a) (ha2 : a ≤ 9223372036854775807) (hb1 : -9223372036854775808 ≤ b) (hb2 : b ≤ 9223372036854775807) (ca : (cls a 64 == 4) = false) (cb : (cls b 64 == 4) = true) (w : World) : Calls Try.prog 32 #[.int .i64 a, .int .i64 b, .int .i64 64] w fun e w' => e = .returned (.bool false) ∧ Kept w w' := by
  go_enter Try.func32, Try.ntmps32
  go_wp2_with fail
  refine (of_64 _).mono ?_
  rintro e w1 ⟨rfl, hk1⟩
  go_wp2_with fail
  refine (rclass_any a 64 ha1 ha2 _).mono ?_
  rintro e w2 ⟨rfl, hk2⟩
  go_wp2_with fail
  refine (rclass_any b 64 hb1 hb2 _).mono ?_
  rintro e w3 ⟨rfl, hk3⟩
  go_wp2
  go_ret
  exact ⟨rfl, (hk1.alloc _ _).trans (hk2.trans hk3)⟩

set_option maxHeartbeats 1000000 in
theorem rsame_64_num (a b : Int) (ha1 : -9223372036854775808 ≤ a) (ha2 : a ≤ 9223372036854775807) (hb1 : -9223372036854775808 ≤ b) (hb2 : b ≤ 9223372036854775807) (ca : (cls a 64 == 4) = false) (w : World) : Calls Try.prog 34 #[.int .i64 a, .int .i64 b, .int .i64 64] w fun e w' => e = .returned (.bool (can a 64 == can b 64)) ∧ Kept w w' := by
  have cx : (cls a 64 != 4) = true := by simpa using ca
  go_enter Try.func34, Try.ntmps34
  go_wp2_with fail
  refine (of_64 _).mono ?_
  rintro e w1 ⟨rfl, hk1⟩
  go_wp2_with fail
  refine (rclass_any a 64 ha1 ha2 _).mono ?_
  rintro e w2 ⟨rfl, hk2⟩
  go_wp2_with fail
  refine (rcanon_any a 64 ha1 ha2 _).mono ?_
  rintro e w3 ⟨rfl, hk3⟩
  go_wp2_with fail
  refine (rcanon_any b 64 hb1 hb2 _).mono ?_
  rintro e w4 ⟨rfl, hk4⟩
  go_wp2
  go_ret
  exact ⟨rfl, (((hk1.alloc _ _).trans hk2).trans hk3).trans hk4⟩

set_option maxHeartbeats 1000000 in
theorem rsame_64_na (a b : Int) (ha1 : -9223372036854775808 ≤ a) (ha2 : a ≤ 9223372036854775807) (hb1 : -9223372036854775808 ≤ b) (hb2 : b ≤ 9223372036854775807) (ca : (cls a 64 == 4) = true) (w : World) : Calls Try.prog 34 #[.int .i64 a, .int .i64 b, .int .i64 64] w fun e w' => e = .returned (.bool false) ∧ Kept w w' := by
  have cx : (cls a 64 != 4) = false := by simpa using ca
  go_enter Try.func34, Try.ntmps34
  go_wp2_with fail
  refine (of_64 _).mono ?_
  rintro e w1 ⟨rfl, hk1⟩
  go_wp2_with fail
  refine (rclass_any a 64 ha1 ha2 _).mono ?_
  rintro e w2 ⟨rfl, hk2⟩
  go_wp2
  go_ret
  exact ⟨rfl, (hk1.alloc _ _).trans hk2⟩

set_option maxHeartbeats 1000000 in
theorem rtold_64_num (a b r : Int) (ha1 : -9223372036854775808 ≤ a) (ha2 : a ≤ 9223372036854775807) (hb1 : -9223372036854775808 ≤ b) (hb2 : b ≤ 9223372036854775807) (ca : (cls a 64 == 4) = false) (cb : (cls b 64 == 4) = false) (w : World) : Calls Try.prog 68 #[.int .i64 a, .int .i64 b, .int .i64 r, .int .i64 64] w fun e w' => e = .returned (.int .i64 r) ∧ Kept w w' := by
  go_enter Try.func68, Try.ntmps68
  go_wp2_with fail
  refine (of_64 _).mono ?_
  rintro e w1 ⟨rfl, hk1⟩
  go_wp2_with fail
  refine (rclass_any a 64 ha1 ha2 _).mono ?_
  rintro e w2 ⟨rfl, hk2⟩
  go_wp2_with fail
  refine (rclass_any b 64 hb1 hb2 _).mono ?_
  rintro e w3 ⟨rfl, hk3⟩
  go_wp2
  go_ret
  exact ⟨rfl, (hk1.alloc _ _).trans (hk2.trans hk3)⟩

set_option maxHeartbeats 1000000 in
theorem rtold_64_na (a b r : Int) (ha1 : -9223372036854775808 ≤ a) (ha2 : a ≤ 9223372036854775807) (hb1 : -9223372036854775808 ≤ b) (hb2 : b ≤ 9223372036854775807) (ca : (cls a 64 == 4) = true) (w : World) : Calls Try.prog 68 #[.int .i64 a, .int .i64 b, .int .i64 r, .int .i64 64] w fun e w' => e = .returned (.int .i64 (nanOf 64)) ∧ Kept w w' := by
  go_enter Try.func68, Try.ntmps68
  go_wp2_with fail
  refine (of_64 _).mono ?_
  rintro e w1 ⟨rfl, hk1⟩
  go_wp2_with fail
  refine (rclass_any a 64 ha1 ha2 _).mono ?_
  rintro e w2 ⟨rfl, hk2⟩
  have hcl := laid_cell hk2
  go_wp2
  go_ret
  exact ⟨rfl, (hk1.alloc _ _).trans hk2⟩

set_option maxHeartbeats 1000000 in
theorem rtold_64_nb (a b r : Int) (ha1 : -9223372036854775808 ≤ a) (ha2 : a ≤ 9223372036854775807) (hb1 : -9223372036854775808 ≤ b) (hb2 : b ≤ 9223372036854775807) (ca : (cls a 64 == 4) = false) (cb : (cls b 64 == 4) = true) (w : World) : Calls Try.prog 68 #[.int .i64 a, .int .i64 b, .int .i64 r, .int .i64 64] w fun e w' => e = .returned (.int .i64 (nanOf 64)) ∧ Kept w w' := by
  go_enter Try.func68, Try.ntmps68
  go_wp2_with fail
  refine (of_64 _).mono ?_
  rintro e w1 ⟨rfl, hk1⟩
  go_wp2_with fail
  refine (rclass_any a 64 ha1 ha2 _).mono ?_
  rintro e w2 ⟨rfl, hk2⟩
  go_wp2_with fail
  refine (rclass_any b 64 hb1 hb2 _).mono ?_
  rintro e w3 ⟨rfl, hk3⟩
  have hcl := laid_cell (hk2.trans hk3)
  go_wp2
  go_ret
  exact ⟨rfl, (hk1.alloc _ _).trans (hk2.trans hk3)⟩

set_option maxHeartbeats 2000000 in
theorem rless_32_num (a b : Int) (ha1 : -9223372036854775808 ≤ a) (ha2 : a ≤ 9223372036854775807) (hb1 : -9223372036854775808 ≤ b) (hb2 : b ≤ 9223372036854775807) (ca : (cls a 32 == 4) = false) (cb : (cls b 32 == 4) = false) (w : World) : Calls Try.prog 32 #[.int .i64 a, .int .i64 b, .int .i64 32] w fun e w' => e = .returned (.bool (decide (rpl (can a 32) 32 < rpl (can b 32) 32))) ∧ Kept w w' := by
  have qa := can_bd a 32 ha1 ha2
  have qb := can_bd b 32 hb1 hb2
  go_enter Try.func32, Try.ntmps32
  go_wp2_with fail
  refine (of_32 _).mono ?_
  rintro e w1 ⟨rfl, hk1⟩
  go_wp2_with fail
  refine (rclass_any a 32 ha1 ha2 _).mono ?_
  rintro e w2 ⟨rfl, hk2⟩
  go_wp2_with fail
  refine (rclass_any b 32 hb1 hb2 _).mono ?_
  rintro e w3 ⟨rfl, hk3⟩
  have hK := hk2.trans hk3
  go_wp2
  go_region_held (fun v => Kept (w1.alloc (.cells #[.int .i64 32, .int .i64 24, .int .i64 8388608, .int .i64 255, .int .i64 (-149), .int .i64 128, .int .i64 2139095040, .int .i64 2147483648, .int .i64 2143289345] 39)) v ∧ ∀ o, v.cell? ⟨w1.heap.size, o, none⟩ = (w1.alloc (.cells #[.int .i64 32, .int .i64 24, .int .i64 8388608, .int .i64 255, .int .i64 (-149), .int .i64 128, .int .i64 2139095040, .int .i64 2147483648, .int .i64 2143289345] 39)).cell? ⟨w1.heap.size, o, none⟩) (first | exact keep0 hK | (refine keep1 ?_ hk4; assumption)) (first | (go_at_call_of 65 (can a 32); refine (rplace_32 (can a 32) qa.1 qa.2 _).mono ?_; rintro e w4 ⟨rfl, hk4⟩) | (go_at_call_of 65 (can b 32); refine (rplace_32 (can b 32) qb.1 qb.2 _).mono ?_; rintro e w4 ⟨rfl, hk4⟩) | (go_at_call_of 30 a; refine (rcanon_any a 32 ha1 ha2 _).mono ?_; rintro e w4 ⟨rfl, hk4⟩) | (go_at_call_of 30 b; refine (rcanon_any b 32 hb1 hb2 _).mono ?_; rintro e w4 ⟨rfl, hk4⟩))
  all_goals
    go_wp2
    go_ret
    exact ⟨rfl, (hk1.alloc _ _).trans (And.left ‹_›)⟩

set_option maxHeartbeats 1000000 in
theorem rless_32_na (a b : Int) (ha1 : -9223372036854775808 ≤ a) (ha2 : a ≤ 9223372036854775807) (hb1 : -9223372036854775808 ≤ b) (hb2 : b ≤ 9223372036854775807) (ca : (cls a 32 == 4) = true) (w : World) : Calls Try.prog 32 #[.int .i64 a, .int .i64 b, .int .i64 32] w fun e w' => e = .returned (.bool false) ∧ Kept w w' := by
  go_enter Try.func32, Try.ntmps32
  go_wp2_with fail
  refine (of_32 _).mono ?_
  rintro e w1 ⟨rfl, hk1⟩
  go_wp2_with fail
  refine (rclass_any a 32 ha1 ha2 _).mono ?_
  rintro e w2 ⟨rfl, hk2⟩
  go_wp2
  go_ret
  exact ⟨rfl, (hk1.alloc _ _).trans hk2⟩

set_option maxHeartbeats 1000000 in
theorem rless_32_nb (a b : Int) (ha1 : -9223372036854775808 ≤ a) (ha2 : a ≤ 9223372036854775807) (hb1 : -9223372036854775808 ≤ b) (hb2 : b ≤ 9223372036854775807) (ca : (cls a 32 == 4) = false) (cb : (cls b 32 == 4) = true) (w : World) : Calls Try.prog 32 #[.int .i64 a, .int .i64 b, .int .i64 32] w fun e w' => e = .returned (.bool false) ∧ Kept w w' := by
  go_enter Try.func32, Try.ntmps32
  go_wp2_with fail
  refine (of_32 _).mono ?_
  rintro e w1 ⟨rfl, hk1⟩
  go_wp2_with fail
  refine (rclass_any a 32 ha1 ha2 _).mono ?_
  rintro e w2 ⟨rfl, hk2⟩
  go_wp2_with fail
  refine (rclass_any b 32 hb1 hb2 _).mono ?_
  rintro e w3 ⟨rfl, hk3⟩
  go_wp2
  go_ret
  exact ⟨rfl, (hk1.alloc _ _).trans (hk2.trans hk3)⟩

set_option maxHeartbeats 1000000 in
theorem rsame_32_num (a b : Int) (ha1 : -9223372036854775808 ≤ a) (ha2 : a ≤ 9223372036854775807) (hb1 : -9223372036854775808 ≤ b) (hb2 : b ≤ 9223372036854775807) (ca : (cls a 32 == 4) = false) (w : World) : Calls Try.prog 34 #[.int .i64 a, .int .i64 b, .int .i64 32] w fun e w' => e = .returned (.bool (can a 32 == can b 32)) ∧ Kept w w' := by
  have cx : (cls a 32 != 4) = true := by simpa using ca
  go_enter Try.func34, Try.ntmps34
  go_wp2_with fail
  refine (of_32 _).mono ?_
  rintro e w1 ⟨rfl, hk1⟩
  go_wp2_with fail
  refine (rclass_any a 32 ha1 ha2 _).mono ?_
  rintro e w2 ⟨rfl, hk2⟩
  go_wp2_with fail
  refine (rcanon_any a 32 ha1 ha2 _).mono ?_
  rintro e w3 ⟨rfl, hk3⟩
  go_wp2_with fail
  refine (rcanon_any b 32 hb1 hb2 _).mono ?_
  rintro e w4 ⟨rfl, hk4⟩
  go_wp2
  go_ret
  exact ⟨rfl, (((hk1.alloc _ _).trans hk2).trans hk3).trans hk4⟩

set_option maxHeartbeats 1000000 in
theorem rsame_32_na (a b : Int) (ha1 : -9223372036854775808 ≤ a) (ha2 : a ≤ 9223372036854775807) (hb1 : -9223372036854775808 ≤ b) (hb2 : b ≤ 9223372036854775807) (ca : (cls a 32 == 4) = true) (w : World) : Calls Try.prog 34 #[.int .i64 a, .int .i64 b, .int .i64 32] w fun e w' => e = .returned (.bool false) ∧ Kept w w' := by
  have cx : (cls a 32 != 4) = false := by simpa using ca
  go_enter Try.func34, Try.ntmps34
  go_wp2_with fail
  refine (of_32 _).mono ?_
  rintro e w1 ⟨rfl, hk1⟩
  go_wp2_with fail
  refine (rclass_any a 32 ha1 ha2 _).mono ?_
  rintro e w2 ⟨rfl, hk2⟩
  go_wp2
  go_ret
  exact ⟨rfl, (hk1.alloc _ _).trans hk2⟩

set_option maxHeartbeats 1000000 in
theorem rtold_32_num (a b r : Int) (ha1 : -9223372036854775808 ≤ a) (ha2 : a ≤ 9223372036854775807) (hb1 : -9223372036854775808 ≤ b) (hb2 : b ≤ 9223372036854775807) (ca : (cls a 32 == 4) = false) (cb : (cls b 32 == 4) = false) (w : World) : Calls Try.prog 68 #[.int .i64 a, .int .i64 b, .int .i64 r, .int .i64 32] w fun e w' => e = .returned (.int .i64 r) ∧ Kept w w' := by
  go_enter Try.func68, Try.ntmps68
  go_wp2_with fail
  refine (of_32 _).mono ?_
  rintro e w1 ⟨rfl, hk1⟩
  go_wp2_with fail
  refine (rclass_any a 32 ha1 ha2 _).mono ?_
  rintro e w2 ⟨rfl, hk2⟩
  go_wp2_with fail
  refine (rclass_any b 32 hb1 hb2 _).mono ?_
  rintro e w3 ⟨rfl, hk3⟩
  go_wp2
  go_ret
  exact ⟨rfl, (hk1.alloc _ _).trans (hk2.trans hk3)⟩

set_option maxHeartbeats 1000000 in
theorem rtold_32_na (a b r : Int) (ha1 : -9223372036854775808 ≤ a) (ha2 : a ≤ 9223372036854775807) (hb1 : -9223372036854775808 ≤ b) (hb2 : b ≤ 9223372036854775807) (ca : (cls a 32 == 4) = true) (w : World) : Calls Try.prog 68 #[.int .i64 a, .int .i64 b, .int .i64 r, .int .i64 32] w fun e w' => e = .returned (.int .i64 (nanOf 32)) ∧ Kept w w' := by
  go_enter Try.func68, Try.ntmps68
  go_wp2_with fail
  refine (of_32 _).mono ?_
  rintro e w1 ⟨rfl, hk1⟩
  go_wp2_with fail
  refine (rclass_any a 32 ha1 ha2 _).mono ?_
  rintro e w2 ⟨rfl, hk2⟩
  have hcl := laid_cell hk2
  go_wp2
  go_ret
  exact ⟨rfl, (hk1.alloc _ _).trans hk2⟩

set_option maxHeartbeats 1000000 in
theorem rtold_32_nb (a b r : Int) (ha1 : -9223372036854775808 ≤ a) (ha2 : a ≤ 9223372036854775807) (hb1 : -9223372036854775808 ≤ b) (hb2 : b ≤ 9223372036854775807) (ca : (cls a 32 == 4) = false) (cb : (cls b 32 == 4) = true) (w : World) : Calls Try.prog 68 #[.int .i64 a, .int .i64 b, .int .i64 r, .int .i64 32] w fun e w' => e = .returned (.int .i64 (nanOf 32)) ∧ Kept w w' := by
  go_enter Try.func68, Try.ntmps68
  go_wp2_with fail
  refine (of_32 _).mono ?_
  rintro e w1 ⟨rfl, hk1⟩
  go_wp2_with fail
  refine (rclass_any a 32 ha1 ha2 _).mono ?_
  rintro e w2 ⟨rfl, hk2⟩
  go_wp2_with fail
  refine (rclass_any b 32 hb1 hb2 _).mono ?_
  rintro e w3 ⟨rfl, hk3⟩
  have hcl := laid_cell (hk2.trans hk3)
  go_wp2
  go_ret
  exact ⟨rfl, (hk1.alloc _ _).trans (hk2.trans hk3)⟩

set_option maxHeartbeats 1000000 in
theorem rless_0 (a b n : Int) (h1 : (n == 32) = false) (h2 : (n == 64) = false) (w : World) : Calls Try.prog 32 #[.int .i64 a, .int .i64 b, .int .i64 n] w fun e w' => e = .returned (.bool false) ∧ Kept w w' := by
  go_enter Try.func32, Try.ntmps32
  go_wp2_with fail
  refine (of_0 n h1 h2 _).mono ?_
  rintro e w1 ⟨rfl, hk1⟩
  go_wp2
  go_ret
  exact ⟨rfl, hk1.alloc _ _⟩

set_option maxHeartbeats 1000000 in
theorem rsame_0 (a b n : Int) (h1 : (n == 32) = false) (h2 : (n == 64) = false) (w : World) : Calls Try.prog 34 #[.int .i64 a, .int .i64 b, .int .i64 n] w fun e w' => e = .returned (.bool false) ∧ Kept w w' := by
  go_enter Try.func34, Try.ntmps34
  go_wp2_with fail
  refine (of_0 n h1 h2 _).mono ?_
  rintro e w1 ⟨rfl, hk1⟩
  go_wp2
  go_ret
  exact ⟨rfl, hk1.alloc _ _⟩

set_option maxHeartbeats 1000000 in
theorem rtold_0 (a b r n : Int) (h1 : (n == 32) = false) (h2 : (n == 64) = false) (w : World) : Calls Try.prog 68 #[.int .i64 a, .int .i64 b, .int .i64 r, .int .i64 n] w fun e w' => e = .returned (.int .i64 0) ∧ Kept w w' := by
  go_enter Try.func68, Try.ntmps68
  go_wp2_with fail
  refine (of_0 n h1 h2 _).mono ?_
  rintro e w1 ⟨rfl, hk1⟩
  go_wp2
  go_ret
  exact ⟨rfl, hk1.alloc _ _⟩

def tld (a b r n : Int) : Int := if (isnum a n && isnum b n) = true then r else nanOf n

theorem rtold_any (a b r n : Int) (ha1 : -9223372036854775808 ≤ a) (ha2 : a ≤ 9223372036854775807) (hb1 : -9223372036854775808 ≤ b) (hb2 : b ≤ 9223372036854775807) (w : World) : Calls Try.prog 68 #[.int .i64 a, .int .i64 b, .int .i64 r, .int .i64 n] w fun e w' => e = .returned (.int .i64 (tld a b r n)) ∧ Kept w w' := by
  by_cases h64 : n = 64
  · subst h64
    cases ca : (cls a 64 == 4)
    · have ia : isnum a 64 = true := by simpa [isnum] using ca
      cases cb : (cls b 64 == 4)
      · have ib : isnum b 64 = true := by simpa [isnum] using cb
        refine (rtold_64_num a b r ha1 ha2 hb1 hb2 ca cb w).mono ?_
        rintro e w' ⟨rfl, hk⟩
        exact ⟨ret_int (by simp [tld, ia, ib]), hk⟩
      · have ib : isnum b 64 = false := by simpa [isnum] using cb
        refine (rtold_64_nb a b r ha1 ha2 hb1 hb2 ca cb w).mono ?_
        rintro e w' ⟨rfl, hk⟩
        exact ⟨ret_int (by simp [tld, ib]), hk⟩
    · have ia : isnum a 64 = false := by simpa [isnum] using ca
      refine (rtold_64_na a b r ha1 ha2 hb1 hb2 ca w).mono ?_
      rintro e w' ⟨rfl, hk⟩
      exact ⟨ret_int (by simp [tld, ia]), hk⟩
  · by_cases h32 : n = 32
    · subst h32
      cases ca : (cls a 32 == 4)
      · have ia : isnum a 32 = true := by simpa [isnum] using ca
        cases cb : (cls b 32 == 4)
        · have ib : isnum b 32 = true := by simpa [isnum] using cb
          refine (rtold_32_num a b r ha1 ha2 hb1 hb2 ca cb w).mono ?_
          rintro e w' ⟨rfl, hk⟩
          exact ⟨ret_int (by simp [tld, ia, ib]), hk⟩
        · have ib : isnum b 32 = false := by simpa [isnum] using cb
          refine (rtold_32_nb a b r ha1 ha2 hb1 hb2 ca cb w).mono ?_
          rintro e w' ⟨rfl, hk⟩
          exact ⟨ret_int (by simp [tld, ib]), hk⟩
      · have ia : isnum a 32 = false := by simpa [isnum] using ca
        refine (rtold_32_na a b r ha1 ha2 hb1 hb2 ca w).mono ?_
        rintro e w' ⟨rfl, hk⟩
        exact ⟨ret_int (by simp [tld, ia]), hk⟩
    · refine (rtold_0 a b r n (by simpa using h32) (by simpa using h64) w).mono ?_
      rintro e w' ⟨rfl, hk⟩
      exact ⟨ret_int (by simp [tld, isnum_0 a n h64 h32, nanOf_0 n h64 h32]), hk⟩

set_option maxHeartbeats 1000000 in
theorem rmin_yes (a b n : Int) (ha1 : -9223372036854775808 ≤ a) (ha2 : a ≤ 9223372036854775807) (hb1 : -9223372036854775808 ≤ b) (hb2 : b ≤ 9223372036854775807) (h : 0 < ord a b n) (w : World) : Calls Try.prog 38 #[.int .i64 a, .int .i64 b, .int .i64 n] w fun e w' => e = .returned (.int .i64 (tld b a b n)) ∧ Kept w w' := by
  go_enter Try.func38, Try.ntmps38
  go_wp2_with fail
  refine (rorder_any a b n ha1 ha2 hb1 hb2 _).mono ?_
  rintro e w1 ⟨rfl, hk1⟩
  go_wp2_with fail
  refine (rtold_any b a b n hb1 hb2 ha1 ha2 _).mono ?_
  rintro e w2 ⟨rfl, hk2⟩
  go_wp2
  go_ret
  exact ⟨rfl, hk1.trans hk2⟩

set_option maxHeartbeats 1000000 in
theorem rmin_no (a b n : Int) (ha1 : -9223372036854775808 ≤ a) (ha2 : a ≤ 9223372036854775807) (hb1 : -9223372036854775808 ≤ b) (hb2 : b ≤ 9223372036854775807) (h : ¬ 0 < ord a b n) (w : World) : Calls Try.prog 38 #[.int .i64 a, .int .i64 b, .int .i64 n] w fun e w' => e = .returned (.int .i64 (tld a b a n)) ∧ Kept w w' := by
  go_enter Try.func38, Try.ntmps38
  go_wp2_with fail
  refine (rorder_any a b n ha1 ha2 hb1 hb2 _).mono ?_
  rintro e w1 ⟨rfl, hk1⟩
  go_wp2_with fail
  refine (rtold_any a b a n ha1 ha2 hb1 hb2 _).mono ?_
  rintro e w2 ⟨rfl, hk2⟩
  go_wp2
  go_ret
  exact ⟨rfl, hk1.trans hk2⟩

theorem rmin_any (a b n : Int) (ha1 : -9223372036854775808 ≤ a) (ha2 : a ≤ 9223372036854775807) (hb1 : -9223372036854775808 ≤ b) (hb2 : b ≤ 9223372036854775807) (w : World) : Calls Try.prog 38 #[.int .i64 a, .int .i64 b, .int .i64 n] w fun e w' => e = .returned (.int .i64 (mn a b n)) ∧ Kept w w' := by
  have ho := ord_gt a b n
  by_cases h : 0 < ord a b n
  · refine (rmin_yes a b n ha1 ha2 hb1 hb2 h w).mono ?_
    rintro e w' ⟨rfl, hk⟩
    refine ⟨ret_int ?_, hk⟩
    unfold tld mn
    rw [Bool.and_comm (isnum b n)]
    by_cases hi : (isnum a n && isnum b n) = true
    · rw [if_pos hi, if_pos hi, if_pos (ho.1 h)]
    · rw [if_neg hi, if_neg hi]
  · refine (rmin_no a b n ha1 ha2 hb1 hb2 h w).mono ?_
    rintro e w' ⟨rfl, hk⟩
    refine ⟨ret_int ?_, hk⟩
    unfold tld mn
    by_cases hi : (isnum a n && isnum b n) = true
    · rw [if_pos hi, if_pos hi, if_neg (fun g => h (ho.2 g))]
    · rw [if_neg hi, if_neg hi]

set_option maxHeartbeats 1000000 in
theorem rmax_yes (a b n : Int) (ha1 : -9223372036854775808 ≤ a) (ha2 : a ≤ 9223372036854775807) (hb1 : -9223372036854775808 ≤ b) (hb2 : b ≤ 9223372036854775807) (h : ord a b n < 0) (w : World) : Calls Try.prog 40 #[.int .i64 a, .int .i64 b, .int .i64 n] w fun e w' => e = .returned (.int .i64 (tld b a b n)) ∧ Kept w w' := by
  go_enter Try.func40, Try.ntmps40
  go_wp2_with fail
  refine (rorder_any a b n ha1 ha2 hb1 hb2 _).mono ?_
  rintro e w1 ⟨rfl, hk1⟩
  go_wp2_with fail
  refine (rtold_any b a b n hb1 hb2 ha1 ha2 _).mono ?_
  rintro e w2 ⟨rfl, hk2⟩
  go_wp2
  go_ret
  exact ⟨rfl, hk1.trans hk2⟩

set_option maxHeartbeats 1000000 in
theorem rmax_no (a b n : Int) (ha1 : -9223372036854775808 ≤ a) (ha2 : a ≤ 9223372036854775807) (hb1 : -9223372036854775808 ≤ b) (hb2 : b ≤ 9223372036854775807) (h : ¬ ord a b n < 0) (w : World) : Calls Try.prog 40 #[.int .i64 a, .int .i64 b, .int .i64 n] w fun e w' => e = .returned (.int .i64 (tld a b a n)) ∧ Kept w w' := by
  go_enter Try.func40, Try.ntmps40
  go_wp2_with fail
  refine (rorder_any a b n ha1 ha2 hb1 hb2 _).mono ?_
  rintro e w1 ⟨rfl, hk1⟩
  go_wp2_with fail
  refine (rtold_any a b a n ha1 ha2 hb1 hb2 _).mono ?_
  rintro e w2 ⟨rfl, hk2⟩
  go_wp2
  go_ret
  exact ⟨rfl, hk1.trans hk2⟩

theorem rmax_any (a b n : Int) (ha1 : -9223372036854775808 ≤ a) (ha2 : a ≤ 9223372036854775807) (hb1 : -9223372036854775808 ≤ b) (hb2 : b ≤ 9223372036854775807) (w : World) : Calls Try.prog 40 #[.int .i64 a, .int .i64 b, .int .i64 n] w fun e w' => e = .returned (.int .i64 (mx a b n)) ∧ Kept w w' := by
  have ho := ord_lt a b n
  by_cases h : ord a b n < 0
  · refine (rmax_yes a b n ha1 ha2 hb1 hb2 h w).mono ?_
    rintro e w' ⟨rfl, hk⟩
    refine ⟨ret_int ?_, hk⟩
    unfold tld mx
    rw [Bool.and_comm (isnum b n)]
    by_cases hi : (isnum a n && isnum b n) = true
    · rw [if_pos hi, if_pos hi, if_pos (ho.1 h)]
    · rw [if_neg hi, if_neg hi]
  · refine (rmax_no a b n ha1 ha2 hb1 hb2 h w).mono ?_
    rintro e w' ⟨rfl, hk⟩
    refine ⟨ret_int ?_, hk⟩
    unfold tld mx
    by_cases hi : (isnum a n && isnum b n) = true
    · rw [if_pos hi, if_pos hi, if_neg (fun g => h (ho.2 g))]
    · rw [if_neg hi, if_neg hi]

theorem rpl_can (b n : Int) (hb1 : -9223372036854775808 ≤ b) (hb2 : b ≤ 9223372036854775807) (h : isnum b n = true) : rpl (can b n) n = if keyOf b n < 0 then keyOf b n - 1 else keyOf b n := by
  rcases isnum_inv b n h with ⟨rfl, hc⟩ | ⟨rfl, hc⟩
  · unfold rpl can keyOf
    rw [if_pos h]
    simp only [if_true]
    (repeat' split) <;> omega
  · have hv := cls_valid b hc
    have e32 : ¬ (32 : Int) = 64 := by decide
    have hcan : can b 32 = if b = 2147483648 then 0 else b := by
      unfold can
      rw [if_pos h, if_neg e32]
    have hcv : 0 ≤ can b 32 ∧ can b 32 < 4294967296 := by rw [hcan]; split <;> omega
    have ht : thr (can b 32) = true := by simp [thr, hcv]
    have e : sg32 (can b 32) = decide (2147483648 ≤ can b 32) := by simp [sg32, ht, sgn]
    unfold rpl keyOf
    rw [if_neg e32, if_neg e32, e]
    simp only [decide_eq_true_eq]
    rw [hcan]
    (repeat' split) <;> omega

theorem cls_nanOf (n : Int) (h : n = 64 ∨ n = 32) : cls (nanOf n) n = 4 := by
  rcases h with rfl | rfl <;> decide +kernel

theorem can_same (a b n : Int) (ha1 : -9223372036854775808 ≤ a) (ha2 : a ≤ 9223372036854775807) (hb1 : -9223372036854775808 ≤ b) (hb2 : b ≤ 9223372036854775807) (ia : isnum a n = true) (ib : isnum b n = true) : can a n = can b n ↔ keyOf a n = keyOf b n := by
  rcases isnum_inv a n ia with ⟨rfl, hc⟩ | ⟨rfl, hc⟩
  · unfold can keyOf
    rw [if_pos ia, if_pos ib]
    simp only [if_true]
    (repeat' split) <;> omega
  · have hv := cls_valid a hc
    have hw := cls_valid b (by simpa [isnum] using ib)
    have e32 : ¬ (32 : Int) = 64 := by decide
    unfold can keyOf
    rw [if_pos ia, if_pos ib, if_neg e32, if_neg e32, if_neg e32, if_neg e32]
    (repeat' split) <;> omega

theorem can_nan (a b n : Int) (ia : isnum a n = true) (ib : isnum b n = false) : can a n ≠ can b n := by
  intro h
  have hb : can b n = nanOf n := by unfold can; rw [if_neg (by rw [ib]; decide)]
  rw [hb] at h
  rcases isnum_inv a n ia with ⟨rfl, hc⟩ | ⟨rfl, hc⟩
  · have hz := cls_nanOf 64 (Or.inl rfl)
    unfold can at h
    rw [if_pos ia, if_pos rfl] at h
    split at h
    · exact absurd h (by decide)
    · rw [← h] at hz; exact hc hz
  · have hz := cls_nanOf 32 (Or.inr rfl)
    have e32 : ¬ (32 : Int) = 64 := by decide
    unfold can at h
    rw [if_pos ia, if_neg e32] at h
    split at h
    · exact absurd h (by decide)
    · rw [← h] at hz; exact hc hz

theorem rless_any (a b n : Int) (ha1 : -9223372036854775808 ≤ a) (ha2 : a ≤ 9223372036854775807) (hb1 : -9223372036854775808 ≤ b) (hb2 : b ≤ 9223372036854775807) (w : World) : Calls Try.prog 32 #[.int .i64 a, .int .i64 b, .int .i64 n] w fun e w' => e = .returned (.bool (lss a b n)) ∧ Kept w w' := by
  by_cases h64 : n = 64
  · subst h64
    cases ca : (cls a 64 == 4)
    · have ia : isnum a 64 = true := by simpa [isnum] using ca
      cases cb : (cls b 64 == 4)
      · have ib : isnum b 64 = true := by simpa [isnum] using cb
        refine (rless_64_num a b ha1 ha2 hb1 hb2 ca cb w).mono ?_
        rintro e w' ⟨rfl, hk⟩
        refine ⟨ret_truth ?_, hk⟩
        unfold lss
        rw [ia, ib, Bool.true_and, Bool.true_and, rpl_can a 64 ha1 ha2 ia, rpl_can b 64 hb1 hb2 ib, Bool.eq_iff_iff, decide_eq_true_eq, decide_eq_true_eq]
        (repeat' split) <;> omega
      · have ib : isnum b 64 = false := by simpa [isnum] using cb
        refine (rless_64_nb a b ha1 ha2 hb1 hb2 ca cb w).mono ?_
        rintro e w' ⟨rfl, hk⟩
        exact ⟨ret_truth (by simp [lss, ib]), hk⟩
    · have ia : isnum a 64 = false := by simpa [isnum] using ca
      refine (rless_64_na a b ha1 ha2 hb1 hb2 ca w).mono ?_
      rintro e w' ⟨rfl, hk⟩
      exact ⟨ret_truth (by simp [lss, ia]), hk⟩
  · by_cases h32 : n = 32
    · subst h32
      cases ca : (cls a 32 == 4)
      · have ia : isnum a 32 = true := by simpa [isnum] using ca
        cases cb : (cls b 32 == 4)
        · have ib : isnum b 32 = true := by simpa [isnum] using cb
          refine (rless_32_num a b ha1 ha2 hb1 hb2 ca cb w).mono ?_
          rintro e w' ⟨rfl, hk⟩
          refine ⟨ret_truth ?_, hk⟩
          unfold lss
          rw [ia, ib, Bool.true_and, Bool.true_and, rpl_can a 32 ha1 ha2 ia, rpl_can b 32 hb1 hb2 ib, Bool.eq_iff_iff, decide_eq_true_eq, decide_eq_true_eq]
          (repeat' split) <;> omega
        · have ib : isnum b 32 = false := by simpa [isnum] using cb
          refine (rless_32_nb a b ha1 ha2 hb1 hb2 ca cb w).mono ?_
          rintro e w' ⟨rfl, hk⟩
          exact ⟨ret_truth (by simp [lss, ib]), hk⟩
      · have ia : isnum a 32 = false := by simpa [isnum] using ca
        refine (rless_32_na a b ha1 ha2 hb1 hb2 ca w).mono ?_
        rintro e w' ⟨rfl, hk⟩
        exact ⟨ret_truth (by simp [lss, ia]), hk⟩
    · refine (rless_0 a b n (by simpa using h32) (by simpa using h64) w).mono ?_
      rintro e w' ⟨rfl, hk⟩
      exact ⟨ret_truth (by simp [lss, isnum_0 a n h64 h32]), hk⟩

theorem rsame_any (a b n : Int) (ha1 : -9223372036854775808 ≤ a) (ha2 : a ≤ 9223372036854775807) (hb1 : -9223372036854775808 ≤ b) (hb2 : b ≤ 9223372036854775807) (w : World) : Calls Try.prog 34 #[.int .i64 a, .int .i64 b, .int .i64 n] w fun e w' => e = .returned (.bool (sam a b n)) ∧ Kept w w' := by
  by_cases h64 : n = 64
  · subst h64
    cases ca : (cls a 64 == 4)
    · have ia : isnum a 64 = true := by simpa [isnum] using ca
      refine (rsame_64_num a b ha1 ha2 hb1 hb2 ca w).mono ?_
      rintro e w' ⟨rfl, hk⟩
      refine ⟨ret_truth ?_, hk⟩
      unfold sam
      cases ib : isnum b 64
      · rw [ia, Bool.true_and, Bool.false_and, beq_eq_false_iff_ne]
        exact can_nan a b 64 ia ib
      · rw [ia, Bool.true_and, Bool.true_and, Bool.eq_iff_iff, beq_iff_eq, decide_eq_true_eq]
        exact can_same a b 64 ha1 ha2 hb1 hb2 ia ib
    · have ia : isnum a 64 = false := by simpa [isnum] using ca
      refine (rsame_64_na a b ha1 ha2 hb1 hb2 ca w).mono ?_
      rintro e w' ⟨rfl, hk⟩
      exact ⟨ret_truth (by simp [sam, ia]), hk⟩
  · by_cases h32 : n = 32
    · subst h32
      cases ca : (cls a 32 == 4)
      · have ia : isnum a 32 = true := by simpa [isnum] using ca
        refine (rsame_32_num a b ha1 ha2 hb1 hb2 ca w).mono ?_
        rintro e w' ⟨rfl, hk⟩
        refine ⟨ret_truth ?_, hk⟩
        unfold sam
        cases ib : isnum b 32
        · rw [ia, Bool.true_and, Bool.false_and, beq_eq_false_iff_ne]
          exact can_nan a b 32 ia ib
        · rw [ia, Bool.true_and, Bool.true_and, Bool.eq_iff_iff, beq_iff_eq, decide_eq_true_eq]
          exact can_same a b 32 ha1 ha2 hb1 hb2 ia ib
      · have ia : isnum a 32 = false := by simpa [isnum] using ca
        refine (rsame_32_na a b ha1 ha2 hb1 hb2 ca w).mono ?_
        rintro e w' ⟨rfl, hk⟩
        exact ⟨ret_truth (by simp [sam, ia]), hk⟩
    · refine (rsame_0 a b n (by simpa using h32) (by simpa using h64) w).mono ?_
      rintro e w' ⟨rfl, hk⟩
      exact ⟨ret_truth (by simp [sam, isnum_0 a n h64 h32]), hk⟩

end Go.Proofs.Ytebjkfecijeehaa
