/- The law BitsWidths, walked call by call. -/
import Derived.Test.YtebjkfecijeehacDoorNones
namespace Go.Proofs.YtebjkfecijeehacDoor
open Go.ChangeShapes Go.WideShapes Go.ChangeAt Go.RowKit
set_option linter.unusedVariables false

set_option maxHeartbeats 2000000 in
set_option maxRecDepth 100000 in
theorem lwidths_v (a b c v : Int) (qa : -9223372036854775808 ≤ a ∧ a ≤ 9223372036854775807) (qb : -9223372036854775808 ≤ b ∧ b ≤ 9223372036854775807) (h1 : (v == 32) = false) (h2 : (v == 64) = false) (w : World) : Calls Tryd.prog 3 #[.int .i64 a, .int .i64 b, .int .i64 c, .int .i64 v] w fun e w' => e = .returned (.bool true) ∧ Kept w w' := by
  have h00 : bits .or .i64 0 0 = 0 := by decide
  go_enter Tryd.func3, Tryd.ntmps3
  go_wp2_with fail
  refine (parts_none a v h1 h2 _).mono ?_
  rintro e w1 ⟨rfl, hk⟩
  have hK := hk
  clear hk
  go_wp2_with fail
  refine (join_0 true b c v h1 h2 _).mono ?_
  rintro e w2 ⟨rfl, hk⟩
  replace hK := hK.trans hk
  clear hk
  go_wp2_with fail
  refine (toInt_0 a v h1 h2 _).mono ?_
  rintro e w3 ⟨rfl, hk⟩
  replace hK := hK.trans hk
  clear hk
  go_wp2_with fail
  refine (valid_0 a v h1 h2 _).mono ?_
  rintro e w4 ⟨rfl, rfl⟩
  go_wp2_with fail
  refine (less_0 a b v qa qb h1 h2 _).mono ?_
  rintro e w5 ⟨rfl, hk⟩
  replace hK := hK.trans hk
  clear hk
  go_wp2_with fail
  refine (same_0 a a v qa qa h1 h2 _).mono ?_
  rintro e w6 ⟨rfl, hk⟩
  replace hK := hK.trans hk
  clear hk
  go_wp2_with fail
  refine (class_0 a v h1 h2 _).mono ?_
  rintro e w7 ⟨rfl, hk⟩
  replace hK := hK.trans hk
  clear hk
  go_wp2_with fail
  refine (next_0 a v h1 h2 _).mono ?_
  rintro e w8 ⟨rfl, hk⟩
  replace hK := hK.trans hk
  clear hk
  go_wp2_with fail
  refine (prev_0 a v h1 h2 _).mono ?_
  rintro e w9 ⟨rfl, hk⟩
  replace hK := hK.trans hk
  clear hk
  go_wp2_with fail
  refine (neg_0 a v h1 h2 _).mono ?_
  rintro e w10 ⟨rfl, hk⟩
  replace hK := hK.trans hk
  clear hk
  go_wp2_with fail
  refine (abs_0 a v h1 h2 _).mono ?_
  rintro e w11 ⟨rfl, hk⟩
  replace hK := hK.trans hk
  clear hk
  go_wp2_with fail
  refine (canon_0 a v h1 h2 _).mono ?_
  rintro e w12 ⟨rfl, hk⟩
  replace hK := hK.trans hk
  clear hk
  go_wp2_with fail
  refine (order_0 a b v h1 h2 _).mono ?_
  rintro e w13 ⟨rfl, hk⟩
  replace hK := hK.trans hk
  clear hk
  go_wp2_with fail
  refine (add_0 a b v h1 h2 _).mono ?_
  rintro e w14 ⟨rfl, rfl⟩
  go_wp2_with fail
  refine (sub_0 a b v h1 h2 _).mono ?_
  rintro e w15 ⟨rfl, rfl⟩
  go_wp2_with fail
  refine (mul_0 a b v h1 h2 _).mono ?_
  rintro e w16 ⟨rfl, rfl⟩
  go_wp2_with fail
  refine (div_0 a b v h1 h2 _).mono ?_
  rintro e w17 ⟨rfl, rfl⟩
  go_wp2_with fail
  refine (sqrt_0 a v h1 h2 _).mono ?_
  rintro e w18 ⟨rfl, rfl⟩
  go_wp2_with fail
  refine (fma_0 a b c v h1 h2 _).mono ?_
  rintro e w19 ⟨rfl, rfl⟩
  go_wp2_with fail
  refine (min_0 a b v h1 h2 _).mono ?_
  rintro e w20 ⟨rfl, hk⟩
  replace hK := hK.trans hk
  clear hk
  go_wp2_with fail
  refine (max_0 a b v h1 h2 _).mono ?_
  rintro e w21 ⟨rfl, hk⟩
  replace hK := hK.trans hk
  clear hk
  go_wp2_with fail
  refine (convert_from a v 64 h1 h2 _).mono ?_
  rintro e w22 ⟨rfl, hk⟩
  replace hK := hK.trans hk
  clear hk
  go_wp2_with fail
  refine (convert_to a v h1 h2 _).mono ?_
  rintro e w23 ⟨rfl, hk⟩
  replace hK := hK.trans hk
  clear hk
  go_wp2_with fail
  refine (fromInt_0 a v h1 h2 _).mono ?_
  rintro e w24 ⟨rfl, rfl⟩
  go_wp2_with fail
  refine (alive_any _).mono ?_
  rintro e v9 ⟨rfl, hk⟩
  replace hK := hK.trans hk
  go_wp2
  go_ret
  exact ⟨rfl, hK⟩

set_option maxHeartbeats 2000000 in
set_option maxRecDepth 100000 in
theorem lwidths_32 (a b c : Int) (qa : -9223372036854775808 ≤ a ∧ a ≤ 9223372036854775807) (qb : -9223372036854775808 ≤ b ∧ b ≤ 9223372036854775807)  (w : World) : Calls Tryd.prog 3 #[.int .i64 a, .int .i64 b, .int .i64 c, .int .i64 32] w fun e w' => e = .returned (.bool true) ∧ Kept w w' := by
  have h00 : bits .or .i64 0 0 = 0 := by decide
  go_enter Tryd.func3, Tryd.ntmps3
  go_wp2_with fail
  refine (parts_none a 0 (by decide) (by decide) _).mono ?_
  rintro e w1 ⟨rfl, hk⟩
  have hK := hk
  clear hk
  go_wp2_with fail
  refine (join_0 true b c 0 (by decide) (by decide) _).mono ?_
  rintro e w2 ⟨rfl, hk⟩
  replace hK := hK.trans hk
  clear hk
  go_wp2_with fail
  refine (toInt_0 a 0 (by decide) (by decide) _).mono ?_
  rintro e w3 ⟨rfl, hk⟩
  replace hK := hK.trans hk
  clear hk
  go_wp2_with fail
  refine (valid_0 a 0 (by decide) (by decide) _).mono ?_
  rintro e w4 ⟨rfl, rfl⟩
  go_wp2_with fail
  refine (less_0 a b 0 qa qb (by decide) (by decide) _).mono ?_
  rintro e w5 ⟨rfl, hk⟩
  replace hK := hK.trans hk
  clear hk
  go_wp2_with fail
  refine (same_0 a a 0 qa qa (by decide) (by decide) _).mono ?_
  rintro e w6 ⟨rfl, hk⟩
  replace hK := hK.trans hk
  clear hk
  go_wp2_with fail
  refine (class_0 a 0 (by decide) (by decide) _).mono ?_
  rintro e w7 ⟨rfl, hk⟩
  replace hK := hK.trans hk
  clear hk
  go_wp2_with fail
  refine (next_0 a 0 (by decide) (by decide) _).mono ?_
  rintro e w8 ⟨rfl, hk⟩
  replace hK := hK.trans hk
  clear hk
  go_wp2_with fail
  refine (prev_0 a 0 (by decide) (by decide) _).mono ?_
  rintro e w9 ⟨rfl, hk⟩
  replace hK := hK.trans hk
  clear hk
  go_wp2_with fail
  refine (neg_0 a 0 (by decide) (by decide) _).mono ?_
  rintro e w10 ⟨rfl, hk⟩
  replace hK := hK.trans hk
  clear hk
  go_wp2_with fail
  refine (abs_0 a 0 (by decide) (by decide) _).mono ?_
  rintro e w11 ⟨rfl, hk⟩
  replace hK := hK.trans hk
  clear hk
  go_wp2_with fail
  refine (canon_0 a 0 (by decide) (by decide) _).mono ?_
  rintro e w12 ⟨rfl, hk⟩
  replace hK := hK.trans hk
  clear hk
  go_wp2_with fail
  refine (order_0 a b 0 (by decide) (by decide) _).mono ?_
  rintro e w13 ⟨rfl, hk⟩
  replace hK := hK.trans hk
  clear hk
  go_wp2_with fail
  refine (add_0 a b 0 (by decide) (by decide) _).mono ?_
  rintro e w14 ⟨rfl, rfl⟩
  go_wp2_with fail
  refine (sub_0 a b 0 (by decide) (by decide) _).mono ?_
  rintro e w15 ⟨rfl, rfl⟩
  go_wp2_with fail
  refine (mul_0 a b 0 (by decide) (by decide) _).mono ?_
  rintro e w16 ⟨rfl, rfl⟩
  go_wp2_with fail
  refine (div_0 a b 0 (by decide) (by decide) _).mono ?_
  rintro e w17 ⟨rfl, rfl⟩
  go_wp2_with fail
  refine (sqrt_0 a 0 (by decide) (by decide) _).mono ?_
  rintro e w18 ⟨rfl, rfl⟩
  go_wp2_with fail
  refine (fma_0 a b c 0 (by decide) (by decide) _).mono ?_
  rintro e w19 ⟨rfl, rfl⟩
  go_wp2_with fail
  refine (min_0 a b 0 (by decide) (by decide) _).mono ?_
  rintro e w20 ⟨rfl, hk⟩
  replace hK := hK.trans hk
  clear hk
  go_wp2_with fail
  refine (max_0 a b 0 (by decide) (by decide) _).mono ?_
  rintro e w21 ⟨rfl, hk⟩
  replace hK := hK.trans hk
  clear hk
  go_wp2_with fail
  refine (convert_from a 0 64 (by decide) (by decide) _).mono ?_
  rintro e w22 ⟨rfl, hk⟩
  replace hK := hK.trans hk
  clear hk
  go_wp2_with fail
  refine (convert_to a 0 (by decide) (by decide) _).mono ?_
  rintro e w23 ⟨rfl, hk⟩
  replace hK := hK.trans hk
  clear hk
  go_wp2_with fail
  refine (fromInt_0 a 0 (by decide) (by decide) _).mono ?_
  rintro e w24 ⟨rfl, rfl⟩
  go_wp2_with fail
  refine (alive_any _).mono ?_
  rintro e v9 ⟨rfl, hk⟩
  replace hK := hK.trans hk
  go_wp2
  go_ret
  exact ⟨rfl, hK⟩

set_option maxHeartbeats 2000000 in
set_option maxRecDepth 100000 in
theorem lwidths_64 (a b c : Int) (qa : -9223372036854775808 ≤ a ∧ a ≤ 9223372036854775807) (qb : -9223372036854775808 ≤ b ∧ b ≤ 9223372036854775807)  (w : World) : Calls Tryd.prog 3 #[.int .i64 a, .int .i64 b, .int .i64 c, .int .i64 64] w fun e w' => e = .returned (.bool true) ∧ Kept w w' := by
  have h00 : bits .or .i64 0 0 = 0 := by decide
  go_enter Tryd.func3, Tryd.ntmps3
  go_wp2_with fail
  refine (parts_none a 0 (by decide) (by decide) _).mono ?_
  rintro e w1 ⟨rfl, hk⟩
  have hK := hk
  clear hk
  go_wp2_with fail
  refine (join_0 true b c 0 (by decide) (by decide) _).mono ?_
  rintro e w2 ⟨rfl, hk⟩
  replace hK := hK.trans hk
  clear hk
  go_wp2_with fail
  refine (toInt_0 a 0 (by decide) (by decide) _).mono ?_
  rintro e w3 ⟨rfl, hk⟩
  replace hK := hK.trans hk
  clear hk
  go_wp2_with fail
  refine (valid_0 a 0 (by decide) (by decide) _).mono ?_
  rintro e w4 ⟨rfl, rfl⟩
  go_wp2_with fail
  refine (less_0 a b 0 qa qb (by decide) (by decide) _).mono ?_
  rintro e w5 ⟨rfl, hk⟩
  replace hK := hK.trans hk
  clear hk
  go_wp2_with fail
  refine (same_0 a a 0 qa qa (by decide) (by decide) _).mono ?_
  rintro e w6 ⟨rfl, hk⟩
  replace hK := hK.trans hk
  clear hk
  go_wp2_with fail
  refine (class_0 a 0 (by decide) (by decide) _).mono ?_
  rintro e w7 ⟨rfl, hk⟩
  replace hK := hK.trans hk
  clear hk
  go_wp2_with fail
  refine (next_0 a 0 (by decide) (by decide) _).mono ?_
  rintro e w8 ⟨rfl, hk⟩
  replace hK := hK.trans hk
  clear hk
  go_wp2_with fail
  refine (prev_0 a 0 (by decide) (by decide) _).mono ?_
  rintro e w9 ⟨rfl, hk⟩
  replace hK := hK.trans hk
  clear hk
  go_wp2_with fail
  refine (neg_0 a 0 (by decide) (by decide) _).mono ?_
  rintro e w10 ⟨rfl, hk⟩
  replace hK := hK.trans hk
  clear hk
  go_wp2_with fail
  refine (abs_0 a 0 (by decide) (by decide) _).mono ?_
  rintro e w11 ⟨rfl, hk⟩
  replace hK := hK.trans hk
  clear hk
  go_wp2_with fail
  refine (canon_0 a 0 (by decide) (by decide) _).mono ?_
  rintro e w12 ⟨rfl, hk⟩
  replace hK := hK.trans hk
  clear hk
  go_wp2_with fail
  refine (order_0 a b 0 (by decide) (by decide) _).mono ?_
  rintro e w13 ⟨rfl, hk⟩
  replace hK := hK.trans hk
  clear hk
  go_wp2_with fail
  refine (add_0 a b 0 (by decide) (by decide) _).mono ?_
  rintro e w14 ⟨rfl, rfl⟩
  go_wp2_with fail
  refine (sub_0 a b 0 (by decide) (by decide) _).mono ?_
  rintro e w15 ⟨rfl, rfl⟩
  go_wp2_with fail
  refine (mul_0 a b 0 (by decide) (by decide) _).mono ?_
  rintro e w16 ⟨rfl, rfl⟩
  go_wp2_with fail
  refine (div_0 a b 0 (by decide) (by decide) _).mono ?_
  rintro e w17 ⟨rfl, rfl⟩
  go_wp2_with fail
  refine (sqrt_0 a 0 (by decide) (by decide) _).mono ?_
  rintro e w18 ⟨rfl, rfl⟩
  go_wp2_with fail
  refine (fma_0 a b c 0 (by decide) (by decide) _).mono ?_
  rintro e w19 ⟨rfl, rfl⟩
  go_wp2_with fail
  refine (min_0 a b 0 (by decide) (by decide) _).mono ?_
  rintro e w20 ⟨rfl, hk⟩
  replace hK := hK.trans hk
  clear hk
  go_wp2_with fail
  refine (max_0 a b 0 (by decide) (by decide) _).mono ?_
  rintro e w21 ⟨rfl, hk⟩
  replace hK := hK.trans hk
  clear hk
  go_wp2_with fail
  refine (convert_from a 0 64 (by decide) (by decide) _).mono ?_
  rintro e w22 ⟨rfl, hk⟩
  replace hK := hK.trans hk
  clear hk
  go_wp2_with fail
  refine (convert_to a 0 (by decide) (by decide) _).mono ?_
  rintro e w23 ⟨rfl, hk⟩
  replace hK := hK.trans hk
  clear hk
  go_wp2_with fail
  refine (fromInt_0 a 0 (by decide) (by decide) _).mono ?_
  rintro e w24 ⟨rfl, rfl⟩
  go_wp2_with fail
  refine (alive_any _).mono ?_
  rintro e v9 ⟨rfl, hk⟩
  replace hK := hK.trans hk
  go_wp2
  go_ret
  exact ⟨rfl, hK⟩

theorem lwidths_any (a b c v : Int) (qa : -9223372036854775808 ≤ a ∧ a ≤ 9223372036854775807) (qb : -9223372036854775808 ≤ b ∧ b ≤ 9223372036854775807) (w : World) : Calls Tryd.prog 3 #[.int .i64 a, .int .i64 b, .int .i64 c, .int .i64 v] w fun e w' => e = .returned (.bool true) ∧ Kept w w' := by
  by_cases h32 : v = 32
  · subst h32; exact lwidths_32 a b c qa qb w
  · by_cases h64 : v = 64
    · subst h64; exact lwidths_64 a b c qa qb w
    · exact lwidths_v a b c v qa qb (by simpa using h32) (by simpa using h64) w

end Go.Proofs.YtebjkfecijeehacDoor
