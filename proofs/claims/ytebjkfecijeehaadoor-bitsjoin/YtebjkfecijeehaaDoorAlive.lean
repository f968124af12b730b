/- The walk of the laws' own test of life: 1 says what it is, in both widths. -/
import Derived.Test.YtebjkfecijeehaaDoorFloats
namespace Go.Proofs.YtebjkfecijeehaaDoor
open Go.ChangeShapes Go.WideShapes Go.ChangeAt Go.RowKit

theorem one_64 : pat64 4607182418800017408 = 4607182418800017408 := by decide +kernel
theorem two_64 : of64 4611686018427387904 = 4611686018427387904 := by decide +kernel
theorem sum_64 : FloatKind.f64.format.add 4607182418800017408 4607182418800017408 = some 4611686018427387904 := by decide +kernel
theorem one_32 : pat32 1065353216 = 1065353216 := by decide +kernel
theorem two_32 : of32 1073741824 = 1073741824 := by decide +kernel
theorem sum_32 : FloatKind.f32.format.add 1065353216 1065353216 = some 1073741824 := by decide +kernel

theorem float_one (w : World) : Calls Tryd.prog 26 #[.int .i64 4607182418800017408] w fun e w' => e = .returned (.float .f64 4607182418800017408) ∧ w = w' := by
  have h := float_any 4607182418800017408 w
  rw [one_64] at h
  exact h
theorem of_two (w : World) : Calls Tryd.prog 24 #[.float .f64 4611686018427387904] w fun e w' => e = .returned (.int .i64 4611686018427387904) ∧ w = w' := by
  have h := of64_any 4611686018427387904 w
  rw [two_64] at h
  exact h
theorem float_one32 (w : World) : Calls Tryd.prog 23 #[.int .i64 1065353216] w fun e w' => e = .returned (.float .f32 1065353216) ∧ w = w' := by
  have h := float32_any 1065353216 w
  rw [one_32] at h
  exact h
theorem of_two32 (w : World) : Calls Tryd.prog 21 #[.float .f32 1073741824] w fun e w' => e = .returned (.int .i64 1073741824) ∧ w = w' := by
  have h := of32_any 1073741824 w
  rw [two_32] at h
  exact h

set_option maxHeartbeats 400000 in
theorem apply_one (w : World) : Calls Tryd.prog 15 #[.int .i64 0, .int .i64 4607182418800017408, .int .i64 4607182418800017408, .int .i64 64] w fun e w' => e = .returned (.int .i64 4611686018427387904) ∧ w = w' := by
  go_enter Tryd.func15, Tryd.ntmps15
  go_wp2_with (first | (go_at_call 26; refine (float_one _).mono ?_; rintro e w2 ⟨rfl, rfl⟩) | (go_at_call 25; refine (single64_add _ _ _ sum_64 _).mono ?_; rintro e w2 ⟨rfl, rfl⟩) | (go_at_call 24; refine (of_two _).mono ?_; rintro e w2 ⟨rfl, rfl⟩))
  go_ret
  exact ⟨rfl, rfl⟩

set_option maxHeartbeats 400000 in
theorem apply_one32 (w : World) : Calls Tryd.prog 15 #[.int .i64 0, .int .i64 1065353216, .int .i64 1065353216, .int .i64 32] w fun e w' => e = .returned (.int .i64 1073741824) ∧ w = w' := by
  go_enter Tryd.func15, Tryd.ntmps15
  go_wp2_with (first | (go_at_call 23; refine (float_one32 _).mono ?_; rintro e w2 ⟨rfl, rfl⟩) | (go_at_call 22; refine (single32_add _ _ _ sum_32 _).mono ?_; rintro e w2 ⟨rfl, rfl⟩) | (go_at_call 21; refine (of_two32 _).mono ?_; rintro e w2 ⟨rfl, rfl⟩))
  go_ret
  exact ⟨rfl, rfl⟩

set_option maxHeartbeats 400000 in
theorem add_one (w : World) : Calls Tryd.prog 9 #[.int .i64 4607182418800017408, .int .i64 4607182418800017408, .int .i64 64] w fun e w' => e = .returned (.int .i64 4611686018427387904) ∧ w = w' := by
  go_enter Tryd.func9, Tryd.ntmps9
  go_wp2_with (first | (go_at_call 15; refine (apply_one _).mono ?_; rintro e w2 ⟨rfl, rfl⟩))
  go_ret
  exact ⟨rfl, rfl⟩

set_option maxHeartbeats 400000 in
theorem add_one32 (w : World) : Calls Tryd.prog 9 #[.int .i64 1065353216, .int .i64 1065353216, .int .i64 32] w fun e w' => e = .returned (.int .i64 1073741824) ∧ w = w' := by
  go_enter Tryd.func9, Tryd.ntmps9
  go_wp2_with (first | (go_at_call 15; refine (apply_one32 _).mono ?_; rintro e w2 ⟨rfl, rfl⟩))
  go_ret
  exact ⟨rfl, rfl⟩

theorem class_one (w : World) : Calls Tryd.prog 7 #[.int .i64 4607182418800017408, .int .i64 64] w fun e w' => e = .returned (.int .i64 2) ∧ Kept w w' := by
  have h := class_any 4607182418800017408 64 w
  rw [show cls 4607182418800017408 64 = 2 by decide +kernel] at h
  exact h
theorem class_one32 (w : World) : Calls Tryd.prog 7 #[.int .i64 1065353216, .int .i64 32] w fun e w' => e = .returned (.int .i64 2) ∧ Kept w w' := by
  have h := class_any 1065353216 32 w
  rw [show cls 1065353216 32 = 2 by decide +kernel] at h
  exact h
theorem next_one (w : World) : Calls Tryd.prog 8 #[.int .i64 4607182418800017408, .int .i64 64] w fun e w' => e = .returned (.int .i64 4607182418800017409) ∧ Kept w w' := by
  have h := next_any 4607182418800017408 64 (by decide) (by decide) w
  rw [show nxt 4607182418800017408 64 = 4607182418800017409 by decide +kernel] at h
  exact h
theorem parts_one (w : World) : Calls Tryd.prog 6 #[.int .i64 4607182418800017408, .int .i64 64] w fun e w' => e = .returned (.tuple #[.bool false, .int .i64 4503599627370496, .int .i64 (-52), .bool true]) ∧ Kept w w' := by
  have h := parts_any 4607182418800017408 64 (by decide) (by decide) w
  rw [show pneg 4607182418800017408 64 = false by decide +kernel, show pmag 4607182418800017408 64 = 4503599627370496 by decide +kernel, show pexp 4607182418800017408 64 = -52 by decide +kernel, show fin 4607182418800017408 64 = true by decide +kernel] at h
  exact h

set_option maxHeartbeats 1000000 in
theorem alive_any (w : World) : Calls Tryd.prog 4 #[] w fun e w' => e = .returned (.bool true) ∧ Kept w w' := by
  go_enter Tryd.func4, Tryd.ntmps4
  go_wp2_with fail
  refine (parts_one _).mono ?_
  rintro e w1 ⟨rfl, hk1⟩
  go_wp2_with fail
  refine (class_one _).mono ?_
  rintro e w2 ⟨rfl, hk2⟩
  go_wp2_with fail
  refine (class_one32 _).mono ?_
  rintro e w3 ⟨rfl, hk3⟩
  go_wp2_with fail
  refine (next_one _).mono ?_
  rintro e w4 ⟨rfl, hk4⟩
  go_wp2_with fail
  refine (add_one _).mono ?_
  rintro e w5 ⟨rfl, rfl⟩
  go_wp2_with fail
  refine (add_one32 _).mono ?_
  rintro e w6 ⟨rfl, rfl⟩
  go_wp2
  go_ret
  exact ⟨rfl, ((hk1.trans hk2).trans hk3).trans hk4⟩

end Go.Proofs.YtebjkfecijeehaaDoor
