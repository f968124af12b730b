/- The walks of Min and Max of package bits. -/
import Derived.Test.YtebjkfecijeehacDoorOrder
namespace Go.Proofs.YtebjkfecijeehacDoor
open Go.ChangeShapes Go.WideShapes Go.ChangeAt Go.RowKit
set_option linter.unusedVariables false

set_option maxHeartbeats 400000 in
theorem min_64_no (a b : Int) (ha1 : -9223372036854775808 ≤ a) (ha2 : a ≤ 9223372036854775807) (hb1 : -9223372036854775808 ≤ b) (hb2 : b ≤ 9223372036854775807) (hi : (isnum a 64 && isnum b 64) = false) (w : World) : Calls Tryd.prog 23 #[.int .i64 a, .int .i64 b, .int .i64 64] w fun e w' => e = .returned (.int .i64 9221120237041090561) ∧ Kept w w' := by
  go_enter Tryd.func23, Tryd.ntmps23
  go_wp2_with (first | (go_at_call 34; refine (numbers2_64 a b _).mono ?_; rintro e w1 ⟨rfl, hk1⟩))
  go_ret
  exact ⟨rfl, hk1.alloc _ _⟩

set_option maxHeartbeats 400000 in
theorem min_64_one (a b : Int) (ha1 : -9223372036854775808 ≤ a) (ha2 : a ≤ 9223372036854775807) (hb1 : -9223372036854775808 ≤ b) (hb2 : b ≤ 9223372036854775807) (hi : (isnum a 64 && isnum b 64) = true) (ho : 0 < ord a b 64) (w : World) : Calls Tryd.prog 23 #[.int .i64 a, .int .i64 b, .int .i64 64] w fun e w' => e = .returned (.int .i64 b) ∧ Kept w w' := by
  go_enter Tryd.func23, Tryd.ntmps23
  go_wp2_with (first | (go_at_call 34; refine (numbers2_64 a b _).mono ?_; rintro e w1 ⟨rfl, hk1⟩) | (go_at_call 16; refine (order_any _ _ _ ha1 ha2 hb1 hb2 _).mono ?_; rintro e w2 ⟨rfl, hk2⟩))
  go_ret
  exact ⟨rfl, (hk1.alloc _ _).trans hk2⟩

set_option maxHeartbeats 400000 in
theorem min_64_two (a b : Int) (ha1 : -9223372036854775808 ≤ a) (ha2 : a ≤ 9223372036854775807) (hb1 : -9223372036854775808 ≤ b) (hb2 : b ≤ 9223372036854775807) (hi : (isnum a 64 && isnum b 64) = true) (ho : ¬ 0 < ord a b 64) (w : World) : Calls Tryd.prog 23 #[.int .i64 a, .int .i64 b, .int .i64 64] w fun e w' => e = .returned (.int .i64 a) ∧ Kept w w' := by
  go_enter Tryd.func23, Tryd.ntmps23
  go_wp2_with (first | (go_at_call 34; refine (numbers2_64 a b _).mono ?_; rintro e w1 ⟨rfl, hk1⟩) | (go_at_call 16; refine (order_any _ _ _ ha1 ha2 hb1 hb2 _).mono ?_; rintro e w2 ⟨rfl, hk2⟩))
  go_ret
  exact ⟨rfl, (hk1.alloc _ _).trans hk2⟩

set_option maxHeartbeats 400000 in
theorem min_32_no (a b : Int) (ha1 : -9223372036854775808 ≤ a) (ha2 : a ≤ 9223372036854775807) (hb1 : -9223372036854775808 ≤ b) (hb2 : b ≤ 9223372036854775807) (hi : (isnum a 32 && isnum b 32) = false) (w : World) : Calls Tryd.prog 23 #[.int .i64 a, .int .i64 b, .int .i64 32] w fun e w' => e = .returned (.int .i64 2143289345) ∧ Kept w w' := by
  go_enter Tryd.func23, Tryd.ntmps23
  go_wp2_with (first | (go_at_call 34; refine (numbers2_32 a b _).mono ?_; rintro e w1 ⟨rfl, hk1⟩))
  go_ret
  exact ⟨rfl, hk1.alloc _ _⟩

set_option maxHeartbeats 400000 in
theorem min_32_one (a b : Int) (ha1 : -9223372036854775808 ≤ a) (ha2 : a ≤ 9223372036854775807) (hb1 : -9223372036854775808 ≤ b) (hb2 : b ≤ 9223372036854775807) (hi : (isnum a 32 && isnum b 32) = true) (ho : 0 < ord a b 32) (w : World) : Calls Tryd.prog 23 #[.int .i64 a, .int .i64 b, .int .i64 32] w fun e w' => e = .returned (.int .i64 b) ∧ Kept w w' := by
  go_enter Tryd.func23, Tryd.ntmps23
  go_wp2_with (first | (go_at_call 34; refine (numbers2_32 a b _).mono ?_; rintro e w1 ⟨rfl, hk1⟩) | (go_at_call 16; refine (order_any _ _ _ ha1 ha2 hb1 hb2 _).mono ?_; rintro e w2 ⟨rfl, hk2⟩))
  go_ret
  exact ⟨rfl, (hk1.alloc _ _).trans hk2⟩

set_option maxHeartbeats 400000 in
theorem min_32_two (a b : Int) (ha1 : -9223372036854775808 ≤ a) (ha2 : a ≤ 9223372036854775807) (hb1 : -9223372036854775808 ≤ b) (hb2 : b ≤ 9223372036854775807) (hi : (isnum a 32 && isnum b 32) = true) (ho : ¬ 0 < ord a b 32) (w : World) : Calls Tryd.prog 23 #[.int .i64 a, .int .i64 b, .int .i64 32] w fun e w' => e = .returned (.int .i64 a) ∧ Kept w w' := by
  go_enter Tryd.func23, Tryd.ntmps23
  go_wp2_with (first | (go_at_call 34; refine (numbers2_32 a b _).mono ?_; rintro e w1 ⟨rfl, hk1⟩) | (go_at_call 16; refine (order_any _ _ _ ha1 ha2 hb1 hb2 _).mono ?_; rintro e w2 ⟨rfl, hk2⟩))
  go_ret
  exact ⟨rfl, (hk1.alloc _ _).trans hk2⟩

set_option maxHeartbeats 400000 in
theorem min_0 (a b n : Int) (h1 : (n == 32) = false) (h2 : (n == 64) = false) (w : World) : Calls Tryd.prog 23 #[.int .i64 a, .int .i64 b, .int .i64 n] w fun e w' => e = .returned (.int .i64 0) ∧ Kept w w' := by
  go_enter Tryd.func23, Tryd.ntmps23
  go_wp2_with (first | (go_at_call 34; refine (numbers2_0 a b _ h1 h2 _).mono ?_; rintro e w1 ⟨rfl, hk1⟩))
  go_ret
  exact ⟨rfl, hk1.alloc _ _⟩

theorem min_any (a b n : Int) (ha1 : -9223372036854775808 ≤ a) (ha2 : a ≤ 9223372036854775807) (hb1 : -9223372036854775808 ≤ b) (hb2 : b ≤ 9223372036854775807) (w : World) : Calls Tryd.prog 23 #[.int .i64 a, .int .i64 b, .int .i64 n] w fun e w' => e = .returned (.int .i64 (mn a b n)) ∧ Kept w w' := by
  by_cases h64 : n = 64
  · subst h64
    cases hi : isnum a 64 && isnum b 64
    · refine (min_64_no a b ha1 ha2 hb1 hb2 hi w).mono ?_
      rintro e w' ⟨rfl, hk⟩
      exact ⟨ret_int (by unfold mn; rw [if_neg (by rw [hi]; decide)]; rfl), hk⟩
    · by_cases ho : 0 < ord a b 64
      · refine (min_64_one a b ha1 ha2 hb1 hb2 hi ho w).mono ?_
        rintro e w' ⟨rfl, hk⟩
        exact ⟨ret_int (by unfold mn; rw [if_pos hi, if_pos ((ord_gt a b 64).1 ho)]), hk⟩
      · refine (min_64_two a b ha1 ha2 hb1 hb2 hi ho w).mono ?_
        rintro e w' ⟨rfl, hk⟩
        exact ⟨ret_int (by unfold mn; rw [if_pos hi, if_neg (fun g => ho ((ord_gt a b 64).2 g))]), hk⟩
  · by_cases h32 : n = 32
    · subst h32
      cases hi : isnum a 32 && isnum b 32
      · refine (min_32_no a b ha1 ha2 hb1 hb2 hi w).mono ?_
        rintro e w' ⟨rfl, hk⟩
        exact ⟨ret_int (by unfold mn; rw [if_neg (by rw [hi]; decide)]; rfl), hk⟩
      · by_cases ho : 0 < ord a b 32
        · refine (min_32_one a b ha1 ha2 hb1 hb2 hi ho w).mono ?_
          rintro e w' ⟨rfl, hk⟩
          exact ⟨ret_int (by unfold mn; rw [if_pos hi, if_pos ((ord_gt a b 32).1 ho)]), hk⟩
        · refine (min_32_two a b ha1 ha2 hb1 hb2 hi ho w).mono ?_
          rintro e w' ⟨rfl, hk⟩
          exact ⟨ret_int (by unfold mn; rw [if_pos hi, if_neg (fun g => ho ((ord_gt a b 32).2 g))]), hk⟩
    · refine (min_0 a b n (by simpa using h32) (by simpa using h64) w).mono ?_
      rintro e w' ⟨rfl, hk⟩
      exact ⟨ret_int (by simp [mn, isnum_0 a n h64 h32, nanOf_0 n h64 h32]), hk⟩

set_option maxHeartbeats 400000 in
theorem max_64_no (a b : Int) (ha1 : -9223372036854775808 ≤ a) (ha2 : a ≤ 9223372036854775807) (hb1 : -9223372036854775808 ≤ b) (hb2 : b ≤ 9223372036854775807) (hi : (isnum a 64 && isnum b 64) = false) (w : World) : Calls Tryd.prog 24 #[.int .i64 a, .int .i64 b, .int .i64 64] w fun e w' => e = .returned (.int .i64 9221120237041090561) ∧ Kept w w' := by
  go_enter Tryd.func24, Tryd.ntmps24
  go_wp2_with (first | (go_at_call 34; refine (numbers2_64 a b _).mono ?_; rintro e w1 ⟨rfl, hk1⟩))
  go_ret
  exact ⟨rfl, hk1.alloc _ _⟩

set_option maxHeartbeats 400000 in
theorem max_64_one (a b : Int) (ha1 : -9223372036854775808 ≤ a) (ha2 : a ≤ 9223372036854775807) (hb1 : -9223372036854775808 ≤ b) (hb2 : b ≤ 9223372036854775807) (hi : (isnum a 64 && isnum b 64) = true) (ho : ord a b 64 < 0) (w : World) : Calls Tryd.prog 24 #[.int .i64 a, .int .i64 b, .int .i64 64] w fun e w' => e = .returned (.int .i64 b) ∧ Kept w w' := by
  go_enter Tryd.func24, Tryd.ntmps24
  go_wp2_with (first | (go_at_call 34; refine (numbers2_64 a b _).mono ?_; rintro e w1 ⟨rfl, hk1⟩) | (go_at_call 16; refine (order_any _ _ _ ha1 ha2 hb1 hb2 _).mono ?_; rintro e w2 ⟨rfl, hk2⟩))
  go_ret
  exact ⟨rfl, (hk1.alloc _ _).trans hk2⟩

set_option maxHeartbeats 400000 in
theorem max_64_two (a b : Int) (ha1 : -9223372036854775808 ≤ a) (ha2 : a ≤ 9223372036854775807) (hb1 : -9223372036854775808 ≤ b) (hb2 : b ≤ 9223372036854775807) (hi : (isnum a 64 && isnum b 64) = true) (ho : ¬ ord a b 64 < 0) (w : World) : Calls Tryd.prog 24 #[.int .i64 a, .int .i64 b, .int .i64 64] w fun e w' => e = .returned (.int .i64 a) ∧ Kept w w' := by
  go_enter Tryd.func24, Tryd.ntmps24
  go_wp2_with (first | (go_at_call 34; refine (numbers2_64 a b _).mono ?_; rintro e w1 ⟨rfl, hk1⟩) | (go_at_call 16; refine (order_any _ _ _ ha1 ha2 hb1 hb2 _).mono ?_; rintro e w2 ⟨rfl, hk2⟩))
  go_ret
  exact ⟨rfl, (hk1.alloc _ _).trans hk2⟩

set_option maxHeartbeats 400000 in
theorem max_32_no (a b : Int) (ha1 : -9223372036854775808 ≤ a) (ha2 : a ≤ 9223372036854775807) (hb1 : -9223372036854775808 ≤ b) (hb2 : b ≤ 9223372036854775807) (hi : (isnum a 32 && isnum b 32) = false) (w : World) : Calls Tryd.prog 24 #[.int .i64 a, .int .i64 b, .int .i64 32] w fun e w' => e = .returned (.int .i64 2143289345) ∧ Kept w w' := by
  go_enter Tryd.func24, Tryd.ntmps24
  go_wp2_with (first | (go_at_call 34; refine (numbers2_32 a b _).mono ?_; rintro e w1 ⟨rfl, hk1⟩))
  go_ret
  exact ⟨rfl, hk1.alloc _ _⟩

set_option maxHeartbeats 400000 in
theorem max_32_one (a b : Int) (ha1 : -9223372036854775808 ≤ a) (ha2 : a ≤ 9223372036854775807) (hb1 : -9223372036854775808 ≤ b) (hb2 : b ≤ 9223372036854775807) (hi : (isnum a 32 && isnum b 32) = true) (ho : ord a b 32 < 0) (w : World) : Calls Tryd.prog 24 #[.int .i64 a, .int .i64 b, .int .i64 32] w fun e w' => e = .returned (.int .i64 b) ∧ Kept w w' := by
  go_enter Tryd.func24, Tryd.ntmps24
  go_wp2_with (first | (go_at_call 34; refine (numbers2_32 a b _).mono ?_; rintro e w1 ⟨rfl, hk1⟩) | (go_at_call 16; refine (order_any _ _ _ ha1 ha2 hb1 hb2 _).mono ?_; rintro e w2 ⟨rfl, hk2⟩))
  go_ret
  exact ⟨rfl, (hk1.alloc _ _).trans hk2⟩

set_option maxHeartbeats 400000 in
theorem max_32_two (a b : Int) (ha1 : -9223372036854775808 ≤ a) (ha2 : a ≤ 9223372036854775807) (hb1 : -9223372036854775808 ≤ b) (hb2 : b ≤ 9223372036854775807) (hi : (isnum a 32 && isnum b 32) = true) (ho : ¬ ord a b 32 < 0) (w : World) : Calls Tryd.prog 24 #[.int .i64 a, .int .i64 b, .int .i64 32] w fun e w' => e = .returned (.int .i64 a) ∧ Kept w w' := by
  go_enter Tryd.func24, Tryd.ntmps24
  go_wp2_with (first | (go_at_call 34; refine (numbers2_32 a b _).mono ?_; rintro e w1 ⟨rfl, hk1⟩) | (go_at_call 16; refine (order_any _ _ _ ha1 ha2 hb1 hb2 _).mono ?_; rintro e w2 ⟨rfl, hk2⟩))
  go_ret
  exact ⟨rfl, (hk1.alloc _ _).trans hk2⟩

set_option maxHeartbeats 400000 in
theorem max_0 (a b n : Int) (h1 : (n == 32) = false) (h2 : (n == 64) = false) (w : World) : Calls Tryd.prog 24 #[.int .i64 a, .int .i64 b, .int .i64 n] w fun e w' => e = .returned (.int .i64 0) ∧ Kept w w' := by
  go_enter Tryd.func24, Tryd.ntmps24
  go_wp2_with (first | (go_at_call 34; refine (numbers2_0 a b _ h1 h2 _).mono ?_; rintro e w1 ⟨rfl, hk1⟩))
  go_ret
  exact ⟨rfl, hk1.alloc _ _⟩

theorem max_any (a b n : Int) (ha1 : -9223372036854775808 ≤ a) (ha2 : a ≤ 9223372036854775807) (hb1 : -9223372036854775808 ≤ b) (hb2 : b ≤ 9223372036854775807) (w : World) : Calls Tryd.prog 24 #[.int .i64 a, .int .i64 b, .int .i64 n] w fun e w' => e = .returned (.int .i64 (mx a b n)) ∧ Kept w w' := by
  by_cases h64 : n = 64
  · subst h64
    cases hi : isnum a 64 && isnum b 64
    · refine (max_64_no a b ha1 ha2 hb1 hb2 hi w).mono ?_
      rintro e w' ⟨rfl, hk⟩
      exact ⟨ret_int (by unfold mx; rw [if_neg (by rw [hi]; decide)]; rfl), hk⟩
    · by_cases ho : ord a b 64 < 0
      · refine (max_64_one a b ha1 ha2 hb1 hb2 hi ho w).mono ?_
        rintro e w' ⟨rfl, hk⟩
        exact ⟨ret_int (by unfold mx; rw [if_pos hi, if_pos ((ord_lt a b 64).1 ho)]), hk⟩
      · refine (max_64_two a b ha1 ha2 hb1 hb2 hi ho w).mono ?_
        rintro e w' ⟨rfl, hk⟩
        exact ⟨ret_int (by unfold mx; rw [if_pos hi, if_neg (fun g => ho ((ord_lt a b 64).2 g))]), hk⟩
  · by_cases h32 : n = 32
    · subst h32
      cases hi : isnum a 32 && isnum b 32
      · refine (max_32_no a b ha1 ha2 hb1 hb2 hi w).mono ?_
        rintro e w' ⟨rfl, hk⟩
        exact ⟨ret_int (by unfold mx; rw [if_neg (by rw [hi]; decide)]; rfl), hk⟩
      · by_cases ho : ord a b 32 < 0
        · refine (max_32_one a b ha1 ha2 hb1 hb2 hi ho w).mono ?_
          rintro e w' ⟨rfl, hk⟩
          exact ⟨ret_int (by unfold mx; rw [if_pos hi, if_pos ((ord_lt a b 32).1 ho)]), hk⟩
        · refine (max_32_two a b ha1 ha2 hb1 hb2 hi ho w).mono ?_
          rintro e w' ⟨rfl, hk⟩
          exact ⟨ret_int (by unfold mx; rw [if_pos hi, if_neg (fun g => ho ((ord_lt a b 32).2 g))]), hk⟩
    · refine (max_0 a b n (by simpa using h32) (by simpa using h64) w).mono ?_
      rintro e w' ⟨rfl, hk⟩
      exact ⟨ret_int (by simp [mx, isnum_0 a n h64 h32, nanOf_0 n h64 h32]), hk⟩

end Go.Proofs.YtebjkfecijeehacDoor
