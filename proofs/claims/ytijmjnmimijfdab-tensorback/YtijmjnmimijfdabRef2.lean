/- The walks of the document's own Class and Parts. -/
import Derived.Test.YtijmjnmimijfdabRef
namespace Go.Proofs.Ytijmjnmimijfdab
open Go.ChangeShapes Go.WideShapes Go.ChangeAt Go.RowKit

set_option maxHeartbeats 400000 in
theorem rclass_any (b n : Int) (hb1 : -9223372036854775808 ≤ b) (hb2 : b ≤ 9223372036854775807) (w : World) : Calls Try.prog 75 #[.int .i64 b, .int .i64 n] w fun e w' => e = .returned (.int .i64 (cls b n)) ∧ Kept w w' := by
  by_cases h64 : n = 64
  · subst h64
    go_enter Try.func75, Try.ntmps75
    go_wp2_with (first | (go_at_call 63; refine (of_64 _).mono ?_; rintro e w1 ⟨rfl, hk1⟩) | (go_at_call 82; refine (cut_64 _ hb1 hb2 _).mono ?_; rintro e w2 ⟨rfl, hk2⟩; have hcl := laid_cell hk2))
    all_goals
      go_ret
      refine ⟨ret_int ?_, (hk1.alloc _ _).trans hk2⟩
      rw [cls_64_eq]
      (repeat' split) <;> omega
  · by_cases h32 : n = 32
    · subst h32
      go_enter Try.func75, Try.ntmps75
      go_wp2_with (first | (go_at_call 63; refine (of_32 _).mono ?_; rintro e w1 ⟨rfl, hk1⟩) | (go_at_call 82; refine (cut_32 _ _).mono ?_; rintro e w2 ⟨rfl, hk2⟩; have hcl := laid_cell hk2))
      all_goals
        go_ret
        refine ⟨ret_int ?_, (hk1.alloc _ _).trans hk2⟩
        rw [cls_32_eq]
        first
          | (have hf : thr b = false := by simpa using ‹¬thr b = true›
             rw [if_pos (Or.inl hf)])
          | (have ht : thr b = true := by assumption
             simp only [ht, Bool.true_eq_false, false_or]
             (repeat' split) <;> omega)
    · have e1 : (n == 32) = false := by simpa using h32
      have e2 : (n == 64) = false := by simpa using h64
      have hv : Hid (cls b n = 0) := by show cls b n = 0; simp [cls, h64, h32]
      clear h64 h32
      go_enter Try.func75, Try.ntmps75
      go_wp2_with (first | (go_at_call 63; refine (of_0 _ e1 e2 _).mono ?_; rintro e w1 ⟨rfl, hk1⟩))
      go_ret
      exact ⟨ret_int hv.out.symm, (hk1.alloc _ _)⟩

set_option maxHeartbeats 400000 in
theorem rparts_no (b n : Int) (hb1 : -9223372036854775808 ≤ b) (hb2 : b ≤ 9223372036854775807) (hn : n = 64 ∨ n = 32) (hc : 3 ≤ cls b n) (w : World) : Calls Try.prog 89 #[.int .i64 b, .int .i64 n] w fun e w' => e = .returned (.tuple #[.bool false, .int .i64 0, .int .i64 0, .bool false]) ∧ Kept w w' := by
  rcases hn with rfl | rfl
  · go_enter Try.func89, Try.ntmps89
    go_wp2_with (first | (go_at_call 63; refine (of_64 _).mono ?_; rintro e w1 ⟨rfl, hk1⟩) | (go_at_call 75; refine (rclass_any _ _ hb1 hb2 _).mono ?_; rintro e w2 ⟨rfl, hk2⟩))
    exact bodyPost_ret (v := .tuple #[.bool false, .int .i64 0, .int .i64 0, .bool false]) (by simp [results, Try.results89, go_sem]) rfl ⟨rfl, (hk1.alloc _ _).trans hk2⟩
  · go_enter Try.func89, Try.ntmps89
    go_wp2_with (first | (go_at_call 63; refine (of_32 _).mono ?_; rintro e w1 ⟨rfl, hk1⟩) | (go_at_call 75; refine (rclass_any _ _ hb1 hb2 _).mono ?_; rintro e w2 ⟨rfl, hk2⟩))
    exact bodyPost_ret (v := .tuple #[.bool false, .int .i64 0, .int .i64 0, .bool false]) (by simp [results, Try.results89, go_sem]) rfl ⟨rfl, (hk1.alloc _ _).trans hk2⟩

set_option maxHeartbeats 400000 in
theorem rparts_none (b n : Int) (h1 : (n == 32) = false) (h2 : (n == 64) = false) (w : World) : Calls Try.prog 89 #[.int .i64 b, .int .i64 n] w fun e w' => e = .returned (.tuple #[.bool false, .int .i64 0, .int .i64 0, .bool false]) ∧ Kept w w' := by
  go_enter Try.func89, Try.ntmps89
  go_wp2_with (first | (go_at_call 63; refine (of_0 _ h1 h2 _).mono ?_; rintro e w1 ⟨rfl, hk1⟩))
  exact bodyPost_ret (v := .tuple #[.bool false, .int .i64 0, .int .i64 0, .bool false]) (by simp [results, Try.results89, go_sem]) rfl ⟨rfl, (hk1.alloc _ _)⟩

set_option maxHeartbeats 400000 in
theorem rparts_64_sub (b : Int) (hb1 : -9223372036854775808 ≤ b) (hb2 : b ≤ 9223372036854775807) (hc : cls b 64 < 3) (hl : (fld64 b == 0) = true) (w : World) : Calls Try.prog 89 #[.int .i64 b, .int .i64 64] w fun e w' => e = .returned (.tuple #[.bool (sgn b 64), .int .i64 (frc64 b), .int .i64 (-1074), .bool true]) ∧ Kept w w' := by
  go_enter Try.func89, Try.ntmps89
  go_wp2_with (first | (go_at_call 63; refine (of_64 _).mono ?_; rintro e w1 ⟨rfl, hk1⟩) | (go_at_call 75; refine (rclass_any _ _ hb1 hb2 _).mono ?_; rintro e w2 ⟨rfl, hk2⟩; have hcl := laid_cell hk2) | (go_at_call 82; refine (cut_64 _ hb1 hb2 _).mono ?_; rintro e w3 ⟨rfl, hk3⟩; have hcl3 := laid_cell (hk2.trans hk3)))
  go_quiet (fail)
  go_wp2
  exact bodyPost_ret (v := .tuple #[.bool (sgn b 64), .int .i64 (frc64 b), .int .i64 (-1074), .bool true]) (by simp [results, Try.results89, go_sem]) rfl ⟨rfl, (((hk1.alloc _ _).trans hk2).trans hk3).drewN _⟩

set_option maxHeartbeats 400000 in
theorem rparts_64_nor (b : Int) (hb1 : -9223372036854775808 ≤ b) (hb2 : b ≤ 9223372036854775807) (hf1 : 0 ≤ fld64 b) (hf2 : fld64 b ≤ 4096) (ht1 : 0 ≤ frc64 b) (ht2 : frc64 b ≤ 4503599627370496) (hc : cls b 64 < 3) (hl : (fld64 b == 0) = false) (w : World) : Calls Try.prog 89 #[.int .i64 b, .int .i64 64] w fun e w' => e = .returned (.tuple #[.bool (sgn b 64), .int .i64 (4503599627370496 + frc64 b), .int .i64 (fld64 b + -1074 - 1), .bool true]) ∧ Kept w w' := by
  go_enter Try.func89, Try.ntmps89
  go_wp2_with (first | (go_at_call 63; refine (of_64 _).mono ?_; rintro e w1 ⟨rfl, hk1⟩) | (go_at_call 75; refine (rclass_any _ _ hb1 hb2 _).mono ?_; rintro e w2 ⟨rfl, hk2⟩; have hcl := laid_cell hk2) | (go_at_call 82; refine (cut_64 _ hb1 hb2 _).mono ?_; rintro e w3 ⟨rfl, hk3⟩; have hcl3 := laid_cell (hk2.trans hk3)))
  go_quiet (fail)
  go_wp2
  exact bodyPost_ret (v := .tuple #[.bool (sgn b 64), .int .i64 (4503599627370496 + frc64 b), .int .i64 (fld64 b + -1074 - 1), .bool true]) (by simp [results, Try.results89, go_sem]) rfl ⟨rfl, (((hk1.alloc _ _).trans hk2).trans hk3).drewN _⟩

set_option maxHeartbeats 400000 in
theorem rparts_32_sub (b : Int) (hb1 : -9223372036854775808 ≤ b) (hb2 : b ≤ 9223372036854775807) (hc : cls b 32 < 3) (hl : (fld32 b == 0) = true) (w : World) : Calls Try.prog 89 #[.int .i64 b, .int .i64 32] w fun e w' => e = .returned (.tuple #[.bool (sg32 b), .int .i64 (frc32 b), .int .i64 (-149), .bool true]) ∧ Kept w w' := by
  go_enter Try.func89, Try.ntmps89
  go_wp2_with (first | (go_at_call 63; refine (of_32 _).mono ?_; rintro e w1 ⟨rfl, hk1⟩) | (go_at_call 75; refine (rclass_any _ _ hb1 hb2 _).mono ?_; rintro e w2 ⟨rfl, hk2⟩; have hcl := laid_cell hk2) | (go_at_call 82; refine (cut_32 _ _).mono ?_; rintro e w3 ⟨rfl, hk3⟩; have hcl3 := laid_cell (hk2.trans hk3)))
  go_quiet (fail)
  go_wp2
  exact bodyPost_ret (v := .tuple #[.bool (sg32 b), .int .i64 (frc32 b), .int .i64 (-149), .bool true]) (by simp [results, Try.results89, go_sem]) rfl ⟨rfl, (((hk1.alloc _ _).trans hk2).trans hk3).drewN _⟩

set_option maxHeartbeats 400000 in
theorem rparts_32_nor (b : Int) (hb1 : -9223372036854775808 ≤ b) (hb2 : b ≤ 9223372036854775807) (hf1 : 0 ≤ fld32 b) (hf2 : fld32 b ≤ 4096) (ht1 : 0 ≤ frc32 b) (ht2 : frc32 b ≤ 8388608) (hc : cls b 32 < 3) (hl : (fld32 b == 0) = false) (w : World) : Calls Try.prog 89 #[.int .i64 b, .int .i64 32] w fun e w' => e = .returned (.tuple #[.bool (sg32 b), .int .i64 (8388608 + frc32 b), .int .i64 (fld32 b + -149 - 1), .bool true]) ∧ Kept w w' := by
  go_enter Try.func89, Try.ntmps89
  go_wp2_with (first | (go_at_call 63; refine (of_32 _).mono ?_; rintro e w1 ⟨rfl, hk1⟩) | (go_at_call 75; refine (rclass_any _ _ hb1 hb2 _).mono ?_; rintro e w2 ⟨rfl, hk2⟩; have hcl := laid_cell hk2) | (go_at_call 82; refine (cut_32 _ _).mono ?_; rintro e w3 ⟨rfl, hk3⟩; have hcl3 := laid_cell (hk2.trans hk3)))
  go_quiet (fail)
  go_wp2
  exact bodyPost_ret (v := .tuple #[.bool (sg32 b), .int .i64 (8388608 + frc32 b), .int .i64 (fld32 b + -149 - 1), .bool true]) (by simp [results, Try.results89, go_sem]) rfl ⟨rfl, (((hk1.alloc _ _).trans hk2).trans hk3).drewN _⟩


theorem rparts_any (b n : Int) (hb1 : -9223372036854775808 ≤ b) (hb2 : b ≤ 9223372036854775807) (w : World) : Calls Try.prog 89 #[.int .i64 b, .int .i64 n] w fun e w' => e = .returned (.tuple #[.bool (pneg b n), .int .i64 (pmag b n), .int .i64 (pexp b n), .bool (fin b n)]) ∧ Kept w w' := by
  by_cases hn : n = 64 ∨ n = 32
  · by_cases hc : cls b n < 3
    · have hf : fin b n = true := by simp [fin, hn, hc]
      rcases hn with rfl | rfl
      · by_cases hl : fld64 b = 0
        · have hl' : b % 9223372036854775808 < 4503599627370496 := by unfold fld64 at hl; omega
          refine (rparts_64_sub b hb1 hb2 hc (by simpa using hl) w).mono ?_
          rintro e w' ⟨rfl, hk⟩
          exact ⟨ret_parts (by simp [pneg, hf]) (by simp only [pmag, hf, if_true, hl', frc64]; omega) (by simp [pexp, hf, hl']) hf.symm, hk⟩
        · have hl' : ¬ b % 9223372036854775808 < 4503599627370496 := by unfold fld64 at hl; omega
          refine (rparts_64_nor b hb1 hb2 (by unfold fld64; omega) (by unfold fld64; omega) (by unfold frc64; omega) (by unfold frc64; omega) hc (by simpa using hl) w).mono ?_
          rintro e w' ⟨rfl, hk⟩
          exact ⟨ret_parts (by simp [pneg, hf]) (by simp only [pmag, hf, if_true, hl', if_false, frc64]; omega) (by simp only [pexp, hf, if_true, hl', if_false, fld64]; omega) hf.symm, hk⟩
      · have hv := cls_valid b (by omega)
        have ht : thr b = true := by simp [thr, hv]
        have e1 : fld32 b = b % 2147483648 / 8388608 := by simp [fld32, ht]
        have e2 : frc32 b = b % 8388608 := by simp [frc32, ht]
        have e3 : sg32 b = pneg b 32 := by simp [sg32, ht, pneg, hf]
        by_cases hl : fld32 b = 0
        · have hl' : b % 2147483648 < 8388608 := by omega
          refine (rparts_32_sub b hb1 hb2 hc (by simpa using hl) w).mono ?_
          rintro e w' ⟨rfl, hk⟩
          exact ⟨ret_parts e3 (by rw [e2]; simp [pmag, hf, hl']; omega) (by simp [pexp, hf, hl']) hf.symm, hk⟩
        · have hl' : ¬ b % 2147483648 < 8388608 := by omega
          refine (rparts_32_nor b hb1 hb2 (by omega) (by omega) (by omega) (by omega) hc (by simpa using hl) w).mono ?_
          rintro e w' ⟨rfl, hk⟩
          exact ⟨ret_parts e3 (by rw [e2]; simp [pmag, hf, hl']; omega) (by rw [e1]; simp [pexp, hf, hl']; omega) hf.symm, hk⟩
    · have hf : fin b n = false := by simp [fin]; omega
      refine (rparts_no b n hb1 hb2 hn (by omega) w).mono ?_
      rintro e w' ⟨rfl, hk⟩
      exact ⟨ret_parts (by simp [pneg, hf]) (by simp [pmag, hf]) (by simp [pexp, hf]) hf.symm, hk⟩
  · have hf : fin b n = false := by simp [fin]; omega
    refine (rparts_none b n (by rw [beq_eq_false_iff_ne]; omega) (by rw [beq_eq_false_iff_ne]; omega) w).mono ?_
    rintro e w' ⟨rfl, hk⟩
    exact ⟨ret_parts (by simp [pneg, hf]) (by simp [pmag, hf]) (by simp [pexp, hf]) hf.symm, hk⟩

end Go.Proofs.Ytijmjnmimijfdab
