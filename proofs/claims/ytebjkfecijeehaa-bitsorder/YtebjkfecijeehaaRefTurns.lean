/- The walks of the document's own Neg, Abs, Canon, Next, Prev. -/
import Derived.Test.YtebjkfecijeehaaRef2
import Derived.Test.YtebjkfecijeehaaTurns2
import Derived.Outline
namespace Go.Proofs.Ytebjkfecijeehaa
open Go.ChangeShapes Go.WideShapes Go.ChangeAt Go.RowKit
set_option linter.unusedSimpArgs false
set_option linter.unusedVariables false

theorem sg32_or (b : Int) : cls b 32 = 4 ∨ sg32 b = true ∧ 2147483648 ≤ b ∨ sg32 b = false ∧ b < 2147483648 := by
  by_cases hc : cls b 32 = 4
  · exact Or.inl hc
  · have hv := cls_valid b hc
    refine Or.inr ?_
    have ht : thr b = true := by simp [thr, hv]
    have e : sg32 b = decide (2147483648 ≤ b) := by simp [sg32, ht, sgn]
    by_cases h : 2147483648 ≤ b
    · exact Or.inl ⟨by rw [e]; simpa using h, h⟩
    · exact Or.inr ⟨by rw [e]; simpa using h, by omega⟩

set_option maxHeartbeats 400000 in
theorem negative_64 (b : Int) (hb1 : -9223372036854775808 ≤ b) (hb2 : b ≤ 9223372036854775807) (w : World) : Calls Try.prog 63 #[.agg #[.int .i64 64, .int .i64 53, .int .i64 4503599627370496, .int .i64 2047, .int .i64 (-1074), .int .i64 1024, .int .i64 9218868437227405312, .int .i64 (-9223372036854775808), .int .i64 9221120237041090561], .int .i64 b] w fun e w' => e = .returned (.bool (sgn b 64)) ∧ Kept w w' := by
  go_enter Try.func63, Try.ntmps63
  go_wp2_with (first | (go_at_call 62; refine (cut_64 _ hb1 hb2 _).mono ?_; rintro e w2 ⟨rfl, hk2⟩))
  go_ret
  exact ⟨rfl, ((Kept.refl _).alloc _ _).trans hk2⟩

set_option maxHeartbeats 400000 in
theorem negative_32 (b : Int)  (w : World) : Calls Try.prog 63 #[.agg #[.int .i64 32, .int .i64 24, .int .i64 8388608, .int .i64 255, .int .i64 (-149), .int .i64 128, .int .i64 2139095040, .int .i64 2147483648, .int .i64 2143289345], .int .i64 b] w fun e w' => e = .returned (.bool (sg32 b)) ∧ Kept w w' := by
  go_enter Try.func63, Try.ntmps63
  go_wp2_with (first | (go_at_call 62; refine (cut_32 _ _).mono ?_; rintro e w2 ⟨rfl, hk2⟩))
  go_ret
  exact ⟨rfl, ((Kept.refl _).alloc _ _).trans hk2⟩

set_option maxHeartbeats 1000000 in
theorem rneg_64 (b : Int) (hb1 : -9223372036854775808 ≤ b) (hb2 : b ≤ 9223372036854775807) (hx : cls b 64 = 4 ∨ b % 9223372036854775808 ≤ 9218868437227405312) (w : World) : Calls Try.prog 26 #[.int .i64 b, .int .i64 64] w fun e w' => e = .returned (.int .i64 (if cls b 64 = 4 then 9221120237041090561 else if b < 0 then b + 9223372036854775808 else b - 9223372036854775808)) ∧ Kept w w' := by
  obtain ⟨g, hs, hg⟩ : ∃ g : Bool, sgn b 64 = g ∧ (g = true ∧ b < 0 ∨ g = false ∧ 0 ≤ b) := ⟨_, rfl, by by_cases h : b < 0 <;> simp [sgn, h]; omega⟩
  rcases hg with ⟨rfl, hg⟩ | ⟨rfl, hg⟩
  all_goals
    go_enter Try.func26, Try.ntmps26
    go_wp2_with (first | (go_at_call 61; refine (of_64 _).mono ?_; rintro e w1 ⟨rfl, hk1⟩) | (go_at_call 19; refine (rclass_any _ _ hb1 hb2 _).mono ?_; rintro e w2 ⟨rfl, hk2⟩; first | (have hK := hK.trans hk2; have hcl := laid_cell hK) | (have hK := hk2; have hcl := laid_cell hK)) | (go_at_call 63; refine (negative_64 _ hb1 hb2 _).mono ?_; rintro e w3 ⟨rfl, hk3⟩; have hK := hK.trans hk3; have hcl := laid_cell hK))
    all_goals
      go_ret
      refine ⟨ret_int ?_, (hk1.alloc _ _).trans hK⟩
      try unfold wrap64
      (try simp only [Bool.not_eq_true', Bool.not_eq_false', Bool.not_eq_true, bne_iff_ne, bne_eq_false_iff_eq, beq_iff_eq, beq_eq_false_iff_ne, ne_eq] at *) <;> ((repeat' split) <;> omega)

set_option maxHeartbeats 1000000 in
theorem rabs_64 (b : Int) (hb1 : -9223372036854775808 ≤ b) (hb2 : b ≤ 9223372036854775807) (hx : cls b 64 = 4 ∨ b % 9223372036854775808 ≤ 9218868437227405312) (w : World) : Calls Try.prog 28 #[.int .i64 b, .int .i64 64] w fun e w' => e = .returned (.int .i64 (if cls b 64 = 4 then 9221120237041090561 else if b < 0 then b + 9223372036854775808 else b)) ∧ Kept w w' := by
  obtain ⟨g, hs, hg⟩ : ∃ g : Bool, sgn b 64 = g ∧ (g = true ∧ b < 0 ∨ g = false ∧ 0 ≤ b) := ⟨_, rfl, by by_cases h : b < 0 <;> simp [sgn, h]; omega⟩
  rcases hg with ⟨rfl, hg⟩ | ⟨rfl, hg⟩
  all_goals
    go_enter Try.func28, Try.ntmps28
    go_wp2_with (first | (go_at_call 61; refine (of_64 _).mono ?_; rintro e w1 ⟨rfl, hk1⟩) | (go_at_call 19; refine (rclass_any _ _ hb1 hb2 _).mono ?_; rintro e w2 ⟨rfl, hk2⟩; first | (have hK := hK.trans hk2; have hcl := laid_cell hK) | (have hK := hk2; have hcl := laid_cell hK)) | (go_at_call 63; refine (negative_64 _ hb1 hb2 _).mono ?_; rintro e w3 ⟨rfl, hk3⟩; have hK := hK.trans hk3; have hcl := laid_cell hK))
    all_goals
      go_ret
      refine ⟨ret_int ?_, (hk1.alloc _ _).trans hK⟩
      try unfold wrap64
      (try simp only [Bool.not_eq_true', Bool.not_eq_false', Bool.not_eq_true, bne_iff_ne, bne_eq_false_iff_eq, beq_iff_eq, beq_eq_false_iff_ne, ne_eq] at *) <;> ((repeat' split) <;> omega)

set_option maxHeartbeats 1000000 in
theorem rcanon_64 (b : Int) (hb1 : -9223372036854775808 ≤ b) (hb2 : b ≤ 9223372036854775807)  (w : World) : Calls Try.prog 30 #[.int .i64 b, .int .i64 64] w fun e w' => e = .returned (.int .i64 (if cls b 64 = 4 then 9221120237041090561 else if cls b 64 = 0 then 0 else b)) ∧ Kept w w' := by
  obtain ⟨g, hs, hg⟩ : ∃ g : Bool, sgn b 64 = g ∧ (g = true ∧ b < 0 ∨ g = false ∧ 0 ≤ b) := ⟨_, rfl, by by_cases h : b < 0 <;> simp [sgn, h]; omega⟩
  rcases hg with ⟨rfl, hg⟩ | ⟨rfl, hg⟩
  all_goals
    go_enter Try.func30, Try.ntmps30
    go_wp2_with (first | (go_at_call 61; refine (of_64 _).mono ?_; rintro e w1 ⟨rfl, hk1⟩) | (go_at_call 19; refine (rclass_any _ _ hb1 hb2 _).mono ?_; rintro e w2 ⟨rfl, hk2⟩; first | (have hK := hK.trans hk2; have hcl := laid_cell hK) | (have hK := hk2; have hcl := laid_cell hK)) | (go_at_call 63; refine (negative_64 _ hb1 hb2 _).mono ?_; rintro e w3 ⟨rfl, hk3⟩; have hK := hK.trans hk3; have hcl := laid_cell hK))
    all_goals
      go_ret
      refine ⟨ret_int ?_, (hk1.alloc _ _).trans hK⟩
      try unfold wrap64
      (try simp only [Bool.not_eq_true', Bool.not_eq_false', Bool.not_eq_true, bne_iff_ne, bne_eq_false_iff_eq, beq_iff_eq, beq_eq_false_iff_ne, ne_eq] at *) <;> ((repeat' split) <;> omega)

set_option maxHeartbeats 1000000 in
theorem rnext_64 (b : Int) (hb1 : -9223372036854775808 ≤ b) (hb2 : b ≤ 9223372036854775807) (hx : cls b 64 = 4 ∨ b % 9223372036854775808 ≤ 9218868437227405312) (hz : cls b 64 = 0 ∨ b ≠ -9223372036854775808) (w : World) : Calls Try.prog 22 #[.int .i64 b, .int .i64 64] w fun e w' => e = .returned (.int .i64 (if cls b 64 = 4 then 9221120237041090561 else if b = 9218868437227405312 then b else if cls b 64 = 0 then 1 else if b < 0 then b - 1 else b + 1)) ∧ Kept w w' := by
  obtain ⟨g, hs, hg⟩ : ∃ g : Bool, sgn b 64 = g ∧ (g = true ∧ b < 0 ∨ g = false ∧ 0 ≤ b) := ⟨_, rfl, by by_cases h : b < 0 <;> simp [sgn, h]; omega⟩
  rcases hg with ⟨rfl, hg⟩ | ⟨rfl, hg⟩
  all_goals
    go_enter Try.func22, Try.ntmps22
    go_wp2_with (first | (go_at_call 61; refine (of_64 _).mono ?_; rintro e w1 ⟨rfl, hk1⟩) | (go_at_call 19; refine (rclass_any _ _ hb1 hb2 _).mono ?_; rintro e w2 ⟨rfl, hk2⟩; first | (have hK := hK.trans hk2; have hcl := laid_cell hK) | (have hK := hk2; have hcl := laid_cell hK)) | (go_at_call 63; refine (negative_64 _ hb1 hb2 _).mono ?_; rintro e w3 ⟨rfl, hk3⟩; have hK := hK.trans hk3; have hcl := laid_cell hK))
    all_goals
      go_ret
      refine ⟨ret_int ?_, (hk1.alloc _ _).trans hK⟩
      try unfold wrap64
      (try simp only [Bool.not_eq_true', Bool.not_eq_false', Bool.not_eq_true, bne_iff_ne, bne_eq_false_iff_eq, beq_iff_eq, beq_eq_false_iff_ne, ne_eq] at *) <;> ((repeat' split) <;> omega)

set_option maxHeartbeats 1000000 in
theorem rneg_32 (b : Int) (hb1 : -9223372036854775808 ≤ b) (hb2 : b ≤ 9223372036854775807) (hx : cls b 32 = 4 ∨ 0 ≤ b ∧ b < 4294967296) (w : World) : Calls Try.prog 26 #[.int .i64 b, .int .i64 32] w fun e w' => e = .returned (.int .i64 (if cls b 32 = 4 then 2143289345 else if 2147483648 ≤ b then b - 2147483648 else b + 2147483648)) ∧ Kept w w' := by
  obtain ⟨g, hs, hg⟩ : ∃ g : Bool, sg32 b = g ∧ (cls b 32 = 4 ∨ g = true ∧ 2147483648 ≤ b ∨ g = false ∧ b < 2147483648) := ⟨_, rfl, sg32_or b⟩
  rcases hg with hg | ⟨rfl, hg⟩ | ⟨rfl, hg⟩
  all_goals
    go_enter Try.func26, Try.ntmps26
    go_wp2_with (first | (go_at_call 61; refine (of_32 _).mono ?_; rintro e w1 ⟨rfl, hk1⟩) | (go_at_call 19; refine (rclass_any _ _ hb1 hb2 _).mono ?_; rintro e w2 ⟨rfl, hk2⟩; first | (have hK := hK.trans hk2; have hcl := laid_cell hK) | (have hK := hk2; have hcl := laid_cell hK)) | (go_at_call 63; refine (negative_32 _ _).mono ?_; rintro e w3 ⟨rfl, hk3⟩; have hK := hK.trans hk3; have hcl := laid_cell hK))
    all_goals
      go_ret
      refine ⟨ret_int ?_, (hk1.alloc _ _).trans hK⟩
      try unfold wrap64
      (try simp only [Bool.not_eq_true', Bool.not_eq_false', Bool.not_eq_true, bne_iff_ne, bne_eq_false_iff_eq, beq_iff_eq, beq_eq_false_iff_ne, ne_eq] at *) <;> ((repeat' split) <;> omega)

set_option maxHeartbeats 1000000 in
theorem rabs_32 (b : Int) (hb1 : -9223372036854775808 ≤ b) (hb2 : b ≤ 9223372036854775807) (hx : cls b 32 = 4 ∨ 0 ≤ b ∧ b < 4294967296) (w : World) : Calls Try.prog 28 #[.int .i64 b, .int .i64 32] w fun e w' => e = .returned (.int .i64 (if cls b 32 = 4 then 2143289345 else if 2147483648 ≤ b then b - 2147483648 else b)) ∧ Kept w w' := by
  obtain ⟨g, hs, hg⟩ : ∃ g : Bool, sg32 b = g ∧ (cls b 32 = 4 ∨ g = true ∧ 2147483648 ≤ b ∨ g = false ∧ b < 2147483648) := ⟨_, rfl, sg32_or b⟩
  rcases hg with hg | ⟨rfl, hg⟩ | ⟨rfl, hg⟩
  all_goals
    go_enter Try.func28, Try.ntmps28
    go_wp2_with (first | (go_at_call 61; refine (of_32 _).mono ?_; rintro e w1 ⟨rfl, hk1⟩) | (go_at_call 19; refine (rclass_any _ _ hb1 hb2 _).mono ?_; rintro e w2 ⟨rfl, hk2⟩; first | (have hK := hK.trans hk2; have hcl := laid_cell hK) | (have hK := hk2; have hcl := laid_cell hK)) | (go_at_call 63; refine (negative_32 _ _).mono ?_; rintro e w3 ⟨rfl, hk3⟩; have hK := hK.trans hk3; have hcl := laid_cell hK))
    all_goals
      go_ret
      refine ⟨ret_int ?_, (hk1.alloc _ _).trans hK⟩
      try unfold wrap64
      (try simp only [Bool.not_eq_true', Bool.not_eq_false', Bool.not_eq_true, bne_iff_ne, bne_eq_false_iff_eq, beq_iff_eq, beq_eq_false_iff_ne, ne_eq] at *) <;> ((repeat' split) <;> omega)

set_option maxHeartbeats 1000000 in
theorem rcanon_32 (b : Int) (hb1 : -9223372036854775808 ≤ b) (hb2 : b ≤ 9223372036854775807)  (w : World) : Calls Try.prog 30 #[.int .i64 b, .int .i64 32] w fun e w' => e = .returned (.int .i64 (if cls b 32 = 4 then 2143289345 else if cls b 32 = 0 then 0 else b)) ∧ Kept w w' := by
  obtain ⟨g, hs, hg⟩ : ∃ g : Bool, sg32 b = g ∧ (cls b 32 = 4 ∨ g = true ∧ 2147483648 ≤ b ∨ g = false ∧ b < 2147483648) := ⟨_, rfl, sg32_or b⟩
  rcases hg with hg | ⟨rfl, hg⟩ | ⟨rfl, hg⟩
  all_goals
    go_enter Try.func30, Try.ntmps30
    go_wp2_with (first | (go_at_call 61; refine (of_32 _).mono ?_; rintro e w1 ⟨rfl, hk1⟩) | (go_at_call 19; refine (rclass_any _ _ hb1 hb2 _).mono ?_; rintro e w2 ⟨rfl, hk2⟩; first | (have hK := hK.trans hk2; have hcl := laid_cell hK) | (have hK := hk2; have hcl := laid_cell hK)) | (go_at_call 63; refine (negative_32 _ _).mono ?_; rintro e w3 ⟨rfl, hk3⟩; have hK := hK.trans hk3; have hcl := laid_cell hK))
    all_goals
      go_ret
      refine ⟨ret_int ?_, (hk1.alloc _ _).trans hK⟩
      try unfold wrap64
      (try simp only [Bool.not_eq_true', Bool.not_eq_false', Bool.not_eq_true, bne_iff_ne, bne_eq_false_iff_eq, beq_iff_eq, beq_eq_false_iff_ne, ne_eq] at *) <;> ((repeat' split) <;> omega)

set_option maxHeartbeats 1000000 in
theorem rnext_32 (b : Int) (hb1 : -9223372036854775808 ≤ b) (hb2 : b ≤ 9223372036854775807) (hx : cls b 32 = 4 ∨ 0 ≤ b ∧ b < 4294967296) (w : World) : Calls Try.prog 22 #[.int .i64 b, .int .i64 32] w fun e w' => e = .returned (.int .i64 (if cls b 32 = 4 then 2143289345 else if b = 2139095040 then b else if cls b 32 = 0 then 1 else if 2147483648 ≤ b then b - 1 else b + 1)) ∧ Kept w w' := by
  obtain ⟨g, hs, hg⟩ : ∃ g : Bool, sg32 b = g ∧ (cls b 32 = 4 ∨ g = true ∧ 2147483648 ≤ b ∨ g = false ∧ b < 2147483648) := ⟨_, rfl, sg32_or b⟩
  rcases hg with hg | ⟨rfl, hg⟩ | ⟨rfl, hg⟩
  all_goals
    go_enter Try.func22, Try.ntmps22
    go_wp2_with (first | (go_at_call 61; refine (of_32 _).mono ?_; rintro e w1 ⟨rfl, hk1⟩) | (go_at_call 19; refine (rclass_any _ _ hb1 hb2 _).mono ?_; rintro e w2 ⟨rfl, hk2⟩; first | (have hK := hK.trans hk2; have hcl := laid_cell hK) | (have hK := hk2; have hcl := laid_cell hK)) | (go_at_call 63; refine (negative_32 _ _).mono ?_; rintro e w3 ⟨rfl, hk3⟩; have hK := hK.trans hk3; have hcl := laid_cell hK))
    all_goals
      go_ret
      refine ⟨ret_int ?_, (hk1.alloc _ _).trans hK⟩
      try unfold wrap64
      (try simp only [Bool.not_eq_true', Bool.not_eq_false', Bool.not_eq_true, bne_iff_ne, bne_eq_false_iff_eq, beq_iff_eq, beq_eq_false_iff_ne, ne_eq] at *) <;> ((repeat' split) <;> omega)

set_option maxHeartbeats 1000000 in
theorem rneg_0 (b n : Int) (h1 : (n == 32) = false) (h2 : (n == 64) = false)   (w : World) : Calls Try.prog 26 #[.int .i64 b, .int .i64 n] w fun e w' => e = .returned (.int .i64 (0)) ∧ Kept w w' := by
  go_enter Try.func26, Try.ntmps26
  go_wp2_with (first | (go_at_call 61; refine (of_0 _ h1 h2 _).mono ?_; rintro e w1 ⟨rfl, hk1⟩))
  go_ret
  exact ⟨rfl, hk1.alloc _ _⟩

set_option maxHeartbeats 1000000 in
theorem rabs_0 (b n : Int) (h1 : (n == 32) = false) (h2 : (n == 64) = false)   (w : World) : Calls Try.prog 28 #[.int .i64 b, .int .i64 n] w fun e w' => e = .returned (.int .i64 (0)) ∧ Kept w w' := by
  go_enter Try.func28, Try.ntmps28
  go_wp2_with (first | (go_at_call 61; refine (of_0 _ h1 h2 _).mono ?_; rintro e w1 ⟨rfl, hk1⟩))
  go_ret
  exact ⟨rfl, hk1.alloc _ _⟩

set_option maxHeartbeats 1000000 in
theorem rcanon_0 (b n : Int) (h1 : (n == 32) = false) (h2 : (n == 64) = false)   (w : World) : Calls Try.prog 30 #[.int .i64 b, .int .i64 n] w fun e w' => e = .returned (.int .i64 (0)) ∧ Kept w w' := by
  go_enter Try.func30, Try.ntmps30
  go_wp2_with (first | (go_at_call 61; refine (of_0 _ h1 h2 _).mono ?_; rintro e w1 ⟨rfl, hk1⟩))
  go_ret
  exact ⟨rfl, hk1.alloc _ _⟩

set_option maxHeartbeats 1000000 in
theorem rnext_0 (b n : Int) (h1 : (n == 32) = false) (h2 : (n == 64) = false)   (w : World) : Calls Try.prog 22 #[.int .i64 b, .int .i64 n] w fun e w' => e = .returned (.int .i64 (0)) ∧ Kept w w' := by
  go_enter Try.func22, Try.ntmps22
  go_wp2_with (first | (go_at_call 61; refine (of_0 _ h1 h2 _).mono ?_; rintro e w1 ⟨rfl, hk1⟩))
  go_ret
  exact ⟨rfl, hk1.alloc _ _⟩

end Go.Proofs.Ytebjkfecijeehaa
