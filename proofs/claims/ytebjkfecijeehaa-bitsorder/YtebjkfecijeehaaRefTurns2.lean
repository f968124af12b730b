/- The document's own Neg, Abs, Canon, Next, Prev: one contract each, the same as package bits'. -/
import Derived.Test.YtebjkfecijeehaaRefTurns
namespace Go.Proofs.Ytebjkfecijeehaa
open Go.ChangeShapes Go.WideShapes Go.ChangeAt Go.RowKit

theorem hx_64 (b : Int) : cls b 64 = 4 ∨ b % 9223372036854775808 ≤ 9218868437227405312 := by
  by_cases hc : cls b 64 = 4
  · exact Or.inl hc
  · exact Or.inr (cls_num_64 b hc)
theorem hx_32 (b : Int) : cls b 32 = 4 ∨ 0 ≤ b ∧ b < 4294967296 := by
  by_cases hc : cls b 32 = 4
  · exact Or.inl hc
  · exact Or.inr (cls_valid b hc)
theorem cls_zero_64 (b : Int) (hb1 : -9223372036854775808 ≤ b) (hb2 : b ≤ 9223372036854775807) : cls b 64 = 0 ↔ b = 0 ∨ b = -9223372036854775808 := by
  unfold cls clsOf
  rw [if_pos rfl]
  (repeat' split) <;> omega
theorem cls_zero_32 (b : Int) : cls b 32 = 0 ↔ b = 0 ∨ b = 2147483648 := by
  unfold cls clsOf
  rw [if_neg (by decide), if_pos rfl]
  (repeat' split) <;> omega

theorem rneg_any (b n : Int) (hb1 : -9223372036854775808 ≤ b) (hb2 : b ≤ 9223372036854775807) (w : World) : Calls Try.prog 26 #[.int .i64 b, .int .i64 n] w fun e w' => e = .returned (.int .i64 (ngt b n)) ∧ Kept w w' := by
  by_cases h64 : n = 64
  · subst h64
    refine (rneg_64 b hb1 hb2 (hx_64 b) w).mono ?_
    rintro e w' ⟨rfl, hk⟩
    refine ⟨ret_int ?_, hk⟩
    by_cases hc : cls b 64 = 4 <;> simp [ngt, isnum, nanOf, hc]
  · by_cases h32 : n = 32
    · subst h32
      refine (rneg_32 b hb1 hb2 (hx_32 b) w).mono ?_
      rintro e w' ⟨rfl, hk⟩
      refine ⟨ret_int ?_, hk⟩
      by_cases hc : cls b 32 = 4
      · simp [ngt, isnum, nanOf, hc]
      · have hi : isnum b 32 = true := by simp [isnum, hc]
        unfold ngt
        rw [if_neg hc, if_pos hi, if_neg (by decide : ¬ (32 : Int) = 64)]
        (repeat' split) <;> omega
    · refine (rneg_0 b n (by simpa using h32) (by simpa using h64) w).mono ?_
      rintro e w' ⟨rfl, hk⟩
      exact ⟨ret_int (by simp [ngt, isnum_0 b n h64 h32, nanOf_0 n h64 h32]), hk⟩

theorem rabs_any (b n : Int) (hb1 : -9223372036854775808 ≤ b) (hb2 : b ≤ 9223372036854775807) (w : World) : Calls Try.prog 28 #[.int .i64 b, .int .i64 n] w fun e w' => e = .returned (.int .i64 (absv b n)) ∧ Kept w w' := by
  by_cases h64 : n = 64
  · subst h64
    refine (rabs_64 b hb1 hb2 (hx_64 b) w).mono ?_
    rintro e w' ⟨rfl, hk⟩
    refine ⟨ret_int ?_, hk⟩
    by_cases hc : cls b 64 = 4
    · simp [absv, isnum, nanOf, hc]
    · have hi : isnum b 64 = true := by simp [isnum, hc]
      unfold absv
      rw [if_neg hc, if_pos hi, if_pos rfl]
      split <;> omega
  · by_cases h32 : n = 32
    · subst h32
      refine (rabs_32 b hb1 hb2 (hx_32 b) w).mono ?_
      rintro e w' ⟨rfl, hk⟩
      refine ⟨ret_int ?_, hk⟩
      by_cases hc : cls b 32 = 4
      · simp [absv, isnum, nanOf, hc]
      · have hi : isnum b 32 = true := by simp [isnum, hc]
        have hv := cls_valid b hc
        unfold absv
        rw [if_neg hc, if_pos hi, if_neg (by decide : ¬ (32 : Int) = 64)]
        split <;> omega
    · refine (rabs_0 b n (by simpa using h32) (by simpa using h64) w).mono ?_
      rintro e w' ⟨rfl, hk⟩
      exact ⟨ret_int (by simp [absv, isnum_0 b n h64 h32, nanOf_0 n h64 h32]), hk⟩

theorem rcanon_any (b n : Int) (hb1 : -9223372036854775808 ≤ b) (hb2 : b ≤ 9223372036854775807) (w : World) : Calls Try.prog 30 #[.int .i64 b, .int .i64 n] w fun e w' => e = .returned (.int .i64 (can b n)) ∧ Kept w w' := by
  by_cases h64 : n = 64
  · subst h64
    refine (rcanon_64 b hb1 hb2 w).mono ?_
    rintro e w' ⟨rfl, hk⟩
    refine ⟨ret_int ?_, hk⟩
    have hz := cls_zero_64 b hb1 hb2
    by_cases hc : cls b 64 = 4
    · simp [can, isnum, nanOf, hc]
    · have hi : isnum b 64 = true := by simp [isnum, hc]
      unfold can
      rw [if_neg hc, if_pos hi, if_pos rfl]
      (repeat' split) <;> omega
  · by_cases h32 : n = 32
    · subst h32
      refine (rcanon_32 b hb1 hb2 w).mono ?_
      rintro e w' ⟨rfl, hk⟩
      refine ⟨ret_int ?_, hk⟩
      have hz := cls_zero_32 b
      by_cases hc : cls b 32 = 4
      · simp [can, isnum, nanOf, hc]
      · have hi : isnum b 32 = true := by simp [isnum, hc]
        unfold can
        rw [if_neg hc, if_pos hi, if_neg (by decide : ¬ (32 : Int) = 64)]
        (repeat' split) <;> omega
    · refine (rcanon_0 b n (by simpa using h32) (by simpa using h64) w).mono ?_
      rintro e w' ⟨rfl, hk⟩
      exact ⟨ret_int (by simp [can, isnum_0 b n h64 h32, nanOf_0 n h64 h32]), hk⟩

theorem rnext_any (b n : Int) (hb1 : -9223372036854775808 ≤ b) (hb2 : b ≤ 9223372036854775807) (w : World) : Calls Try.prog 22 #[.int .i64 b, .int .i64 n] w fun e w' => e = .returned (.int .i64 (nxt b n)) ∧ Kept w w' := by
  by_cases h64 : n = 64
  · subst h64
    have hz := cls_zero_64 b hb1 hb2
    refine (rnext_64 b hb1 hb2 (hx_64 b) (by omega) w).mono ?_
    rintro e w' ⟨rfl, hk⟩
    refine ⟨ret_int ?_, hk⟩
    by_cases hc : cls b 64 = 4
    · simp [nxt, isnum, nanOf, hc]
    · have hi : isnum b 64 = true := by simp [isnum, hc]
      unfold nxt
      rw [if_neg hc, if_pos hi, if_pos rfl]
      (repeat' split) <;> omega
  · by_cases h32 : n = 32
    · subst h32
      have hz := cls_zero_32 b
      refine (rnext_32 b hb1 hb2 (hx_32 b) w).mono ?_
      rintro e w' ⟨rfl, hk⟩
      refine ⟨ret_int ?_, hk⟩
      by_cases hc : cls b 32 = 4
      · simp [nxt, isnum, nanOf, hc]
      · have hi : isnum b 32 = true := by simp [isnum, hc]
        unfold nxt
        rw [if_neg hc, if_pos hi, if_neg (by decide : ¬ (32 : Int) = 64)]
        (repeat' split) <;> omega
    · refine (rnext_0 b n (by simpa using h32) (by simpa using h64) w).mono ?_
      rintro e w' ⟨rfl, hk⟩
      exact ⟨ret_int (by simp [nxt, isnum_0 b n h64 h32, nanOf_0 n h64 h32]), hk⟩

set_option maxHeartbeats 400000 in
theorem rprev_any (b n : Int) (hb1 : -9223372036854775808 ≤ b) (hb2 : b ≤ 9223372036854775807) (w : World) : Calls Try.prog 24 #[.int .i64 b, .int .i64 n] w fun e w' => e = .returned (.int .i64 (prv b n)) ∧ Kept w w' := by
  have q1 := ngt_bd b n hb1 hb2
  have q2 := nxt_bd (ngt b n) n q1.1 q1.2
  go_enter Try.func24, Try.ntmps24
  go_wp2_with fail
  refine (rneg_any b n hb1 hb2 _).mono ?_
  rintro e w1 ⟨rfl, hk1⟩
  go_wp2_with fail
  refine (rnext_any (ngt b n) n q1.1 q1.2 _).mono ?_
  rintro e w2 ⟨rfl, hk2⟩
  go_wp2_with fail
  refine (rneg_any (nxt (ngt b n) n) n q2.1 q2.2 _).mono ?_
  rintro e w3 ⟨rfl, hk3⟩
  go_wp2
  go_ret
  exact ⟨rfl, (hk1.trans hk2).trans hk3⟩

end Go.Proofs.Ytebjkfecijeehaa
