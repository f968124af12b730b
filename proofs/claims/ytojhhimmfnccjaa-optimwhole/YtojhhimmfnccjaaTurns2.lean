/- The walks of Neg, Abs, Canon, Next of package bits: what each call gives, width by width. Neg, Abs, Canon, Next, Prev of package bits: one contract each, for every int and every width. -/
import Derived.Test.YtojhhimmfnccjaaCore
namespace Go.Proofs.Ytojhhimmfnccjaa
open Go.ChangeShapes Go.WideShapes Go.ChangeAt Go.RowKit
set_option linter.unusedSimpArgs false

set_option maxHeartbeats 400000 in
theorem canon_64 (b : Int)  (w : World) : Calls Try.prog 41 #[.int .i64 b, .int .i64 64] w fun e w' => e = .returned (.int .i64 (if cls b 64 = 4 then 9221120237041090561 else if b = -9223372036854775808 then 0 else b)) ∧ Kept w w' := by
  go_enter Try.func41, Try.ntmps41
  go_wp2_with (first | (go_at_call 65; refine (numbers_64 b _).mono ?_; rintro e w1 ⟨rfl, hk1⟩))
  all_goals
    go_ret
    refine ⟨ret_int ?_, hk1.alloc _ _⟩
    try unfold wrap64
    (try simp only [Bool.not_eq_true', Bool.not_eq_false', bne_iff_ne, bne_eq_false_iff_eq, beq_iff_eq, beq_eq_false_iff_ne, ne_eq] at *) <;> ((repeat' split) <;> omega)

set_option maxHeartbeats 400000 in
theorem canon_32 (b : Int)  (w : World) : Calls Try.prog 41 #[.int .i64 b, .int .i64 32] w fun e w' => e = .returned (.int .i64 (if cls b 32 = 4 then 2143289345 else if b = 2147483648 then 0 else b)) ∧ Kept w w' := by
  go_enter Try.func41, Try.ntmps41
  go_wp2_with (first | (go_at_call 65; refine (numbers_32 b _).mono ?_; rintro e w1 ⟨rfl, hk1⟩))
  all_goals
    go_ret
    refine ⟨ret_int ?_, hk1.alloc _ _⟩
    try unfold wrap64
    (try simp only [Bool.not_eq_true', Bool.not_eq_false', bne_iff_ne, bne_eq_false_iff_eq, beq_iff_eq, beq_eq_false_iff_ne, ne_eq] at *) <;> ((repeat' split) <;> omega)

set_option maxHeartbeats 400000 in
theorem canon_0 (b n : Int) (h1 : (n == 32) = false) (h2 : (n == 64) = false)  (w : World) : Calls Try.prog 41 #[.int .i64 b, .int .i64 n] w fun e w' => e = .returned (.int .i64 (0)) ∧ Kept w w' := by
  go_enter Try.func41, Try.ntmps41
  go_wp2_with (first | (go_at_call 65; refine (numbers_0 b _ h1 h2 _).mono ?_; rintro e w1 ⟨rfl, hk1⟩))
  go_ret
  exact ⟨rfl, hk1.alloc _ _⟩

end Go.Proofs.Ytojhhimmfnccjaa

namespace Go.Proofs.Ytojhhimmfnccjaa
open Go.ChangeShapes Go.WideShapes Go.ChangeAt Go.RowKit

theorem cls_num_64 (b : Int) (h : cls b 64 ≠ 4) : b % 9223372036854775808 ≤ 9218868437227405312 := by
  unfold cls clsOf at h
  rw [if_pos rfl] at h
  split at h <;> omega

theorem cls_num_32 (b : Int) (h : cls b 32 ≠ 4) : b % 2147483648 ≤ 2139095040 := by
  have hv := cls_valid b h
  unfold cls clsOf at h
  rw [if_neg (by decide), if_pos rfl, if_pos hv] at h
  split at h <;> omega

theorem canon_any (b n : Int) (w : World) : Calls Try.prog 41 #[.int .i64 b, .int .i64 n] w fun e w' => e = .returned (.int .i64 (can b n)) ∧ Kept w w' := by
  by_cases h64 : n = 64
  · subst h64
    refine (canon_64 b w).mono ?_
    rintro e w' ⟨rfl, hk⟩
    refine ⟨ret_int ?_, hk⟩
    by_cases hc : cls b 64 = 4 <;> simp [can, isnum, nanOf, hc]
  · by_cases h32 : n = 32
    · subst h32
      refine (canon_32 b w).mono ?_
      rintro e w' ⟨rfl, hk⟩
      refine ⟨ret_int ?_, hk⟩
      by_cases hc : cls b 32 = 4 <;> simp [can, isnum, nanOf, hc]
    · refine (canon_0 b n (by simpa using h32) (by simpa using h64) w).mono ?_
      rintro e w' ⟨rfl, hk⟩
      exact ⟨ret_int (by simp [can, isnum_0 b n h64 h32, nanOf_0 n h64 h32]), hk⟩

theorem nanOf_bd (n : Int) : -9223372036854775808 ≤ nanOf n ∧ nanOf n ≤ 9223372036854775807 := by
  unfold nanOf
  (repeat' split) <;> omega

theorem isnum_inv (b n : Int) (h : isnum b n = true) : (n = 64 ∧ cls b 64 ≠ 4) ∨ (n = 32 ∧ cls b 32 ≠ 4) := by
  simp only [isnum, decide_eq_true_eq] at h
  rcases h with ⟨rfl | rfl, h⟩
  · exact Or.inl ⟨rfl, h⟩
  · exact Or.inr ⟨rfl, h⟩

theorem ngt_bd (b n : Int) (hb1 : -9223372036854775808 ≤ b) (hb2 : b ≤ 9223372036854775807) : -9223372036854775808 ≤ ngt b n ∧ ngt b n ≤ 9223372036854775807 := by
  have := nanOf_bd n
  by_cases hi : isnum b n = true
  · rcases isnum_inv b n hi with ⟨rfl, hc⟩ | ⟨rfl, hc⟩
    · unfold ngt; rw [if_pos hi, if_pos rfl]; split <;> omega
    · have hv := cls_valid b hc
      unfold ngt; rw [if_pos hi, if_neg (by decide : ¬ (32 : Int) = 64)]; split <;> omega
  · unfold ngt; rw [if_neg hi]; exact this

theorem nxt_bd (b n : Int) (hb1 : -9223372036854775808 ≤ b) (hb2 : b ≤ 9223372036854775807) : -9223372036854775808 ≤ nxt b n ∧ nxt b n ≤ 9223372036854775807 := by
  have := nanOf_bd n
  by_cases hi : isnum b n = true
  · rcases isnum_inv b n hi with ⟨rfl, hc⟩ | ⟨rfl, hc⟩
    · have := cls_num_64 b hc
      unfold nxt; rw [if_pos hi, if_pos rfl]; (repeat' split) <;> omega
    · have hv := cls_valid b hc
      unfold nxt; rw [if_pos hi, if_neg (by decide : ¬ (32 : Int) = 64)]; (repeat' split) <;> omega
  · unfold nxt; rw [if_neg hi]; exact this

def prv (b n : Int) : Int := ngt (nxt (ngt b n) n) n

end Go.Proofs.Ytojhhimmfnccjaa
