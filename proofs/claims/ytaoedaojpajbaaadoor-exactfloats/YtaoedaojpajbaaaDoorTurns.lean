/- The walks of Neg, Abs, Canon, Next of package bits: what each call gives, width by width. -/
import Derived.Test.YtaoedaojpajbaaaDoorNum
namespace Go.Proofs.YtaoedaojpajbaaaDoor
open Go.ChangeShapes Go.WideShapes Go.ChangeAt Go.RowKit
set_option linter.unusedSimpArgs false

set_option maxHeartbeats 400000 in
theorem neg_64 (b : Int) (s : Int) (hs : bits .xor .i64 b (-9223372036854775808) = s) (w : World) : Calls Tryd.prog 133 #[.int .i64 b, .int .i64 64] w fun e w' => e = .returned (.int .i64 (if cls b 64 = 4 then 9221120237041090561 else s)) ∧ Kept w w' := by
  go_enter Tryd.func133, Tryd.ntmps133
  go_wp2_with (first | (go_at_call 69; refine (numbers_64 b _).mono ?_; rintro e w1 ⟨rfl, hk1⟩))
  all_goals
    go_ret
    refine ⟨ret_int ?_, hk1.alloc _ _⟩
    try unfold wrap64
    (try simp only [Bool.not_eq_true', Bool.not_eq_false', bne_iff_ne, bne_eq_false_iff_eq, beq_iff_eq, beq_eq_false_iff_ne, ne_eq] at *) <;> ((repeat' split) <;> omega)

set_option maxHeartbeats 400000 in
theorem canon_64 (b : Int)  (w : World) : Calls Tryd.prog 25 #[.int .i64 b, .int .i64 64] w fun e w' => e = .returned (.int .i64 (if cls b 64 = 4 then 9221120237041090561 else if b = -9223372036854775808 then 0 else b)) ∧ Kept w w' := by
  go_enter Tryd.func25, Tryd.ntmps25
  go_wp2_with (first | (go_at_call 69; refine (numbers_64 b _).mono ?_; rintro e w1 ⟨rfl, hk1⟩))
  all_goals
    go_ret
    refine ⟨ret_int ?_, hk1.alloc _ _⟩
    try unfold wrap64
    (try simp only [Bool.not_eq_true', Bool.not_eq_false', bne_iff_ne, bne_eq_false_iff_eq, beq_iff_eq, beq_eq_false_iff_ne, ne_eq] at *) <;> ((repeat' split) <;> omega)

set_option maxHeartbeats 400000 in
theorem next_64 (b : Int) (hb1 : -9223372036854775808 ≤ b) (hb2 : b ≤ 9223372036854775807) (g : Int) (hg : bits .and .i64 b (-9223372036854775808) = g) (hx : cls b 64 = 4 ∨ b ≤ 9218868437227405312) (hq : g = 0 ↔ 0 ≤ b) (w : World) : Calls Tryd.prog 140 #[.int .i64 b, .int .i64 64] w fun e w' => e = .returned (.int .i64 (if cls b 64 = 4 then 9221120237041090561 else if b = 9218868437227405312 then b else if b = -9223372036854775808 then 1 else if g = 0 then b + 1 else b - 1)) ∧ Kept w w' := by
  go_enter Tryd.func140, Tryd.ntmps140
  go_wp2_with (first | (go_at_call 69; refine (numbers_64 b _).mono ?_; rintro e w1 ⟨rfl, hk1⟩))
  all_goals
    go_ret
    refine ⟨ret_int ?_, hk1.alloc _ _⟩
    try unfold wrap64
    (try simp only [Bool.not_eq_true', Bool.not_eq_false', bne_iff_ne, bne_eq_false_iff_eq, beq_iff_eq, beq_eq_false_iff_ne, ne_eq] at *) <;> ((repeat' split) <;> omega)

set_option maxHeartbeats 400000 in
theorem neg_32 (b : Int) (s : Int) (hs : bits .xor .i64 b 2147483648 = s) (w : World) : Calls Tryd.prog 133 #[.int .i64 b, .int .i64 32] w fun e w' => e = .returned (.int .i64 (if cls b 32 = 4 then 2143289345 else s)) ∧ Kept w w' := by
  go_enter Tryd.func133, Tryd.ntmps133
  go_wp2_with (first | (go_at_call 69; refine (numbers_32 b _).mono ?_; rintro e w1 ⟨rfl, hk1⟩))
  all_goals
    go_ret
    refine ⟨ret_int ?_, hk1.alloc _ _⟩
    try unfold wrap64
    (try simp only [Bool.not_eq_true', Bool.not_eq_false', bne_iff_ne, bne_eq_false_iff_eq, beq_iff_eq, beq_eq_false_iff_ne, ne_eq] at *) <;> ((repeat' split) <;> omega)

set_option maxHeartbeats 400000 in
theorem canon_32 (b : Int)  (w : World) : Calls Tryd.prog 25 #[.int .i64 b, .int .i64 32] w fun e w' => e = .returned (.int .i64 (if cls b 32 = 4 then 2143289345 else if b = 2147483648 then 0 else b)) ∧ Kept w w' := by
  go_enter Tryd.func25, Tryd.ntmps25
  go_wp2_with (first | (go_at_call 69; refine (numbers_32 b _).mono ?_; rintro e w1 ⟨rfl, hk1⟩))
  all_goals
    go_ret
    refine ⟨ret_int ?_, hk1.alloc _ _⟩
    try unfold wrap64
    (try simp only [Bool.not_eq_true', Bool.not_eq_false', bne_iff_ne, bne_eq_false_iff_eq, beq_iff_eq, beq_eq_false_iff_ne, ne_eq] at *) <;> ((repeat' split) <;> omega)

set_option maxHeartbeats 400000 in
theorem next_32 (b : Int) (hb1 : -9223372036854775808 ≤ b) (hb2 : b ≤ 9223372036854775807) (g : Int) (hg : bits .and .i64 b 2147483648 = g) (hx : cls b 32 = 4 ∨ 0 ≤ b ∧ b < 4294967296) (w : World) : Calls Tryd.prog 140 #[.int .i64 b, .int .i64 32] w fun e w' => e = .returned (.int .i64 (if cls b 32 = 4 then 2143289345 else if b = 2139095040 then b else if b = 2147483648 then 1 else if g = 0 then b + 1 else b - 1)) ∧ Kept w w' := by
  go_enter Tryd.func140, Tryd.ntmps140
  go_wp2_with (first | (go_at_call 69; refine (numbers_32 b _).mono ?_; rintro e w1 ⟨rfl, hk1⟩))
  all_goals
    go_ret
    refine ⟨ret_int ?_, hk1.alloc _ _⟩
    try unfold wrap64
    (try simp only [Bool.not_eq_true', Bool.not_eq_false', bne_iff_ne, bne_eq_false_iff_eq, beq_iff_eq, beq_eq_false_iff_ne, ne_eq] at *) <;> ((repeat' split) <;> omega)

set_option maxHeartbeats 400000 in
theorem neg_0 (b n : Int) (h1 : (n == 32) = false) (h2 : (n == 64) = false)  (w : World) : Calls Tryd.prog 133 #[.int .i64 b, .int .i64 n] w fun e w' => e = .returned (.int .i64 (0)) ∧ Kept w w' := by
  go_enter Tryd.func133, Tryd.ntmps133
  go_wp2_with (first | (go_at_call 69; refine (numbers_0 b _ h1 h2 _).mono ?_; rintro e w1 ⟨rfl, hk1⟩))
  go_ret
  exact ⟨rfl, hk1.alloc _ _⟩

set_option maxHeartbeats 400000 in
theorem canon_0 (b n : Int) (h1 : (n == 32) = false) (h2 : (n == 64) = false)  (w : World) : Calls Tryd.prog 25 #[.int .i64 b, .int .i64 n] w fun e w' => e = .returned (.int .i64 (0)) ∧ Kept w w' := by
  go_enter Tryd.func25, Tryd.ntmps25
  go_wp2_with (first | (go_at_call 69; refine (numbers_0 b _ h1 h2 _).mono ?_; rintro e w1 ⟨rfl, hk1⟩))
  go_ret
  exact ⟨rfl, hk1.alloc _ _⟩

set_option maxHeartbeats 400000 in
theorem next_0 (b n : Int) (h1 : (n == 32) = false) (h2 : (n == 64) = false)  (w : World) : Calls Tryd.prog 140 #[.int .i64 b, .int .i64 n] w fun e w' => e = .returned (.int .i64 (0)) ∧ Kept w w' := by
  go_enter Tryd.func140, Tryd.ntmps140
  go_wp2_with (first | (go_at_call 69; refine (numbers_0 b _ h1 h2 _).mono ?_; rintro e w1 ⟨rfl, hk1⟩))
  go_ret
  exact ⟨rfl, hk1.alloc _ _⟩

end Go.Proofs.YtaoedaojpajbaaaDoor
