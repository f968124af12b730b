/- The walks of place, Order, Min, Max of package bits, and of cmp.Compare at int. -/
import Derived.Test.YtebjkfecijeehacDoorNum2
namespace Go.Proofs.YtebjkfecijeehacDoor
open Go.ChangeShapes Go.WideShapes Go.ChangeAt Go.RowKit
set_option linter.unusedVariables false
set_option linter.unusedSimpArgs false

/-- The place of a pattern in the order of all: -0 just below 0, all that is no number at the top. -/
def plc (b n : Int) : Int :=
  if isnum b n = true then
    if n = 64 then (if b < 0 then -1 - b % 9223372036854775808 else b) else (if 2147483648 ≤ b then -1 - b % 2147483648 else b)
  else 9223372036854775807
def cmpI (x y : Int) : Int := if x < y then -1 else if y < x then 1 else 0
def ord (a b n : Int) : Int := cmpI (plc a n) (plc b n)
def mn (a b n : Int) : Int := if (isnum a n && isnum b n) = true then (if plc b n < plc a n then b else a) else nanOf n
def mx (a b n : Int) : Int := if (isnum a n && isnum b n) = true then (if plc a n < plc b n then b else a) else nanOf n

set_option maxHeartbeats 400000 in
theorem place_64 (b s g : Int) (hs : bits .andNot .i64 b (-9223372036854775808) = s) (hg : bits .and .i64 b (-9223372036854775808) = g) (h0 : 0 ≤ s) (h1 : s ≤ 9223372036854775807) (w : World) : Calls Tryd.prog 36 #[.int .i64 b, .int .i64 64] w fun e w' => e = .returned (.int .i64 (if cls b 64 = 4 then 9223372036854775807 else if g = 0 then b else -1 - s)) ∧ Kept w w' := by
  go_enter Tryd.func36, Tryd.ntmps36
  go_wp2_with (first | (go_at_call 34; refine (numbers_64 b _).mono ?_; rintro e w1 ⟨rfl, hk1⟩))
  all_goals
    go_ret
    refine ⟨ret_int ?_, hk1.alloc _ _⟩
    try unfold wrap64
    (try simp only [Bool.not_eq_true', Bool.not_eq_false', bne_iff_ne, bne_eq_false_iff_eq, beq_iff_eq, beq_eq_false_iff_ne, ne_eq] at *) <;> ((repeat' split) <;> omega)

set_option maxHeartbeats 400000 in
theorem place_32 (b s g : Int) (hs : bits .andNot .i64 b 2147483648 = s) (hg : bits .and .i64 b 2147483648 = g) (h0 : cls b 32 = 4 ∨ 0 ≤ s) (h1 : cls b 32 = 4 ∨ s ≤ 9223372036854775807) (w : World) : Calls Tryd.prog 36 #[.int .i64 b, .int .i64 32] w fun e w' => e = .returned (.int .i64 (if cls b 32 = 4 then 9223372036854775807 else if g = 0 then b else -1 - s)) ∧ Kept w w' := by
  go_enter Tryd.func36, Tryd.ntmps36
  go_wp2_with (first | (go_at_call 34; refine (numbers_32 b _).mono ?_; rintro e w1 ⟨rfl, hk1⟩))
  all_goals
    go_ret
    refine ⟨ret_int ?_, hk1.alloc _ _⟩
    try unfold wrap64
    (try simp only [Bool.not_eq_true', Bool.not_eq_false', bne_iff_ne, bne_eq_false_iff_eq, beq_iff_eq, beq_eq_false_iff_ne, ne_eq] at *) <;> ((repeat' split) <;> omega)

set_option maxHeartbeats 400000 in
theorem place_0 (b n : Int) (h1 : (n == 32) = false) (h2 : (n == 64) = false) (w : World) : Calls Tryd.prog 36 #[.int .i64 b, .int .i64 n] w fun e w' => e = .returned (.int .i64 9223372036854775807) ∧ Kept w w' := by
  go_enter Tryd.func36, Tryd.ntmps36
  go_wp2_with (first | (go_at_call 34; refine (numbers_0 b _ h1 h2 _).mono ?_; rintro e w1 ⟨rfl, hk1⟩))
  go_ret
  exact ⟨rfl, hk1.alloc _ _⟩

theorem place_any (b n : Int) (hb1 : -9223372036854775808 ≤ b) (hb2 : b ≤ 9223372036854775807) (w : World) : Calls Tryd.prog 36 #[.int .i64 b, .int .i64 n] w fun e w' => e = .returned (.int .i64 (plc b n)) ∧ Kept w w' := by
  by_cases h64 : n = 64
  · subst h64
    refine (place_64 b _ _ (andNot_min b) (and_min b hb1 hb2) (by omega) (by omega) w).mono ?_
    rintro e w' ⟨rfl, hk⟩
    refine ⟨ret_int ?_, hk⟩
    by_cases hc : cls b 64 = 4
    · simp [plc, isnum, hc]
    · have hi : isnum b 64 = true := by simp [isnum, hc]
      unfold plc
      rw [if_neg hc, if_pos hi, if_pos rfl]
      (repeat' split) <;> omega
  · by_cases h32 : n = 32
    · subst h32
      by_cases hc : cls b 32 = 4
      · refine (place_32 b _ _ rfl rfl (Or.inl hc) (Or.inl hc) w).mono ?_
        rintro e w' ⟨rfl, hk⟩
        exact ⟨ret_int (by simp [plc, isnum, hc]), hk⟩
      · have hv := cls_valid b hc
        have hi : isnum b 32 = true := by simp [isnum, hc]
        refine (place_32 b _ _ (andNot_31 b hv.1 hv.2) (and_31 b hv.1 hv.2) (by omega) (by omega) w).mono ?_
        rintro e w' ⟨rfl, hk⟩
        refine ⟨ret_int ?_, hk⟩
        unfold plc
        rw [if_neg hc, if_pos hi, if_neg (by decide : ¬ (32 : Int) = 64)]
        (repeat' split) <;> omega
    · refine (place_0 b n (by simpa using h32) (by simpa using h64) w).mono ?_
      rintro e w' ⟨rfl, hk⟩
      exact ⟨ret_int (by simp [plc, isnum_0 b n h64 h32]), hk⟩

set_option maxHeartbeats 400000 in
theorem compare_any (x y : Int) (w : World) : Calls Tryd.prog 35 #[.int .i64 x, .int .i64 y] w fun e w' => e = .returned (.int .i64 (cmpI x y)) ∧ w = w' := by
  go_enter Tryd.func35, Tryd.ntmps35
  go_wp2
  all_goals
    go_ret
    refine ⟨ret_int ?_, rfl⟩
    unfold cmpI
    (repeat' split) <;> omega

set_option maxHeartbeats 400000 in
theorem order_any (a b n : Int) (ha1 : -9223372036854775808 ≤ a) (ha2 : a ≤ 9223372036854775807) (hb1 : -9223372036854775808 ≤ b) (hb2 : b ≤ 9223372036854775807) (w : World) : Calls Tryd.prog 16 #[.int .i64 a, .int .i64 b, .int .i64 n] w fun e w' => e = .returned (.int .i64 (ord a b n)) ∧ Kept w w' := by
  go_enter Tryd.func16, Tryd.ntmps16
  go_wp2_with fail
  refine (place_any a n ha1 ha2 _).mono ?_
  rintro e w1 ⟨rfl, hk1⟩
  go_wp2_with fail
  refine (place_any b n hb1 hb2 _).mono ?_
  rintro e w2 ⟨rfl, hk2⟩
  go_wp2_with fail
  refine (compare_any _ _ _).mono ?_
  rintro e w3 ⟨rfl, rfl⟩
  go_wp2
  go_ret
  exact ⟨rfl, hk1.trans hk2⟩

theorem ord_gt (a b n : Int) : 0 < ord a b n ↔ plc b n < plc a n := by
  unfold ord cmpI
  (repeat' split) <;> omega
theorem ord_lt (a b n : Int) : ord a b n < 0 ↔ plc a n < plc b n := by
  unfold ord cmpI
  (repeat' split) <;> omega

end Go.Proofs.YtebjkfecijeehacDoor
