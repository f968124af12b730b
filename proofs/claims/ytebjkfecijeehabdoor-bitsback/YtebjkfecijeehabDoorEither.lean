/- The laws' own small steps: a width of any int, a pattern of a width of any int. -/
import Derived.Test.YtebjkfecijeehabDoorCore
namespace Go.Proofs.YtebjkfecijeehabDoor
open Go.ChangeShapes Go.WideShapes Go.ChangeAt Go.RowKit
set_option linter.unusedVariables false

theorem mask_1 (s : Int) : bits .and .i64 s 1 = s % 2 := by
  have e : (BitVec.ofInt 64 1 : BitVec 64).toNat = 2 ^ 1 - 1 := by decide
  have h := ofInt_toNat s
  rw [bits_and, BitVec.toNat_and, e, Nat.and_two_pow_sub_one_eq_mod, wrap_i64]
  omega

theorem mask_32 (s : Int) : bits .and .i64 s 4294967295 = s % 4294967296 := by
  have e : (BitVec.ofInt 64 4294967295 : BitVec 64).toNat = 2 ^ 32 - 1 := by decide
  have h := ofInt_toNat s
  rw [bits_and, BitVec.toNat_and, e, Nat.and_two_pow_sub_one_eq_mod, wrap_i64]
  omega

def ei (n : Int) : Int := 32 + 32 * (n % 2)
def ptn (b n : Int) : Int := if n = 32 then b % 4294967296 else b

theorem ei_or (n : Int) : ei n = 64 ∨ ei n = 32 := by
  unfold ei
  omega

theorem ptn_bd (b n : Int) (hb1 : -9223372036854775808 ≤ b) (hb2 : b ≤ 9223372036854775807) : -9223372036854775808 ≤ ptn b n ∧ ptn b n ≤ 9223372036854775807 := by
  unfold ptn
  split <;> omega

set_option maxHeartbeats 400000 in
theorem either_core (n m : Int) (hm : bits .and .i64 n 1 = m) (h0 : 0 ≤ m) (h1 : m ≤ 1) (w : World) : Calls Tryd.prog 4 #[.int .i64 n] w fun e w' => e = .returned (.int .i64 (32 + 32 * m)) ∧ w = w' := by
  go_enter Tryd.func4, Tryd.ntmps4
  go_wp2
  go_ret
  exact ⟨rfl, rfl⟩

theorem either_any (n : Int) (w : World) : Calls Tryd.prog 4 #[.int .i64 n] w fun e w' => e = .returned (.int .i64 (ei n)) ∧ w = w' :=
  either_core n _ (mask_1 n) (by omega) (by omega) w

set_option maxHeartbeats 400000 in
theorem pattern_32 (b m : Int) (hm : bits .and .i64 b 4294967295 = m) (w : World) : Calls Tryd.prog 5 #[.int .i64 b, .int .i64 32] w fun e w' => e = .returned (.int .i64 m) ∧ w = w' := by
  go_enter Tryd.func5, Tryd.ntmps5
  go_wp2
  go_ret
  exact ⟨rfl, rfl⟩

set_option maxHeartbeats 400000 in
theorem pattern_no (b n : Int) (h : (n == 32) = false) (w : World) : Calls Tryd.prog 5 #[.int .i64 b, .int .i64 n] w fun e w' => e = .returned (.int .i64 b) ∧ w = w' := by
  go_enter Tryd.func5, Tryd.ntmps5
  go_wp2
  go_ret
  exact ⟨rfl, rfl⟩

theorem pattern_any (b n : Int) (w : World) : Calls Tryd.prog 5 #[.int .i64 b, .int .i64 n] w fun e w' => e = .returned (.int .i64 (ptn b n)) ∧ w = w' := by
  by_cases h : n = 32
  · subst h
    refine (pattern_32 b _ (mask_32 b) w).mono ?_
    rintro e w' ⟨rfl, rfl⟩
    exact ⟨ret_int (by simp [ptn]), rfl⟩
  · refine (pattern_no b n (by simpa using h) w).mono ?_
    rintro e w' ⟨rfl, rfl⟩
    exact ⟨ret_int (by simp [ptn, h]), rfl⟩

end Go.Proofs.YtebjkfecijeehabDoor
