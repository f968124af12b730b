/- The order of two numbers, signs aside: what exact's orderOfSizes reckons; and that of their values. -/
import Derived.Test.YtjdehcndejejcaaDoorS1
namespace Go.Proofs.YtjdehcndejejcaaDoor
open Go.ChangeShapes Go.WideShapes Go.ChangeAt Go.RowKit
set_option linter.unusedVariables false
set_option linter.unusedSimpArgs false

def cz (a b : Int) : Int := if a < b then -1 else if b < a then 1 else 0
theorem cz_lt {a b : Int} (h : a < b) : cz a b = -1 := by rw [cz, if_pos h]
theorem cz_gt {a b : Int} (h : b < a) : cz a b = 1 := by rw [cz, if_neg (by omega), if_pos h]
theorem cz_eq {a b : Int} (h : a = b) : cz a b = 0 := by rw [cz, if_neg (by omega), if_neg (by omega)]

set_option maxHeartbeats 1000000 in
theorem compare_cz (x y : Int) (w : World) : Calls Tryd.prog 47 #[.int .i64 x, .int .i64 y] w fun e w' => e = .returned (.int .i64 (cz x y)) ∧ w = w' := by
  rcases Int.lt_trichotomy x y with h | h | h
  · rw [cz_lt h]
    have g2 : ¬ x = y := by omega
    have g3 : ¬ y < x := by omega
    go_enter Tryd.func47, Tryd.ntmps47
    go_wp2
    exact bodyPost_ret (v := .int .i64 _) (by simp [results, Tryd.results47, go_sem]) rfl ⟨rfl, rfl⟩
  · subst h
    rw [cz_eq rfl]
    have g3 : ¬ x < x := by omega
    go_enter Tryd.func47, Tryd.ntmps47
    go_wp2
    exact bodyPost_ret (v := .int .i64 _) (by simp [results, Tryd.results47, go_sem]) rfl ⟨rfl, rfl⟩
  · rw [cz_gt h]
    have g2 : ¬ x = y := by omega
    have g3 : ¬ x < y := by omega
    go_enter Tryd.func47, Tryd.ntmps47
    go_wp2
    exact bodyPost_ret (v := .int .i64 _) (by simp [results, Tryd.results47, go_sem]) rfl ⟨rfl, rfl⟩

/-! ### Plain -/
/-- A number's bits laid against the top of m digits. -/
def tf (v m : Nat) : Nat := v * 2 ^ (30 * m - bl v)
theorem tf_lt (v m : Nat) (h : bl v ≤ 30 * m) : tf v m < 2 ^ (30 * m) := by
  have h1 := bl_lt v
  have hp := Nat.two_pow_pos (30 * m - bl v)
  have : v * 2 ^ (30 * m - bl v) < 2 ^ bl v * 2 ^ (30 * m - bl v) := Nat.mul_lt_mul_of_lt_of_le h1 (Nat.le_refl _) hp
  rw [← Nat.pow_add, show bl v + (30 * m - bl v) = 30 * m by omega] at this
  exact this
theorem pcz_tf (v m k : Nat) (h : bl v ≤ 30 * m) (hk : k < m) : pcz v ((bl v : Int) - ((k : Int) + 1) * 30) = ((tf v m / 2 ^ (30 * (m - k - 1)) % 1073741824 : Nat) : Int) := by
  unfold pcz tf
  split
  · rename_i hp
    obtain ⟨p, hpp⟩ : ∃ p : Nat, (bl v : Int) - ((k : Int) + 1) * 30 = (p : Int) := ⟨((bl v : Int) - ((k : Int) + 1) * 30).toNat, by omega⟩
    rw [hpp, Int.toNat_natCast, show 30 * (m - k - 1) = (30 * m - bl v) + p by omega, Nat.pow_add, Nat.mul_comm v, Nat.mul_div_mul_left _ _ (Nat.two_pow_pos _)]
  · rename_i hp
    obtain ⟨p, hpp⟩ : ∃ p : Nat, -((bl v : Int) - ((k : Int) + 1) * 30) = (p : Int) := ⟨(-((bl v : Int) - ((k : Int) + 1) * 30)).toNat, by omega⟩
    rw [hpp, Int.toNat_natCast, show 30 * m - bl v = p + 30 * (m - k - 1) by omega, Nat.pow_add, ← Nat.mul_assoc, Nat.mul_div_cancel _ (Nat.two_pow_pos _)]
theorem tf_step (F m k : Nat) (hk : k < m) : F / 2 ^ (30 * (m - k - 1)) = F / 2 ^ (30 * (m - k)) * 1073741824 + F / 2 ^ (30 * (m - k - 1)) % 1073741824 := by
  have e : 30 * (m - k) = 30 * (m - k - 1) + 30 := by omega
  have e2 : F / 2 ^ (30 * (m - k)) = F / 2 ^ (30 * (m - k - 1)) / 1073741824 := by
    rw [e, Nat.pow_add, ← Nat.div_div_eq_div_mul]
  rw [e2]
  omega
theorem lt_of_div (F G P : Nat) (h : F / P < G / P) : F < G := by
  rcases Nat.lt_or_ge F G with g | g
  · exact g
  · exact absurd (Nat.div_le_div_right (c := P) g) (by omega)

theorem cz_mul (a b : Int) (k : Nat) : cz (a * 2 ^ k) (b * 2 ^ k) = cz a b := by
  have hp : (0 : Int) < 2 ^ k := Int.pow_pos (by decide)
  rcases Int.lt_trichotomy a b with h | h | h
  · rw [cz_lt h, cz_lt (Int.mul_lt_mul_of_pos_right h hp)]
  · rw [cz_eq h, cz_eq (by rw [h])]
  · rw [cz_gt h, cz_gt (Int.mul_lt_mul_of_pos_right h hp)]
theorem cz_nat_tf (v1 v2 m : Nat) (s1 s2 : Nat) (h1 : bl v1 ≤ 30 * m) (h2 : bl v2 ≤ 30 * m) (ht : bl v1 + s1 = bl v2 + s2) : cz (tf v1 m : Int) (tf v2 m : Int) = cz ((v1 * 2 ^ s1 : Nat) : Int) ((v2 * 2 ^ s2 : Nat) : Int) := by
  have e1 : ((tf v1 m : Nat) : Int) * 2 ^ (bl v1 + s1) = ((v1 * 2 ^ s1 : Nat) : Int) * 2 ^ (30 * m) := by
    unfold tf
    simp only [Int.natCast_mul, Int.natCast_pow]
    rw [Int.mul_assoc, Int.mul_assoc, show ((2 : Nat) : Int) = 2 from rfl, ← Int.pow_add, ← Int.pow_add]
    congr 2
    omega
  have e2 : ((tf v2 m : Nat) : Int) * 2 ^ (bl v1 + s1) = ((v2 * 2 ^ s2 : Nat) : Int) * 2 ^ (30 * m) := by
    unfold tf
    simp only [Int.natCast_mul, Int.natCast_pow]
    rw [Int.mul_assoc, Int.mul_assoc, show ((2 : Nat) : Int) = 2 from rfl, ← Int.pow_add, ← Int.pow_add]
    congr 2
    omega
  rw [← cz_mul (tf v1 m : Int) (tf v2 m : Int) (bl v1 + s1), e1, e2, cz_mul]
theorem cz_top (v1 v2 s1 s2 : Nat) (h1 : v1 ≠ 0) (h2 : v2 ≠ 0) (ht : bl v1 + s1 ≠ bl v2 + s2) : cz ((bl v1 + s1 : Nat) : Int) ((bl v2 + s2 : Nat) : Int) = cz ((v1 * 2 ^ s1 : Nat) : Int) ((v2 * 2 ^ s2 : Nat) : Int) := by
  have key : ∀ a b s t : Nat, a ≠ 0 → b ≠ 0 → bl a + s < bl b + t → a * 2 ^ s < b * 2 ^ t := by
    intro a b s t ha hb h
    have g1 := bl_lt (a * 2 ^ s)
    have g2 := bl_pos (b * 2 ^ t) (Nat.mul_ne_zero hb (by have := Nat.two_pow_pos t; omega))
    rw [bl_mul a s ha] at g1
    rw [bl_mul b t hb] at g2
    have g3 : 2 ^ (bl a + s) ≤ 2 ^ (bl b + t - 1) := Nat.pow_le_pow_right (by decide) (by omega)
    omega
  rcases Nat.lt_or_gt_of_ne ht with h | h
  · have := key v1 v2 s1 s2 h1 h2 h
    rw [cz_lt (by omega), cz_lt (by omega)]
  · have := key v2 v1 s2 s1 h2 h1 h
    rw [cz_gt (by omega), cz_gt (by omega)]
end Go.Proofs.YtjdehcndejejcaaDoor
