/- The walks of exact's functions over digits: length, top, signOf, areDigits, fit, Valid. The walks of exact's Valid, allValid, fit, digitsOf, trailing. -/
import Derived.Test.YtedghjededicpaaD1
import Derived.Test.YtedghjededicpaaJoinB
namespace Go.Proofs.Ytedghjededicpaa
open Go.ChangeShapes Go.WideShapes Go.ChangeAt Go.RowKit
set_option linter.unusedVariables false

theorem bitLen_bl (x : Nat) (h : x < 2 ^ 63) : Lib.bitLen x = bl x := by
  by_cases h0 : x = 0
  · subst h0; rfl
  · have h1 := bl_pos x h0
    have h2 := bl_le x 63 h
    obtain ⟨m, hm⟩ : ∃ m, bl x = m + 1 := ⟨bl x - 1, by omega⟩
    rw [hm] at h1 ⊢
    exact bitLen_top m x (by omega) (by simpa using h1.1) h1.2.1

def Cn (L : List Int) : Prop := Dg L ∧ (L ≠ [] → L.getD (L.length - 1) 0 ≠ 0)
theorem Cn.digs (n : Nat) : Cn (digs n) := ⟨dg_digs n, fun h => digs_last n (fun h0 => h (by rw [h0, digs_zero]))⟩

theorem bl_div (v n : Nat) (hd : v / 2 ^ n ≠ 0) : bl v = n + bl (v / 2 ^ n) := by
  have h6 := bl_pos _ hd
  obtain ⟨d, hv⟩ : ∃ d, v / 2 ^ n = d := ⟨_, rfl⟩
  rw [hv] at h6 ⊢
  obtain ⟨m, hm⟩ : ∃ m, bl d = m + 1 := ⟨bl d - 1, by have := h6.2.2; omega⟩
  rw [hm] at h6 ⊢
  rw [Nat.add_sub_cancel] at h6
  rw [← Nat.add_assoc]
  apply bl_eq
  · rw [Nat.pow_add, Nat.mul_comm]
    exact (Nat.le_div_iff_mul_le (Nat.two_pow_pos _)).1 (by rw [hv]; exact h6.1)
  · rw [show n + m + 1 = (m + 1) + n by omega, Nat.pow_add]
    exact (Nat.div_lt_iff_lt_mul (Nat.two_pow_pos _)).1 (by rw [hv]; exact h6.2.1)
theorem length_math (L : List Int) (hL : Dg L) (n : Nat) (hn : L.length = n + 1) (hl : L.getD n 0 ≠ 0) : ((n : Int) + 1 - 1) * 30 + ((bl (L.getD n 0).toNat : Nat) : Int) = ((bl (nv L) : Nat) : Int) := by
  have h1 := nv_getD L hL n
  have h2 := nv_lt L hL
  have h4 := hL.getD n
  rw [hn, pow30] at h2
  have h5 : nv L / 2 ^ (30 * n) < 1073741824 := by
    rw [Nat.div_lt_iff_lt_mul (Nat.two_pow_pos _)]; exact h2
  rw [Nat.mod_eq_of_lt h5] at h1
  have h6 : nv L / 2 ^ (30 * n) ≠ 0 := by rw [← h1]; omega
  have h7 := bl_div _ _ h6
  rw [← h1] at h7
  rw [h7]
  clear h1 h2 h5 h6 h7
  omega

theorem and_high (X : Nat) (h : X < 2 ^ 64) : X &&& (2 ^ 64 - 2 ^ 30) = X / 2 ^ 30 * 2 ^ 30 := by
  apply Nat.eq_of_testBit_eq
  intro j
  have f : (2 ^ 64 - 2 ^ 30 : Nat) = 2 ^ 30 * (2 ^ 34 - 1) + 0 := by decide
  have g : X / 2 ^ 30 * 2 ^ 30 = 2 ^ 30 * (X / 2 ^ 30) + 0 := by omega
  rw [Nat.testBit_and, f, g, Nat.testBit_two_pow_mul_add _ (by decide), Nat.testBit_two_pow_mul_add _ (by decide)]
  by_cases hj : j < 30
  · simp [hj]
  · rw [if_neg hj, if_neg hj, Nat.testBit_two_pow_sub_one, Nat.testBit_div_two_pow]
    by_cases hk : j < 64
    · rw [show j - 30 + 30 = j by omega]; simp; omega
    · rw [show j - 30 + 30 = j by omega, Nat.testBit_lt_two_pow (i := j) (x := X) (Nat.lt_of_lt_of_le h (Nat.pow_le_pow_right (by decide) (by omega)))]
      simp
theorem andNot30 (d : Int) (h1 : -9223372036854775808 ≤ d) (h2 : d ≤ 9223372036854775807) : bits .andNot .i64 d 1073741823 = d / 1073741824 * 1073741824 := by
  have e : (~~~ BitVec.ofInt 64 1073741823 : BitVec 64).toNat = 2 ^ 64 - 2 ^ 30 := by decide
  have h := ofInt_toNat d
  rw [bits_andNot, BitVec.toNat_and, e, and_high _ (BitVec.isLt _), wrap_i64]
  omega

def Rg (L : List Int) : Prop := ∀ d ∈ L, -9223372036854775808 ≤ d ∧ d ≤ 9223372036854775807
theorem Rg.getD {L : List Int} (h : Rg L) (i : Nat) : -9223372036854775808 ≤ L.getD i 0 ∧ L.getD i 0 ≤ 9223372036854775807 := by
  by_cases hi : i < L.length
  · rw [List.getD_eq_getElem?_getD, List.getElem?_eq_getElem hi]
    exact h _ (List.getElem_mem hi)
  · rw [List.getD_eq_getElem?_getD, List.getElem?_eq_none (by omega)]
    simp
theorem Dg.rg {L : List Int} (h : Dg L) : Rg L := fun d hd => by have := h d hd; omega
def dgb (L : List Int) : Bool := L.all fun d => decide (0 ≤ d ∧ d < 1073741824)
theorem dgb_iff (L : List Int) : dgb L = true ↔ Dg L := by simp [dgb, Dg]
theorem dgb_true (L : List Int) (h : ∀ j, j < L.length → 0 ≤ L.getD j 0 ∧ L.getD j 0 < 1073741824) : dgb L = true := (dgb_iff L).2 (Dg.of_getD h)
theorem dgb_false (L : List Int) (j : Nat) (hj : j < L.length) (h : ¬ (0 ≤ L.getD j 0 ∧ L.getD j 0 < 1073741824)) : dgb L = false := by
  cases hb : dgb L
  · rfl
  · exact absurd (((dgb_iff L).1 hb).getD j) h

end Go.Proofs.Ytedghjededicpaa

namespace Go.Proofs.Ytedghjededicpaa
open Go.ChangeShapes Go.WideShapes Go.ChangeAt Go.RowKit
set_option linter.unusedVariables false

def vldN (n : Nat) (g : Bool) (d d0 x : Int) : Bool := decide ((n : Int) ≤ 2000) && g && (d != 0) && (bits .and .i64 d0 1 == 1) && decide (-1048576 ≤ x) && decide (x ≤ 1048576)

/-! ### A number as it lies: its sign, its digits, its exponent -/
structure Nm where
  neg : Bool
  mag : List Int
  exp : Int

def vld (x : Nm) : Bool := if x.mag = [] then (!x.neg && x.exp == 0) else vldN x.mag.length (dgb x.mag) (x.mag.getD (x.mag.length - 1) 0) (x.mag.getD 0 0) x.exp
def NumAt (w : World) (v : Value) (x : Nm) : Prop := ∃ s, v = .agg #[.bool x.neg, s, .int .i64 x.exp] ∧ Sl w s x.mag
theorem NumAt.kept {w w' : World} {v : Value} {x : Nm} (h : NumAt w v x) (k : Kept w w') : NumAt w' v x := by
  obtain ⟨s, e, hs⟩ := h
  exact ⟨s, e, hs.kept k⟩

end Go.Proofs.Ytedghjededicpaa
