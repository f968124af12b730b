/- The walk of exact's sum of two terms. The walk of exact's sum of two terms. The walk of exact's sum of two terms. The walk of exact's sum of two terms. The walk of exact's sum of two terms. The walk of exact's sum of two terms. The sum of two numbers that are not 0. The sum of any two numbers, noughts too. Numbers by their values: a valid number is a whole number at a scale; sums and products are those of whole numbers. The rows of a product: what the double loop of exact's product does to its digits. The order of two numbers, signs aside: what exact's orderOfSizes reckons; and that of their values. -/
import Derived.Test.YtcjgdfnbjbboeaaWr07
import Derived.Laws.MakeOwn
import Derived.Test.YtcjgdfnbjbboeaaWr06
namespace Go.Proofs.Ytcjgdfnbjbboeaa
open Go.ChangeShapes Go.WideShapes Go.ChangeAt Go.RowKit
set_option linter.unusedVariables false
set_option linter.unusedSimpArgs false

theorem getD_replicate (n j : Nat) : (List.replicate n (0 : Int)).getD j 0 = 0 := by
  rw [List.getD_eq_getElem?_getD, List.getElem?_replicate]
  split <;> rfl

end Go.Proofs.Ytcjgdfnbjbboeaa

namespace Go.Proofs.Ytcjgdfnbjbboeaa
open Go.ChangeShapes Go.WideShapes Go.ChangeAt Go.RowKit
set_option linter.unusedVariables false
set_option linter.unusedSimpArgs false

end Go.Proofs.Ytcjgdfnbjbboeaa

namespace Go.Proofs.Ytcjgdfnbjbboeaa
open Go.ChangeShapes Go.WideShapes Go.ChangeAt Go.RowKit
set_option linter.unusedVariables false
set_option linter.unusedSimpArgs false

end Go.Proofs.Ytcjgdfnbjbboeaa

namespace Go.Proofs.Ytcjgdfnbjbboeaa
open Go.ChangeShapes Go.WideShapes Go.ChangeAt Go.RowKit
set_option linter.unusedVariables false
set_option linter.unusedSimpArgs false

end Go.Proofs.Ytcjgdfnbjbboeaa

namespace Go.Proofs.Ytcjgdfnbjbboeaa
open Go.ChangeShapes Go.WideShapes Go.ChangeAt Go.RowKit
set_option linter.unusedVariables false
set_option linter.unusedSimpArgs false

end Go.Proofs.Ytcjgdfnbjbboeaa

namespace Go.Proofs.Ytcjgdfnbjbboeaa
open Go.ChangeShapes Go.WideShapes Go.ChangeAt Go.RowKit
set_option linter.unusedVariables false
set_option linter.unusedSimpArgs false

end Go.Proofs.Ytcjgdfnbjbboeaa

namespace Go.Proofs.Ytcjgdfnbjbboeaa
open Go.ChangeShapes Go.WideShapes Go.ChangeAt Go.RowKit
set_option linter.unusedVariables false
set_option linter.unusedSimpArgs false

theorem pow_le_int (a b : Nat) (h : a ≤ b) : (2 : Int) ^ a ≤ 2 ^ b := by
  have h1 : 2 ^ a ≤ 2 ^ b := Nat.pow_le_pow_right (by decide) h
  have e : ((2 ^ a : Nat) : Int) ≤ ((2 ^ b : Nat) : Int) := by omega
  rw [Int.natCast_pow, Int.natCast_pow] at e
  exact e

theorem len_bl (L : List Int) (hL : Dg L) (hne : L ≠ []) (hl : L.getD (L.length - 1) 0 ≠ 0) : 30 * L.length ≤ bl (nv L) + 29 ∧ bl (nv L) ≤ 30 * L.length := by
  have h1 := le_bl _ _ (nv_ge L hL hl)
  have h2 := bl_le _ _ (nv_lt L hL)
  have := List.length_pos_iff.2 hne
  omega

end Go.Proofs.Ytcjgdfnbjbboeaa

namespace Go.Proofs.Ytcjgdfnbjbboeaa
open Go.ChangeShapes Go.WideShapes Go.ChangeAt Go.RowKit
set_option linter.unusedVariables false
set_option linter.unusedSimpArgs false

theorem sg_neg (n : Bool) (a : Int) (h : 0 < a) : decide (sg n a < 0) = n ∧ (sg n a).natAbs = a.toNat := by
  cases n <;> simp [sg] <;> omega

theorem wrap64_id (x : Int) (h1 : -1048576 ≤ x) (h2 : x ≤ 1048576) : wrap64 x = x := by unfold wrap64; omega
/-- A number that lies alone in its columns. -/
theorem alone (n1 : Bool) (L1 : List Int) (x1 : Int) (hne1 : L1 ≠ []) (hv1 : vld ⟨n1, L1, x1⟩ = true) (n : Nat) (hn : L1.length < n) (C : List Int) (hC : layL (List.replicate n 0) 0 (dsh n1 0 L1) = C) :
    C.length = n ∧ (∀ j, -2147483648 ≤ C.getD j 0 ∧ C.getD j 0 ≤ 2147483648) ∧ cv C = sg n1 (nv L1) ∧ -(2 : Int) ^ (30 * n) < sg n1 (nv L1) ∧ sg n1 (nv L1) < (2 : Int) ^ (30 * n) ∧ frm (decide (sg n1 (nv L1) < 0)) (sg n1 (nv L1)).natAbs x1 = some ⟨n1, L1, x1⟩ := by
  obtain ⟨p1, p2, p3, p4, p5, p6⟩ := vld_some n1 L1 x1 hne1 hv1
  have l1 := List.length_pos_iff.2 hne1
  have b1 := len_bl L1 p2 hne1 p3
  have hpos : 0 < nv L1 := by
    rcases Nat.eq_zero_or_pos (nv L1) with h | h
    · exact absurd ((nv_zero L1 p2).1 h (L1.length - 1)) p3
    · exact h
  have hsg := sg_neg n1 (nv L1 : Int) (by omega)
  have hlt := nv_lt L1 p2
  have hP := pow_le_int (30 * L1.length) (30 * n) (by omega)
  have e : ((2 ^ (30 * L1.length) : Nat) : Int) = (2 : Int) ^ (30 * L1.length) := by rw [Int.natCast_pow]; rfl
  have hlt2 : (nv L1 : Int) < (2 : Int) ^ (30 * L1.length) := by rw [← e]; omega
  have hS := sg_abs n1 (nv L1 : Int) _ (by omega) hlt2
  refine ⟨by rw [← hC, layL_length, List.length_replicate], ?_, ?_, by omega, by omega, ?_⟩
  · have := layL_bound (List.replicate n 0) 0 (dsh n1 0 L1) 0 (by omega) (by rw [dsh_length, List.length_replicate]; omega) (dsh_bound n1 0 (by omega) L1 p2) (fun j _ => by rw [getD_replicate]; omega) (by rw [getD_replicate]; omega) (fun j _ => by rw [getD_replicate]; omega)
    rw [hC] at this
    intro j
    have := this j
    omega
  · rw [← hC, layL_val _ _ _ (by rw [dsh_length, List.length_replicate]; omega), nv_replicate, dsh_val _ _ _ p2]
    simp
  · rw [hsg.1, hsg.2, Int.toNat_natCast]
    rw [frm_odd n1 n1 L1 x1 x1 hne1 hv1, wrap64_id x1 p5 p6, if_pos ⟨p5, p6⟩]

end Go.Proofs.Ytcjgdfnbjbboeaa

namespace Go.Proofs.Ytcjgdfnbjbboeaa
open Go.ChangeShapes Go.WideShapes Go.ChangeAt Go.RowKit
set_option linter.unusedVariables false
set_option linter.unusedSimpArgs false

end Go.Proofs.Ytcjgdfnbjbboeaa

namespace Go.Proofs.Ytcjgdfnbjbboeaa
open Go.ChangeShapes Go.WideShapes Go.ChangeAt Go.RowKit
set_option linter.unusedVariables false
set_option linter.unusedSimpArgs false

theorem cv_take (L : List Int) (j : Nat) (hj : j < L.length) : cv (L.take (j + 1)) = cv (L.take j) + L.getD j 0 * 2 ^ (30 * j) := by
  induction L generalizing j with
  | nil => simp at hj
  | cons d L ih =>
    cases j with
    | zero => simp [cv]
    | succ j =>
      have e := pow30i j
      simp only [List.take_succ_cons, cv, List.getD_cons_succ]
      rw [ih j (by simpa using hj), e, Int.mul_left_comm (L.getD j 0)]
      generalize L.getD j 0 * 2 ^ (30 * j) = z
      omega
theorem cv_put (D : List Int) (i : Nat) (hi : i < D.length) (d : Int) : cv (D.set i d) = cv D + (d - D.getD i 0) * 2 ^ (30 * i) := by
  have := cv_set D i hi (d - D.getD i 0)
  rw [show D.getD i 0 + (d - D.getD i 0) = d by omega] at this
  exact this
theorem Dg.put {D : List Int} (h : Dg D) (i : Nat) (d : Int) (h0 : 0 ≤ d) (h1 : d < 1073741824) : Dg (D.set i d) := fun x hx => by
  rcases List.mem_or_eq_of_mem_set hx with h2 | h2
  · exact h x h2
  · rw [h2]; exact ⟨h0, h1⟩

structure PRow (A B : List Int) (n i j : Nat) (D : List Int) (o : Int) : Prop where
  len : D.length = n
  dg : Dg D
  o0 : 0 ≤ o
  o1 : o < 1073741824
  val : cv D + o * 2 ^ (30 * (i + j)) = cv (A.take i) * cv B + A.getD i 0 * cv (B.take j) * 2 ^ (30 * i)
  zero : ∀ k, i + B.length ≤ k → D.getD k 0 = 0

theorem PRow.start {A B : List Int} {n i : Nat} {D : List Int} (h1 : D.length = n) (h2 : Dg D) (h3 : cv D = cv (A.take i) * cv B) (h4 : ∀ k, i + B.length ≤ k → D.getD k 0 = 0) : PRow A B n i 0 D 0 :=
  ⟨h1, h2, by omega, by omega, by simp [cv, h3], h4⟩

theorem mul_lt_60 (a b : Int) (h0 : 0 ≤ a) (h1 : a < 1073741824) (g0 : 0 ≤ b) (g1 : b < 1073741824) : 0 ≤ a * b ∧ a * b ≤ 1152921502459363329 := by
  have e1 : 0 ≤ a * b := Int.mul_nonneg h0 g0
  have e2 : a * b ≤ 1073741823 * 1073741823 := Int.mul_le_mul (by omega) (by omega) g0 (by omega)
  exact ⟨e1, by omega⟩

theorem PRow.step {A B : List Int} {n i j : Nat} {D : List Int} {o : Int} (h : PRow A B n i j D o) (hA : Dg A) (hB : Dg B) (hj : j < B.length) (hn : i + j < n) (T : Int) (hT : o + D.getD (i + j) 0 + A.getD i 0 * B.getD j 0 = T) :
    PRow A B n i (j + 1) (D.set (i + j) (T % 1073741824)) (T / 1073741824) := by
  have hd := h.dg.getD (i + j)
  have ha := hA.getD i
  have hb := hB.getD j
  have hm := mul_lt_60 _ _ ha.1 ha.2 hb.1 hb.2
  have o0 := h.o0
  have o1 := h.o1
  refine ⟨by rw [List.length_set]; exact h.len, h.dg.put _ _ (by omega) (by omega), by omega, by omega, ?_, ?_⟩
  · rw [cv_put D (i + j) (by rw [h.len]; exact hn), cv_take B j hj]
    have hv := h.val
    have e1 : (2 : Int) ^ (30 * (i + (j + 1))) = 1073741824 * 2 ^ (30 * (i + j)) := pow30i (i + j)
    have e2 : (2 : Int) ^ (30 * (i + j)) = 2 ^ (30 * j) * 2 ^ (30 * i) := by rw [show 30 * (i + j) = 30 * j + 30 * i by omega, Int.pow_add]
    have e3 : A.getD i 0 * (cv (B.take j) + B.getD j 0 * 2 ^ (30 * j)) * 2 ^ (30 * i) = A.getD i 0 * cv (B.take j) * 2 ^ (30 * i) + A.getD i 0 * B.getD j 0 * 2 ^ (30 * (i + j)) := by
      rw [e2, Int.mul_add, Int.add_mul]
      congr 1
      simp only [Int.mul_assoc]
    rw [e3, e1]
    generalize A.getD i 0 * B.getD j 0 = m at *
    generalize (2 : Int) ^ (30 * (i + j)) = P at *
    generalize D.getD (i + j) 0 = d at *
    have hTT : T = 1073741824 * (T / 1073741824) + T % 1073741824 := by omega
    have e4 : (T % 1073741824 - d) * P + T / 1073741824 * (1073741824 * P) = (T - d) * P := by
      rw [← Int.mul_assoc, ← Int.add_mul]
      congr 1
      omega
    have e5 : (T - d) * P = o * P + m * P := by
      rw [← Int.add_mul]
      congr 1
      omega
    omega
  · intro k hk
    rw [getD_set D (i + j) k _ (by rw [h.len]; exact hn), if_neg (by omega)]
    exact h.zero k hk

theorem PRow.last {A B : List Int} {n : Nat} {D : List Int} {o : Int} (h : PRow A B n A.length 0 D o) (ho : o = 0) (hA : Dg A) (hB : Dg B) : Dg D ∧ nv D = nv A * nv B := by
  refine ⟨h.dg, ?_⟩
  have hv := h.val
  subst ho
  rw [List.take_length, cv_nv D h.dg, cv_nv A hA, cv_nv B hB] at hv
  simp only [List.take_zero, cv, Int.zero_mul, Int.mul_zero, Int.add_zero] at hv
  have : ((nv D : Nat) : Int) = ((nv A * nv B : Nat) : Int) := by rw [hv, Int.natCast_mul]
  omega

end Go.Proofs.Ytcjgdfnbjbboeaa

namespace Go.Proofs.Ytcjgdfnbjbboeaa
open Go.ChangeShapes Go.WideShapes Go.ChangeAt Go.RowKit
set_option linter.unusedVariables false
set_option linter.unusedSimpArgs false

/-! ### Plain -/
end Go.Proofs.Ytcjgdfnbjbboeaa
