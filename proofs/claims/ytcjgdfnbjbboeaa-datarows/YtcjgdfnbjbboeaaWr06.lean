/- The walks of the closures that clone and form: Make's, Neg's, Scale's. The walks of exact's Make, Neg, Scale, Sign, Int. The walks of exact's Neg, Scale, Sign, Int. The walks of the laws' own Same and SameNum at what is the same. -/
import Derived.Test.YtcjgdfnbjbboeaaWr05
import Derived.Test.YtcjgdfnbjbboeaaWr04
namespace Go.Proofs.Ytcjgdfnbjbboeaa
open Go.ChangeShapes Go.WideShapes Go.ChangeAt Go.RowKit
set_option linter.unusedVariables false
set_option linter.unusedSimpArgs false

end Go.Proofs.Ytcjgdfnbjbboeaa

namespace Go.Proofs.Ytcjgdfnbjbboeaa
open Go.ChangeShapes Go.WideShapes Go.ChangeAt Go.RowKit
set_option linter.unusedVariables false
set_option linter.unusedSimpArgs false

end Go.Proofs.Ytcjgdfnbjbboeaa

namespace Go.Proofs.Ytcjgdfnbjbboeaa
open Go.ChangeShapes Go.WideShapes Go.ChangeAt Go.RowKit
set_option linter.unusedVariables false
set_option linter.unusedSimpArgs false

theorem and_one (d : Int) : bits .and .i64 d 1 = d % 2 := by
  have e : (BitVec.ofInt 64 1 : BitVec 64).toNat = 2 ^ 1 - 1 := by decide
  have h := ofInt_toNat d
  rw [bits_and, BitVec.toNat_and, e, Nat.and_two_pow_sub_one_eq_mod, wrap_i64]
  omega

/-- What a valid number that is not 0 says of itself. -/
theorem vld_some (neg : Bool) (L : List Int) (x : Int) (hne : L ≠ []) (h : vld ⟨neg, L, x⟩ = true) : L.length ≤ 2000 ∧ Dg L ∧ L.getD (L.length - 1) 0 ≠ 0 ∧ L.getD 0 0 % 2 = 1 ∧ -1048576 ≤ x ∧ x ≤ 1048576 := by
  unfold vld vldN at h
  simp only [hne, if_false, Bool.and_eq_true, decide_eq_true_eq, bne_iff_ne, beq_iff_eq, and_one] at h
  obtain ⟨⟨⟨⟨⟨h1, h2⟩, h3⟩, h4⟩, h5⟩, h6⟩ := h
  exact ⟨by omega, (dgb_iff L).1 h2, h3, h4, h5, h6⟩
theorem nv_odd (L : List Int) (hL : Dg L) (h : L.getD 0 0 % 2 = 1) : nv L % 2 = 1 := by
  have h1 := nv_getD L hL 0
  have h2 := hL.getD 0
  rw [Nat.mul_zero, Nat.pow_zero, Nat.div_one] at h1
  omega
theorem frm_odd (neg b : Bool) (L : List Int) (x y : Int) (hne : L ≠ []) (h : vld ⟨neg, L, x⟩ = true) : frm b (nv L) y = if -1048576 ≤ wrap64 y ∧ wrap64 y ≤ 1048576 then some ⟨b, L, wrap64 y⟩ else none := by
  obtain ⟨h1, h2, h3, h4, h5, h6⟩ := vld_some neg L x hne h
  have ho := nv_odd L h2 h4
  have hz := tzn_odd _ ho
  have hb := bl_le _ _ (nv_lt L h2)
  have hd := digs_nv L h2 (.inr h3)
  unfold frm
  rw [if_neg (by omega), hz]
  simp only [Nat.pow_zero, Nat.div_one, hd, Int.natCast_zero, Int.add_zero, Nat.sub_zero]
  by_cases hy : -1048576 ≤ wrap64 y ∧ wrap64 y ≤ 1048576
  · rw [if_pos hy, if_pos ⟨by omega, hy⟩]
  · rw [if_neg hy, if_neg (fun hh => hy hh.2)]
end Go.Proofs.Ytcjgdfnbjbboeaa

namespace Go.Proofs.Ytcjgdfnbjbboeaa
open Go.ChangeShapes Go.WideShapes Go.ChangeAt Go.RowKit
set_option linter.unusedVariables false
set_option linter.unusedSimpArgs false

end Go.Proofs.Ytcjgdfnbjbboeaa
