/- The walks of Neg, Abs, Canon, Next of package bits: what each call gives, width by width. Neg, Abs, Canon, Next, Prev of package bits: one contract each, for every int and every width. -/
import Derived.Test.YtocjfdiimapojaaCore
namespace Go.Proofs.Ytocjfdiimapojaa
open Go.ChangeShapes Go.WideShapes Go.ChangeAt Go.RowKit
set_option linter.unusedSimpArgs false

end Go.Proofs.Ytocjfdiimapojaa

namespace Go.Proofs.Ytocjfdiimapojaa
open Go.ChangeShapes Go.WideShapes Go.ChangeAt Go.RowKit

theorem cls_num_64 (b : Int) (h : cls b 64 ≠ 4) : b % 9223372036854775808 ≤ 9218868437227405312 := by
  unfold cls clsOf at h
  rw [if_pos rfl] at h
  split at h <;> omega

theorem cls_num_32 (b : Int) (h : cls b 32 ≠ 4) : b % 2147483648 ≤ 2139095040 := by
  have hv := cls_valid b h
  unfold cls clsOf at h
  rw [if_neg (by decide), if_pos rfl, if_pos hv] at h
  split at h <;> omega

theorem nanOf_bd (n : Int) : -9223372036854775808 ≤ nanOf n ∧ nanOf n ≤ 9223372036854775807 := by
  unfold nanOf
  (repeat' split) <;> omega

theorem isnum_inv (b n : Int) (h : isnum b n = true) : (n = 64 ∧ cls b 64 ≠ 4) ∨ (n = 32 ∧ cls b 32 ≠ 4) := by
  simp only [isnum, decide_eq_true_eq] at h
  rcases h with ⟨rfl | rfl, h⟩
  · exact Or.inl ⟨rfl, h⟩
  · exact Or.inr ⟨rfl, h⟩

theorem ngt_bd (b n : Int) (hb1 : -9223372036854775808 ≤ b) (hb2 : b ≤ 9223372036854775807) : -9223372036854775808 ≤ ngt b n ∧ ngt b n ≤ 9223372036854775807 := by
  have := nanOf_bd n
  by_cases hi : isnum b n = true
  · rcases isnum_inv b n hi with ⟨rfl, hc⟩ | ⟨rfl, hc⟩
    · unfold ngt; rw [if_pos hi, if_pos rfl]; split <;> omega
    · have hv := cls_valid b hc
      unfold ngt; rw [if_pos hi, if_neg (by decide : ¬ (32 : Int) = 64)]; split <;> omega
  · unfold ngt; rw [if_neg hi]; exact this

theorem nxt_bd (b n : Int) (hb1 : -9223372036854775808 ≤ b) (hb2 : b ≤ 9223372036854775807) : -9223372036854775808 ≤ nxt b n ∧ nxt b n ≤ 9223372036854775807 := by
  have := nanOf_bd n
  by_cases hi : isnum b n = true
  · rcases isnum_inv b n hi with ⟨rfl, hc⟩ | ⟨rfl, hc⟩
    · have := cls_num_64 b hc
      unfold nxt; rw [if_pos hi, if_pos rfl]; (repeat' split) <;> omega
    · have hv := cls_valid b hc
      unfold nxt; rw [if_pos hi, if_neg (by decide : ¬ (32 : Int) = 64)]; (repeat' split) <;> omega
  · unfold nxt; rw [if_neg hi]; exact this

def prv (b n : Int) : Int := ngt (nxt (ngt b n) n) n

end Go.Proofs.Ytocjfdiimapojaa
