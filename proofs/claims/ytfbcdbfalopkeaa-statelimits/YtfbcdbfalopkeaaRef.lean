/- The walks of the document's own Of, cut, Valid, Class, Parts: what each call gives, for every int and every width. -/
import Derived.Test.YtfbcdbfalopkeaaParts
namespace Go.Proofs.Ytfbcdbfalopkeaa
open Go.ChangeShapes Go.WideShapes Go.ChangeAt Go.RowKit

/-! ### One contract a width, for every pattern -/
def thr (b : Int) : Bool := decide (0 ≤ b ∧ b < 4294967296)
def fld64 (b : Int) : Int := b % 9223372036854775808 / 4503599627370496
def frc64 (b : Int) : Int := b % 4503599627370496
def fld32 (b : Int) : Int := if thr b = true then b % 2147483648 / 8388608 else 0
def frc32 (b : Int) : Int := if thr b = true then b % 8388608 else 0
def sg32 (b : Int) : Bool := thr b && sgn b 32

theorem ret_bool {a b : Bool} (h : a = b) : Ending.returned (.bool a) = .returned (.bool b) := by rw [h]

theorem cls_64_eq (b : Int) : cls b 64 = if (fld64 b = 2047 ∧ 0 < frc64 b) then 4 else if fld64 b = 2047 then 3 else if 0 < fld64 b then 2 else if 0 < frc64 b then 1 else 0 := by
  unfold cls clsOf fld64 frc64
  rw [if_pos rfl]
  (repeat' split) <;> omega

theorem cls_32_eq (b : Int) : cls b 32 = if (thr b = false ∨ fld32 b = 255 ∧ 0 < frc32 b) then 4 else if fld32 b = 255 then 3 else if 0 < fld32 b then 2 else if 0 < frc32 b then 1 else 0 := by
  unfold cls
  rw [if_neg (by decide), if_pos rfl]
  by_cases hv : 0 ≤ b ∧ b < 4294967296
  · have ht : thr b = true := by simp [thr, hv]
    rw [if_pos hv]
    simp only [fld32, frc32, ht, if_true, Bool.true_eq_false, false_or]
    unfold clsOf
    (repeat' split) <;> omega
  · have ht : thr b = false := by simp [thr]; omega
    rw [if_neg hv, if_pos (Or.inl ht)]

end Go.Proofs.Ytfbcdbfalopkeaa
