/- The walk of Parts of package bits: what the call gives, for every int and every width. -/
import Derived.Test.YtocjfdiimapojaaCore
namespace Go.Proofs.Ytocjfdiimapojaa
open Go.ChangeShapes Go.WideShapes Go.ChangeAt Go.RowKit

theorem wf_bounds {b : Int} (h : (Lit.int .i64 b).wf = true) : -9223372036854775808 ≤ b ∧ b ≤ 9223372036854775807 := by
  simpa [Lit.wf, IntKind.min, IntKind.max, IntKind.bits, IntKind.signed] using h

theorem ret_parts {p q p' q' : Bool} {a c a' c' : Int} (h1 : p = p') (h2 : a = a') (h3 : c = c') (h4 : q = q') : Ending.returned (.tuple #[.bool p, .int .i64 a, .int .i64 c, .bool q]) = .returned (.tuple #[.bool p', .int .i64 a', .int .i64 c', .bool q']) := by rw [h1, h2, h3, h4]

theorem sgn_64 (b : Int) (h1 : -9223372036854775808 ≤ b) (h2 : b ≤ 9223372036854775807) : (bits .and .i64 b (-9223372036854775808) != 0) = sgn b 64 := by
  rw [and_min b h1 h2]
  unfold sgn
  rw [if_pos rfl]
  by_cases h : b < 0 <;> simp [h]

theorem sgn_32 (b : Int) (h1 : 0 ≤ b) (h2 : b < 4294967296) : (bits .and .i64 b 2147483648 != 0) = sgn b 32 := by
  have e : sgn b 32 = decide (2147483648 ≤ b) := by simp [sgn]
  rw [and_31 b h1 h2, e]
  by_cases h : b < 2147483648
  · rw [if_pos h, decide_eq_false (by omega)]; rfl
  · rw [if_neg h, decide_eq_true (by omega)]; rfl

end Go.Proofs.Ytocjfdiimapojaa
