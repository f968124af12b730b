/- The document's Both; the walk of TensorBoth. -/
import Derived.Test.YtckcfdkffjkkbaaT8
namespace Go.Proofs.Ytckcfdkffjkkbaa
open Go.ChangeShapes Go.WideShapes Go.ChangeAt Go.RowKit
set_option linter.unusedVariables false
set_option linter.unusedSimpArgs false

set_option maxHeartbeats 400000 in
theorem greater_any (x y : Int) (w : World) : Calls Try.prog 61 #[.int .i64 x, .int .i64 y] w fun e w' => e = .returned (.int .i64 (max x y)) ∧ w = w' := by
  by_cases h : y < x
  · have : max x y = x := by omega
    rw [this]
    clear this
    go_enter Try.func61, Try.ntmps61
    go_wp2
    go_ret
    exact ⟨rfl, rfl⟩
  · have : max x y = y := by omega
    rw [this]
    clear this
    go_enter Try.func61, Try.ntmps61
    go_wp2
    go_ret
    exact ⟨rfl, rfl⟩

theorem bth_sized (ra ca na rb cb : Int) (hn : na = 64 ∨ na = 32) (h : shr ra rb ∧ shr ca cb) : ckS (max ra rb) (max ca cb) na = ckR (max ra rb) (max ca cb) := by
  unfold ckS
  have := h.1
  have := h.2
  rw [if_neg (fun k => k hn), if_neg (by omega)]

end Go.Proofs.Ytckcfdkffjkkbaa
