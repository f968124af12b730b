/- RngWords. -/
import Derived.Test.YtfanggjinedafaaG10
namespace Go.Proofs.Ytfanggjinedafaa
open Go.ChangeShapes Go.WideShapes Go.ChangeAt Go.RowKit
set_option linter.unusedVariables false

set_option maxHeartbeats 1000000 in
theorem rngWords_true (s t a i k : Int) (w : World) : Calls Try.prog 3 #[.agg #[.int .i64 s, .int .i64 t, .int .i64 a], .int .i64 i, .int .i64 k] w fun e w' => e = .returned (.bool true) ∧ Kept w w' := by
  have d0 := dr_new w s t a 23
  have k0 := (Kept.refl w).alloc #[.int .i64 s, .int .i64 t, .int .i64 a] 23
  go_enter Try.func3, Try.ntmps3
  go_wp2_with fail
  refine (galive_true _).mono ?_
  rintro e w1 ⟨rfl, hk1⟩
  obtain ⟨c0, c1, c2⟩ := d0.kept hk1
  go_wp2_with fail
  refine (words_true s t a i k _).mono ?_
  rintro e w2 ⟨rfl, hk2⟩
  go_wp2
  go_ret
  exact ⟨rfl, (k0.trans hk1).trans hk2⟩

end Go.Proofs.Ytfanggjinedafaa
