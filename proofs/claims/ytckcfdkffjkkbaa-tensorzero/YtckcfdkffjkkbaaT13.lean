/- The walk of TensorZero, at every input. -/
import Derived.Test.YtckcfdkffjkkbaaT11b
import Derived.Test.YtckcfdkffjkkbaaT12
namespace Go.Proofs.Ytckcfdkffjkkbaa
open Go.ChangeShapes Go.WideShapes Go.ChangeAt Go.RowKit
set_option linter.unusedVariables false

theorem tensorZero_true (r c n : Int) (w : World) : Calls Try.prog 4 #[.int .i64 r, .int .i64 c, .int .i64 n] w fun e w' => e = .returned (.bool true) ∧ Below w.heap.size w w' := by
  by_cases h : ckS r c n = 0
  · obtain ⟨hn, hr, hc, hrc⟩ := ckS_ok h
    obtain ⟨R, rfl⟩ := Int.eq_ofNat_of_zero_le (show 0 ≤ r by omega)
    obtain ⟨C, rfl⟩ := Int.eq_ofNat_of_zero_le (show 0 ≤ c by omega)
    have hle : R * C ≤ 4096 := by
      have : ((R * C : Nat) : Int) ≤ 4096 := by simpa using hrc
      omega
    refine (tz_ok R C n hn h (R * C) rfl hle w (fun u => rzero_ok R C n (R * C) rfl hle u)).mono ?_
    rintro e w' ⟨rfl, k⟩
    exact ⟨rfl, k.below⟩
  · refine (tz_err r c n h w).mono ?_
    rintro e w' ⟨rfl, k⟩
    exact ⟨rfl, k.below⟩
end Go.Proofs.Ytckcfdkffjkkbaa
