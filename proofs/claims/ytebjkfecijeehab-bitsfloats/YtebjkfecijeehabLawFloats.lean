/- The document's own NaN, and the facts on one pattern that the law BitsFloats turns on. -/
import Derived.Test.YtebjkfecijeehabFPat
import Derived.Test.YtebjkfecijeehabAlive
import Derived.Test.YtebjkfecijeehabRef2
namespace Go.Proofs.Ytebjkfecijeehab
open Go.ChangeShapes Go.WideShapes Go.ChangeAt Go.RowKit

set_option maxHeartbeats 400000 in
theorem rnan_any (b n : Int) (hb1 : -9223372036854775808 ≤ b) (hb2 : b ≤ 9223372036854775807) (w : World) : Calls Try.prog 9 #[.int .i64 b, .int .i64 n] w fun e w' => e = .returned (.bool (cls b n == 4)) ∧ Kept w w' := by
  go_enter Try.func9, Try.ntmps9
  go_wp2_with (first | (go_at_call 34; refine (rclass_any _ _ hb1 hb2 _).mono ?_; rintro e w2 ⟨rfl, hk2⟩))
  go_ret
  exact ⟨rfl, hk2⟩

theorem facts_64 (b : Int) (hb1 : -9223372036854775808 ≤ b) (hb2 : b ≤ 9223372036854775807) : ((cls b 64 == 4) = true ∧ (FloatKind.f64.format.order (pat64 b) (pat64 b) != some .eq) = true ∧ of64 (pat64 b) = 9221120237041090561) ∨ ((cls b 64 == 4) = false ∧ (FloatKind.f64.format.order (pat64 b) (pat64 b) != some .eq) = false ∧ of64 (pat64 b) = b) := by
  have h := of64_pat b hb1 hb2
  by_cases hc : cls b 64 = 4
  · exact Or.inl ⟨by simpa using hc, by rw [self_64]; exact decide_eq_true ((nan_64 b).1 hc), by rw [h, if_pos hc]⟩
  · exact Or.inr ⟨by simpa using hc, by rw [self_64]; exact decide_eq_false (fun g => hc ((nan_64 b).2 g)), by rw [h, if_neg hc]⟩

theorem facts_32 (b : Int) : ((cls b 32 == 4) = true ∧ (FloatKind.f32.format.order (pat32 b) (pat32 b) != some .eq) = true ∧ of32 (pat32 b) = 2143289345) ∨ ((cls b 32 == 4) = false ∧ (FloatKind.f32.format.order (pat32 b) (pat32 b) != some .eq) = false ∧ of32 (pat32 b) = b) := by
  have h := of32_pat b
  by_cases hc : cls b 32 = 4
  · exact Or.inl ⟨by simpa using hc, by rw [self_32]; exact decide_eq_true ((nan_32 b).1 hc), by rw [h, if_pos hc]⟩
  · exact Or.inr ⟨by simpa using hc, by rw [self_32]; exact decide_eq_false (fun g => hc ((nan_32 b).2 g)), by rw [h, if_neg hc]⟩

end Go.Proofs.Ytebjkfecijeehab
