/- The document's Both: shapes that do not fit. -/
import Derived.Test.YtckcfdkffjkkbaaT9
import Derived.Deep.CutRange
namespace Go.Proofs.Ytckcfdkffjkkbaa
open Go.ChangeShapes Go.WideShapes Go.ChangeAt Go.RowKit
set_option linter.unusedVariables false
set_option linter.unusedSimpArgs false

set_option maxHeartbeats 20000000 in
set_option maxRecDepth 100000 in
theorem rboth_bad (ra ca na rb cb : Int) (w : World)
    (X4 : ra < 1 ∨ (¬ ra < 1 ∧ ca < 1) ∨ (¬ ra < 1 ∧ ¬ ca < 1 ∧ rb < 1) ∨ (¬ ra < 1 ∧ ¬ ca < 1 ∧ ¬ rb < 1 ∧ cb < 1) ∨ (¬ ra < 1 ∧ ¬ ca < 1 ∧ ¬ rb < 1 ∧ ¬ cb < 1 ∧ ((ra != rb) = true ∧ (ra != 1) = true ∧ (rb != 1) = true)) ∨ (¬ ra < 1 ∧ ¬ ca < 1 ∧ ¬ rb < 1 ∧ ¬ cb < 1 ∧ (((ra != rb) = false) ∨ ((ra != rb) = true ∧ (ra != 1) = false) ∨ ((ra != rb) = true ∧ (ra != 1) = true ∧ (rb != 1) = false)) ∧ ((ca != cb) = true ∧ (ca != 1) = true ∧ (cb != 1) = true)))
    (KV' : Hid (∀ u, Calls Try.prog 53 #[.int .i64 na] u fun e w' => e = .returned (.bool true) ∧ u = w')) :
    Calls Try.prog 28 #[.agg #[.int .i64 ra, .int .i64 ca, .int .i64 na], .agg #[.int .i64 rb, .int .i64 cb, .int .i64 na]] w fun e w' => e = .returned (.tuple #[zeroShape, .int .i64 4]) ∧ Kept w w' := by
  obtain ⟨hA, hB, hR, hF, hK, hs⟩ := b2_facts w ra ca na rb cb na
  obtain ⟨X, hX⟩ : ∃ X, X = b2W w ra ca na rb cb na := ⟨_, rfl⟩
  rw [← hX] at hA hB hR hF hK hs
  have P0 := M3.put X _ _ _ _ hR (.int .i64 0) (.int .i64 0) (.int .i64 0)
  have hK0 := (hK.setCell (p := ⟨w.heap.size + 2, 0, none⟩) (by simp) (.int .i64 0)).setCell (p := ⟨w.heap.size + 2, 1, none⟩) (by simp) (.int .i64 0) |>.setCell (p := ⟨w.heap.size + 2, 2, none⟩) (by simp) (.int .i64 0)
  unfold b2W at hX
  have g32 : (na != na) = false := by simp
  have HX4 : Hid _ := X4
  clear X4
  go_enter Try.func28, Try.ntmps28
  go_upto_region 1 with fail
  rw [← hX]
  clear hX
  obtain ⟨a0, a1, a2⟩ := hA
  obtain ⟨b0, b1, b2⟩ := hB
  go_upto_region 4 with (first | (go_at_call 53; refine (KV'.out _).mono ?_; rintro e w1 ⟨rfl, rfl⟩))
  go_cut [73] from 22 to 73 (fun t wx => t = .bool true ∧ wx = X)
  case first =>
    rcases HX4.out with i1 | ⟨i1, i2⟩ | ⟨i1, i2, i3⟩ | ⟨i1, i2, i3, i4⟩ | ⟨i1, i2, i3, i4, e1, e2, e3⟩ | ⟨i1, i2, i3, i4, (e1 | ⟨e1, e2⟩ | ⟨e1, e2, e3⟩), d1, d2, d3⟩
    all_goals
      clear HX4
      go_wp2_with fail
      go_meet
      exact ⟨rfl, rfl⟩
  case rest =>
    obtain ⟨rfl, rfl⟩ := hcut
    obtain ⟨r0, r1, r2⟩ := hR
    obtain ⟨p0, p1, p2⟩ := P0
    clear HX4
    go_wp2_with fail
    exact bodyPost_ret (v := .tuple #[zeroShape, .int .i64 4]) (by simp [results, Try.results28, go_sem, *]) rfl ⟨rfl, hK0⟩
end Go.Proofs.Ytckcfdkffjkkbaa
