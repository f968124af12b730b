/- Zero of the document. -/
import Derived.Test.YtckcfdkffjkkbaaT10
namespace Go.Proofs.Ytckcfdkffjkkbaa
open Go.ChangeShapes Go.WideShapes Go.ChangeAt Go.RowKit
set_option linter.unusedVariables false
set_option linter.unusedSimpArgs false

abbrev rzW (w : World) (r c n : Int) : World := (w.alloc (.cells #[.int .i64 r, .int .i64 c, .int .i64 n] 44)).alloc (.cells #[.int .i64 0, .int .i64 0, .int .i64 0, .slice none 0 0] 24)
set_option maxHeartbeats 20000000 in
set_option maxRecDepth 100000 in
theorem rzero_ok (R C : Nat) (n : Int) (rc : Nat) (hrc : R * C = rc) (hRC : rc ≤ 4096) (w : World) : Calls Try.prog 22 #[.agg #[.int .i64 R, .int .i64 C, .int .i64 n]] w fun e w' => ∃ g, e = .returned (.agg #[.int .i64 R, .int .i64 C, .int .i64 n, .slice (some ⟨g, 0, none⟩) rc rc]) ∧ Own w' g rc (List.replicate rc 0) ∧ Kept w w' := by
  obtain ⟨X, hX⟩ : ∃ X, X = rzW w R C n := ⟨_, rfl⟩
  have hK : Kept w X := by rw [hX]; exact ((Kept.refl w).alloc _ _).alloc _ _
  have hXs : X.heap.size = w.heap.size + 2 := by rw [hX]; simp
  have hw : IntKind.i64.wrap ((R : Int) * (C : Int)) = (rc : Int) := by
    have : (R : Int) * (C : Int) = ((R * C : Nat) : Int) := by simp
    rw [wrap_i64, this, hrc]
    omega
  have hmk : ∀ u : World, (Instr.makeSlice 22 (.int .i64 (rc : Int)) (.int .i64 (rc : Int))).run Try.prog u = .ok (.slice (some ⟨u.heap.size, 0, none⟩) rc rc) (u.alloc (.cells (madeCells #[.int .i64 0] rc) 3)) := fun u => make_run _ _ (Nat.le_refl _) (by omega) u
  have hR : M4 X (w.heap.size + 1) (.int .i64 0) (.int .i64 0) (.int .i64 0) (.slice none 0 0) := by rw [hX]; exact ⟨by simp [go_sem], by simp [go_sem], by simp [go_sem], by simp [go_sem]⟩
  have hS : M3 X w.heap.size (.int .i64 R) (.int .i64 C) (.int .i64 n) := by rw [hX]; exact ⟨by simp [go_sem], by simp [go_sem], by simp [go_sem]⟩
  have hF : ∀ o, X.frozen? ⟨w.heap.size + 1, o, none⟩ = false := fun o => by rw [hX]; simp [go_sem]
  unfold rzW at hX
  clear hrc
  go_enter Try.func22, Try.ntmps22
  go_upto_region 1 with fail
  rw [← hX]
  clear hX
  obtain ⟨s0, s1, s2⟩ := hS
  obtain ⟨r0, r1, r2, r3⟩ := hR
  go_region
  all_goals go_wp2_with fail
  have hRX : M4 X (w.heap.size + 1) (.int .i64 0) (.int .i64 0) (.int .i64 0) (.slice none 0 0) := M4.mk r0 r1 r2 r3
  have hPX := res4 X _ _ _ _ _ hRX (.int .i64 R) (.int .i64 C) (.int .i64 n) (.slice (some ⟨w.heap.size + 2, 0, none⟩) rc rc)
  have hKX := ((((hK.setCell (p := ⟨w.heap.size + 1, 0, none⟩) (by simp) (.int .i64 R)).setCell (p := ⟨w.heap.size + 1, 1, none⟩) (by simp) (.int .i64 C)).setCell (p := ⟨w.heap.size + 1, 2, none⟩) (by simp) (.int .i64 n)).setCell (p := ⟨w.heap.size + 1, 3, none⟩) (by simp) (.slice (some ⟨w.heap.size + 2, 0, none⟩) rc rc))
  obtain ⟨Q, hQ⟩ : ∃ Q, Q = ((((X.setCell ⟨w.heap.size + 1, 0, none⟩ (.int .i64 R)).setCell ⟨w.heap.size + 1, 1, none⟩ (.int .i64 C)).setCell ⟨w.heap.size + 1, 2, none⟩ (.int .i64 n)).setCell ⟨w.heap.size + 1, 3, none⟩ (.slice (some ⟨w.heap.size + 2, 0, none⟩) rc rc)) := ⟨_, rfl⟩
  have hQs : Q.heap.size = w.heap.size + 2 := by rw [hQ]; simp [hXs]
  rw [← hQ] at hPX hKX
  have ho := (own_made rc rc (Nat.le_refl _) (by omega) Q).kept (Kept.refl _).drew
  rw [hQs] at ho
  have hP2 := hPX.bl ((Bl.refl Q).alloc (.cells (madeCells #[.int .i64 0] rc) 3)).drew
  obtain ⟨p0, p1, p2, p3⟩ := hP2
  clear hmk hw s0 s1 s2 r0 r1 r2 r3 hRX
  rw [← hQ]
  exact bodyPost_ret (v := .agg #[.int .i64 R, .int .i64 C, .int .i64 n, .slice (some ⟨w.heap.size + 2, 0, none⟩) rc rc]) (by simp [results, Try.results22, go_sem, p0, p1, p2, p3]) rfl ⟨w.heap.size + 2, rfl, ho, (hKX.alloc _ _).drew⟩
end Go.Proofs.Ytckcfdkffjkkbaa
