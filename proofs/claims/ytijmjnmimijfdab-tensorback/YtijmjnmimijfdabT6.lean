/- The laws' own test of life. -/
import Derived.Test.YtijmjnmimijfdabT5
namespace Go.Proofs.Ytijmjnmimijfdab
open Go.ChangeShapes Go.WideShapes Go.ChangeAt Go.RowKit Go.Shelf
set_option linter.unusedVariables false
set_option linter.unusedSimpArgs false

set_option maxHeartbeats 400000 in
theorem num_any (e : Int) (w : World) : Calls Try.prog 14 #[.int .i64 e] w fun r w' => r = .returned (.int .i64 e) ∧ w = w' := by
  go_enter Try.func14, Try.ntmps14
  go_wp2
  go_ret
  exact ⟨rfl, rfl⟩

theorem own_sl {w : World} {g cap : Nat} {L : List Int} (h : Own w g cap L) : Sl w (.slice (some ⟨g, 0, none⟩) L.length cap) L := h.sl

set_option maxRecDepth 100000 in
set_option maxHeartbeats 2000000 in
theorem alive_true (w : World) : Calls Try.prog 6 #[] w fun e w' => e = .returned (.bool true) ∧ Bl w w' := by
  obtain ⟨X, hX⟩ : ∃ X, X = w.alloc (.cells #[.int .i64 1, .int .i64 2, .int .i64 3, .int .i64 4, .int .i64 5, .int .i64 6] 3) := ⟨_, rfl⟩
  have hoX : Own X w.heap.size 6 [1, 2, 3, 4, 5, 6] := by
    rw [hX]
    exact ⟨_, heap_alloc_new w _, by simp, by simp [maxLen], by simp, by simp⟩
  have hKX : Kept w X := by rw [hX]; exact (Kept.refl w).alloc _ _
  have hXs : X.heap.size = w.heap.size + 1 := by rw [hX]; simp
  have hck : ckM ((2 : Nat) : Int) ((3 : Nat) : Int) 64 [1, 2, 3, 4, 5, 6] = 0 := by decide +kernel
  have KT : Hid (Calls Try.prog 18 #[.agg #[.int .i64 2, .int .i64 3, .int .i64 64, .slice (some ⟨w.heap.size, 0, none⟩) 6 6]] X fun e w' => ∃ g, e = .returned (.tuple #[.agg #[.int .i64 3, .int .i64 2, .int .i64 64, .slice (some ⟨g, 0, none⟩) 6 6], .int .i64 0]) ∧ (g < w'.heap.size ∧ w'.cell? ⟨g, 1, none⟩ = some (.int .i64 4)) ∧ Bl X w') := by
    have := turn_ok 2 3 64 (.inl rfl) (by decide) (by decide) (by decide) [1, 2, 3, 4, 5, 6] rfl (by
      intro i hi
      have : i = 0 ∨ i = 1 ∨ i = 2 ∨ i = 3 ∨ i = 4 ∨ i = 5 := by simp at hi; omega
      rcases this with rfl | rfl | rfl | rfl | rfl | rfl <;> decide) hck w.heap.size 0 6 (by decide) X (by omega) hoX.reads hoX.sl
    refine this.mono ?_
    rintro e w' ⟨g, rfl, hg, ho, hb⟩
    refine ⟨g, rfl, ⟨ho.lt, ?_⟩, hb⟩
    have h1 := ho.cell 1 (by decide)
    rw [h1]
    congr 2
  have KN : Hid (∀ u, Calls Try.prog 14 #[.int .i64 0] u fun r w' => r = .returned (.int .i64 0) ∧ u = w') := fun u => num_any 0 u
  clear hck hoX
  go_enter Try.func6, Try.ntmps6
  go_wp2_with (first | (go_at_call 18; rw [← hX]; refine (KT.out).mono ?_; rintro e w1 ⟨g, rfl, ⟨hg, q0⟩, hb⟩; have hne : ¬ g = w1.heap.size := by omega) | (go_at_call 14; refine (KN.out _).mono ?_; rintro e w2 ⟨rfl, rfl⟩))
  go_ret
  exact ⟨rfl, hKX.bl.trans (hb.alloc _)⟩
end Go.Proofs.Ytijmjnmimijfdab
