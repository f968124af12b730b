/- Shuffle: package rng's. -/
import Derived.Test.YtedghjededicpaaG6
namespace Go.Proofs.Ytedghjededicpaa
open Go.ChangeShapes Go.WideShapes Go.ChangeAt Go.RowKit
set_option linter.unusedVariables false
set_option linter.unusedSimpArgs false

set_option maxHeartbeats 2000000 in
theorem shuffle_neg (s t a n : Int) (hn : n < 0) (w : World) : Calls Try.prog 15 #[.agg #[.int .i64 s, .int .i64 t, .int .i64 a], .int .i64 n] w fun e w' => e = .returned (.tuple #[.slice none 0 0, .agg #[.int .i64 0, .int .i64 0, .int .i64 0], .int .i64 1]) ∧ Kept w w' := by
  have hA := (Kept.refl w).alloc #[.int .i64 s, .int .i64 t, .int .i64 a] 54
  have hB := (Kept.refl (w.alloc (.cells #[.int .i64 s, .int .i64 t, .int .i64 a] 54))).alloc #[.int .i64 0, .int .i64 0, .int .i64 0] 54
  have d1 := (dw_new w s t a 54).kept hB
  have d2 := (dw_new (w.alloc (.cells #[.int .i64 s, .int .i64 t, .int .i64 a] 54)) 0 0 0 54)
  rw [show (w.alloc (.cells #[.int .i64 s, .int .i64 t, .int .i64 a] 54)).heap.size = w.heap.size + 1 by simp] at d2
  have hW0 := hA.trans hB
  clear hA hB
  go_enter Try.func15, Try.ntmps15
  go_upto_region 1 with fail
  obtain ⟨X, hX⟩ : ∃ X, X = (w.alloc (.cells #[.int .i64 s, .int .i64 t, .int .i64 a] 54)).alloc (.cells #[.int .i64 0, .int .i64 0, .int .i64 0] 54) := ⟨_, rfl⟩
  rw [← hX] at d1 d2 hW0 ⊢
  have hXs : X.heap.size = w.heap.size + 2 := by rw [hX]; simp
  clear hX
  obtain ⟨⟨c3, c4, c5⟩, f2⟩ := d2
  go_wp2
  exact bodyPost_ret (v := .tuple #[.slice none 0 0, .agg #[.int .i64 0, .int .i64 0, .int .i64 0], .int .i64 1]) (by simp [results, Try.results15, go_sem, *]) rfl ⟨rfl, hW0.put3 (w.heap.size + 1) (by simp) _ _ _⟩

set_option maxHeartbeats 2000000 in
theorem shuffle_long (s t a n : Int) (hn : 65536 < n) (w : World) : Calls Try.prog 15 #[.agg #[.int .i64 s, .int .i64 t, .int .i64 a], .int .i64 n] w fun e w' => e = .returned (.tuple #[.slice none 0 0, .agg #[.int .i64 0, .int .i64 0, .int .i64 0], .int .i64 2]) ∧ Kept w w' := by
  have hn2 : ¬ n < 0 := by omega
  have hA := (Kept.refl w).alloc #[.int .i64 s, .int .i64 t, .int .i64 a] 54
  have hB := (Kept.refl (w.alloc (.cells #[.int .i64 s, .int .i64 t, .int .i64 a] 54))).alloc #[.int .i64 0, .int .i64 0, .int .i64 0] 54
  have d1 := (dw_new w s t a 54).kept hB
  have d2 := (dw_new (w.alloc (.cells #[.int .i64 s, .int .i64 t, .int .i64 a] 54)) 0 0 0 54)
  rw [show (w.alloc (.cells #[.int .i64 s, .int .i64 t, .int .i64 a] 54)).heap.size = w.heap.size + 1 by simp] at d2
  have hW0 := hA.trans hB
  clear hA hB
  go_enter Try.func15, Try.ntmps15
  go_upto_region 1 with fail
  obtain ⟨X, hX⟩ : ∃ X, X = (w.alloc (.cells #[.int .i64 s, .int .i64 t, .int .i64 a] 54)).alloc (.cells #[.int .i64 0, .int .i64 0, .int .i64 0] 54) := ⟨_, rfl⟩
  rw [← hX] at d1 d2 hW0 ⊢
  have hXs : X.heap.size = w.heap.size + 2 := by rw [hX]; simp
  clear hX
  obtain ⟨⟨c3, c4, c5⟩, f2⟩ := d2
  go_wp2
  exact bodyPost_ret (v := .tuple #[.slice none 0 0, .agg #[.int .i64 0, .int .i64 0, .int .i64 0], .int .i64 2]) (by simp [results, Try.results15, go_sem, *]) rfl ⟨rfl, hW0.put3 (w.heap.size + 1) (by simp) _ _ _⟩

set_option maxHeartbeats 2000000 in
theorem shuffle_ok (s t a : Int) (n : Nat) (hn : n ≤ 65536) (w : World) : Calls Try.prog 15 #[.agg #[.int .i64 s, .int .i64 t, .int .i64 a], .int .i64 n] w fun e w' => e = .returned (.tuple #[.slice (some ⟨w.heap.size + 4, 0, none⟩) n n, .agg #[.int .i64 s, .int .i64 t, .int .i64 (shuf s t a n).2], .int .i64 0]) ∧ Own w' (w.heap.size + 4) n (shuf s t a n).1 ∧ Kept w w' := by
  have hA := (Kept.refl w).alloc #[.int .i64 s, .int .i64 t, .int .i64 a] 54
  have hB := (Kept.refl (w.alloc (.cells #[.int .i64 s, .int .i64 t, .int .i64 a] 54))).alloc #[.int .i64 0, .int .i64 0, .int .i64 0] 54
  have d1 := (dw_new w s t a 54).kept hB
  have d2 := (dw_new (w.alloc (.cells #[.int .i64 s, .int .i64 t, .int .i64 a] 54)) 0 0 0 54)
  rw [show (w.alloc (.cells #[.int .i64 s, .int .i64 t, .int .i64 a] 54)).heap.size = w.heap.size + 1 by simp] at d2
  have hW0 := hA.trans hB
  clear hA hB
  have g0 : ¬ (n : Int) < 0 := by omega
  have g1 : ¬ 65536 < (n : Int) := by omega
  obtain ⟨L, P, hS⟩ : ∃ L P, shuf s t a n = (L, P) := ⟨_, _, rfl⟩
  have HO : Hid (∀ u, Calls Try.prog 50 #[.agg #[.int .i64 s, .int .i64 t, .int .i64 a], .int .i64 n] u fun e w' => e = .returned (.tuple #[.slice (some ⟨u.heap.size + 2, 0, none⟩) n n, .agg #[.int .i64 s, .int .i64 t, .int .i64 P]]) ∧ Own w' (u.heap.size + 2) n L ∧ Kept u w') := by
    intro u
    have := gorder_any s t a n hn u
    rw [hS] at this
    exact this
  rw [hS]
  clear hS
  go_enter Try.func15, Try.ntmps15
  go_upto_region 1 with fail
  obtain ⟨X, hX⟩ : ∃ X, X = (w.alloc (.cells #[.int .i64 s, .int .i64 t, .int .i64 a] 54)).alloc (.cells #[.int .i64 0, .int .i64 0, .int .i64 0] 54) := ⟨_, rfl⟩
  rw [← hX] at d1 d2 hW0 ⊢
  have hXs : X.heap.size = w.heap.size + 2 := by rw [hX]; simp
  clear hX
  have D1 := d1
  obtain ⟨⟨c0, c1, c2⟩, f1⟩ := D1
  go_wp2_with fail
  refine (HO.out _).mono ?_
  rintro e w1 ⟨rfl, ho, hk1⟩
  rw [hXs, show w.heap.size + 2 + 2 = w.heap.size + 4 by omega] at ho ⊢
  clear c0 c1 c2 f1
  have g1' := d1.kept hk1
  have g2' := d2.kept hk1
  have hK := hW0.trans hk1
  have G1' := g1'
  obtain ⟨⟨c0, c1, c2⟩, f1⟩ := G1'
  go_upto_region 6 with fail
  clear c0 c1 c2 f1
  have k1 := g1'.put s t P
  have k2 := g2'.far3 w.heap.size (by simp) (.int .i64 s) (.int .i64 t) (.int .i64 P)
  have k3 := hK.put3 w.heap.size (Nat.le_refl _) (.int .i64 s) (.int .i64 t) (.int .i64 P)
  have ko := Dw.own (b := 0) ho w.heap.size (by simp) (.int .i64 s) (.int .i64 t) (.int .i64 P)
  obtain ⟨Y, hY⟩ : ∃ Y, Y = put3 w1 w.heap.size (.int .i64 s) (.int .i64 t) (.int .i64 P) := ⟨_, rfl⟩
  rw [← hY] at k1 k2 k3 ko
  unfold put3 at hY
  rw [← hY]
  have HKO : Hid (Own Y (w.heap.size + 4) n L) := ko
  clear hY g1' g2' hK d1 d2 hW0 hk1 ho hXs ko
  obtain ⟨⟨c0, c1, c2⟩, f1⟩ := k1
  obtain ⟨⟨c3, c4, c5⟩, f2⟩ := k2
  go_region_held (fun u => Kept w u ∧ u.cell? ⟨w.heap.size, 0, none⟩ = some (.int .i64 s) ∧ u.cell? ⟨w.heap.size, 1, none⟩ = some (.int .i64 t) ∧ u.cell? ⟨w.heap.size, 2, none⟩ = some (.int .i64 P)) (first | exact ⟨k3.drew, c0, c1, c2⟩ | assumption | exact keep3d k3 (by simp) (by simp) ⟨c0, c1, c2⟩ _ _ _) (fail)
  go_wp2
  exact bodyPost_ret (v := .tuple #[.slice (some ⟨w.heap.size + 4, 0, none⟩) n n, .agg #[.int .i64 s, .int .i64 t, .int .i64 P], .int .i64 0]) (by simp [results, Try.results15, go_sem, *]) rfl ⟨rfl, (Dw.own (b := 0) HKO.out (w.heap.size + 1) (by simp) _ _ _).kept (Kept.refl _).drew, (keep3d k3 (by simp) (by simp) ⟨c0, c1, c2⟩ _ _ _).1⟩

end Go.Proofs.Ytedghjededicpaa
