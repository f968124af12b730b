/- Below: package rng's. -/
import Derived.Test.YtedghjededicpaaG3
namespace Go.Proofs.Ytedghjededicpaa
open Go.ChangeShapes Go.WideShapes Go.ChangeAt Go.RowKit
set_option linter.unusedVariables false

set_option maxHeartbeats 2000000 in
theorem below_no (s t a n : Int) (hn : n < 1) (w : World) : Calls Try.prog 70 #[.agg #[.int .i64 s, .int .i64 t, .int .i64 a], .int .i64 n] w fun e w' => e = .returned (.tuple #[.int .i64 0, .agg #[.int .i64 0, .int .i64 0, .int .i64 0], .int .i64 1]) ∧ Kept w w' := by
  have hA := (Kept.refl w).alloc #[.int .i64 s, .int .i64 t, .int .i64 a] 54
  have hB := (Kept.refl (w.alloc (.cells #[.int .i64 s, .int .i64 t, .int .i64 a] 54))).alloc #[.int .i64 0, .int .i64 0, .int .i64 0] 54
  have d2 := (dw_new (w.alloc (.cells #[.int .i64 s, .int .i64 t, .int .i64 a] 54)) 0 0 0 54)
  rw [show (w.alloc (.cells #[.int .i64 s, .int .i64 t, .int .i64 a] 54)).heap.size = w.heap.size + 1 by simp] at d2
  have hW0 := hA.trans hB
  clear hA hB
  go_enter Try.func70, Try.ntmps70
  go_upto_region 1 with fail
  obtain ⟨X, hX⟩ : ∃ X, X = (w.alloc (.cells #[.int .i64 s, .int .i64 t, .int .i64 a] 54)).alloc (.cells #[.int .i64 0, .int .i64 0, .int .i64 0] 54) := ⟨_, rfl⟩
  rw [← hX] at d2 hW0 ⊢
  clear hX
  obtain ⟨⟨c3, c4, c5⟩, f2⟩ := d2
  go_wp2
  exact bodyPost_ret (v := .tuple #[.int .i64 0, .agg #[.int .i64 0, .int .i64 0, .int .i64 0], .int .i64 1]) (by simp [results, Try.results70, go_sem, *]) rfl ⟨rfl, hW0.put3 (w.heap.size + 1) (by simp) _ _ _⟩

set_option maxHeartbeats 2000000 in
theorem below_ok (s t a : Int) (n j : Nat) (hn : 0 < n) (hn2 : n < 9223372036854775808) (hj : Over s t a (lim n) j) (w : World) : Calls Try.prog 70 #[.agg #[.int .i64 s, .int .i64 t, .int .i64 a], .int .i64 n] w fun e w' => e = .returned (.tuple #[.int .i64 (wn s t (a + j) % n : Nat), .agg #[.int .i64 s, .int .i64 t, .int .i64 (wrap64 (a + j + 1))], .int .i64 0]) ∧ Kept w w' := by
  have hA := (Kept.refl w).alloc #[.int .i64 s, .int .i64 t, .int .i64 a] 54
  have hB := (Kept.refl (w.alloc (.cells #[.int .i64 s, .int .i64 t, .int .i64 a] 54))).alloc #[.int .i64 0, .int .i64 0, .int .i64 0] 54
  have d1 := (dw_new w s t a 54).kept hB
  have d2 := (dw_new (w.alloc (.cells #[.int .i64 s, .int .i64 t, .int .i64 a] 54)) 0 0 0 54)
  rw [show (w.alloc (.cells #[.int .i64 s, .int .i64 t, .int .i64 a] 54)).heap.size = w.heap.size + 1 by simp] at d2
  have hW0 := hA.trans hB
  clear hA hB
  have e1 : IntKind.u64.wrap (n : Int) = n := uw_nat n (by omega)
  have hn1 : ¬ (n : Int) < 1 := by omega
  have hn0 : ¬ (n : Int) = 0 := by omega
  have hn0' : ((n : Int) == 0) = false := by simpa using hn0
  obtain ⟨V, hV⟩ : ∃ V : Nat, V = wn s t (a + j) := ⟨_, rfl⟩
  obtain ⟨P, hP⟩ : ∃ P : Int, P = wrap64 (a + j + 1) := ⟨_, rfl⟩
  have HE : Hid (∀ W, Calls Try.prog 83 #[.agg #[.int .i64 s, .int .i64 t, .int .i64 a], .int .u64 n] W fun e w' => e = .returned (.tuple #[.int .u64 V, .agg #[.int .i64 s, .int .i64 t, .int .i64 P]]) ∧ Kept W w') := by
    rw [hV, hP]; exact fun W => even_any s t a n j hn hn2 hj W
  rw [← hV, ← hP]
  clear hV hP
  obtain ⟨r, hr⟩ : ∃ r : Nat, r = V % n := ⟨_, rfl⟩
  have e3 : (V : Int).tmod n = r := by rw [Int.tmod_eq_emod_of_nonneg (Int.natCast_nonneg _), hr]; rfl
  have hrn : r < n := by rw [hr]; exact Nat.mod_lt _ hn
  have e4 : IntKind.i64.wrap (r : Int) = r := by rw [wrap_i64]; omega
  rw [← hr]
  clear hr
  go_enter Try.func70, Try.ntmps70
  go_upto_region 1 with fail
  obtain ⟨X, hX⟩ : ∃ X, X = (w.alloc (.cells #[.int .i64 s, .int .i64 t, .int .i64 a] 54)).alloc (.cells #[.int .i64 0, .int .i64 0, .int .i64 0] 54) := ⟨_, rfl⟩
  rw [← hX] at d1 d2 hW0 ⊢
  clear hX
  have D1 := d1
  obtain ⟨⟨c0, c1, c2⟩, f1⟩ := D1
  go_wp2_with fail
  refine (HE.out _).mono ?_
  rintro e w1 ⟨rfl, hk1⟩
  clear c0 c1 c2 f1
  have g1 := d1.kept hk1
  have g2 := d2.kept hk1
  have hK := hW0.trans hk1
  have G1' := g1
  obtain ⟨⟨c0, c1, c2⟩, f1⟩ := G1'
  go_upto_region 4 with fail
  clear c0 c1 c2 f1
  have k1 := g1.put s t P
  have k2 := g2.far3 w.heap.size (by simp) (.int .i64 s) (.int .i64 t) (.int .i64 P)
  have k3 := hK.put3 w.heap.size (Nat.le_refl _) (.int .i64 s) (.int .i64 t) (.int .i64 P)
  obtain ⟨Y, hY⟩ : ∃ Y, Y = put3 w1 w.heap.size (.int .i64 s) (.int .i64 t) (.int .i64 P) := ⟨_, rfl⟩
  rw [← hY] at k1 k2 k3
  unfold put3 at hY
  rw [← hY]
  clear hY g1 g2 hK d1 d2 hW0 hk1
  obtain ⟨⟨c0, c1, c2⟩, f1⟩ := k1
  obtain ⟨⟨c3, c4, c5⟩, f2⟩ := k2
  go_region_held (fun u => Kept w u ∧ u.cell? ⟨w.heap.size, 0, none⟩ = some (.int .i64 s) ∧ u.cell? ⟨w.heap.size, 1, none⟩ = some (.int .i64 t) ∧ u.cell? ⟨w.heap.size, 2, none⟩ = some (.int .i64 P)) (first | exact ⟨k3.drew, c0, c1, c2⟩ | assumption | exact keep3d k3 (by simp) (by simp) ⟨c0, c1, c2⟩ _ _ _) (fail)
  go_wp2
  exact bodyPost_ret (v := .tuple #[.int .i64 r, .agg #[.int .i64 s, .int .i64 t, .int .i64 P], .int .i64 0]) (by simp [results, Try.results70, go_sem, *]) rfl ⟨rfl, (keep3d k3 (by simp) (by simp) ⟨c0, c1, c2⟩ _ _ _).1⟩

end Go.Proofs.Ytedghjededicpaa
