/- Shapes that come out: Formed, ColsCut, RowsCut of package tensor. -/
import Derived.Test.YtijmjnmimijfdabT31
namespace Go.Proofs.Ytijmjnmimijfdab
open Go.ChangeShapes Go.WideShapes Go.ChangeAt Go.RowKit
set_option linter.unusedVariables false
set_option linter.unusedSimpArgs false

set_option maxHeartbeats 1000000 in
set_option maxRecDepth 100000 in
theorem formed_ok (r c n rs cs : Int) (h0 : ckS rs cs n = 0) (he : rs * cs = r * c) (w : World) : Calls Try.prog 42 #[.agg #[.int .i64 r, .int .i64 c, .int .i64 n], .int .i64 rs, .int .i64 cs] w fun e w' => e = .returned (.tuple #[.agg #[.int .i64 rs, .int .i64 cs, .int .i64 n], .int .i64 0]) ∧ Kept w w' := by
  obtain ⟨X, hX⟩ : ∃ X, X = ((w.alloc (.cells #[.int .i64 r, .int .i64 c, .int .i64 n] 50)).alloc (.cells #[.int .i64 0, .int .i64 0, .int .i64 0] 50)).alloc (.cells #[.int .i64 rs, .int .i64 cs, .int .i64 n] 50) := ⟨_, rfl⟩
  have hK : Kept w X := by rw [hX]; exact (((Kept.refl w).alloc _ _).alloc _ _).alloc _ _
  have hA : M3 X w.heap.size (.int .i64 r) (.int .i64 c) (.int .i64 n) := by rw [hX]; exact ⟨by simp [go_sem], by simp [go_sem], by simp [go_sem]⟩
  have hR : M3 X (w.heap.size + 1) (.int .i64 0) (.int .i64 0) (.int .i64 0) := by rw [hX]; exact ⟨by simp [go_sem], by simp [go_sem], by simp [go_sem]⟩
  have hT : M3 X (w.heap.size + 2) (.int .i64 rs) (.int .i64 cs) (.int .i64 n) := by rw [hX]; exact ⟨by simp [go_sem], by simp [go_sem], by simp [go_sem]⟩
  have hF : ∀ o, X.frozen? ⟨w.heap.size + 1, o, none⟩ = false := fun o => by rw [hX]; simp [go_sem]
  have KC : Hid (∀ u, Calls Try.prog 40 #[.agg #[.int .i64 rs, .int .i64 cs, .int .i64 n]] u fun e w' => e = .returned (.int .i64 0) ∧ Kept u w') := fun u => by have := checkShape_any rs cs n u; rw [h0] at this; exact this
  obtain ⟨hn, h1, h2, h3⟩ := ckS_ok h0
  have hlm := le_of_mul h1 h2
  have z1 : IntKind.i64.wrap (rs * cs) = r * c := by rw [he, wrap_i64]; omega
  have z2 : IntKind.i64.wrap (r * c) = r * c := by rw [wrap_i64]; omega
  have z3 : (r * c != r * c) = false := by simp
  clear h0 he hn h1 h2 h3 hlm
  go_enter Try.func42, Try.ntmps42
  go_upto_region 2 with fail
  rw [← hX]
  clear hX
  obtain ⟨t0, t1, t2⟩ := hT
  go_wp2_with (first | (go_at_call 40; refine (KC.out _).mono ?_; rintro e w1 ⟨rfl, k1⟩; obtain ⟨a0, a1, a2⟩ := hA.bl k1.bl; obtain ⟨s0, s1, s2⟩ := (M3.mk t0 t1 t2).bl k1.bl; have hr1 := hR.bl k1.bl; have f1 : ∀ o, w1.frozen? ⟨w.heap.size + 1, o, none⟩ = false := fun o => (k1.frozen _).trans (hF o); obtain ⟨p0, p1, p2⟩ := M3.put w1 _ _ _ _ hr1 (.int .i64 rs) (.int .i64 cs) (.int .i64 n); obtain ⟨r0, r1, r2⟩ := hr1))
  exact bodyPost_ret (v := .tuple #[.agg #[.int .i64 rs, .int .i64 cs, .int .i64 n], .int .i64 0]) (by simp [results, Try.results42, go_sem, *]) rfl ⟨rfl, (hK.trans k1).setCell (by simp) _ |>.setCell (by simp) _ |>.setCell (by simp) _⟩

set_option maxHeartbeats 1000000 in
set_option maxRecDepth 100000 in
theorem colsCut_ok (r c n f t : Int) (h1 : 0 ≤ f) (h2 : t ≤ c) (h3 : f < t) (h4 : c ≤ 100000) (w : World) : Calls Try.prog 44 #[.agg #[.int .i64 r, .int .i64 c, .int .i64 n], .int .i64 f, .int .i64 t] w fun e w' => e = .returned (.tuple #[.agg #[.int .i64 r, .int .i64 (t - f), .int .i64 n], .int .i64 0]) ∧ Kept w w' := by
  have g1 : ¬ f < 0 := by omega
  have g2 : ¬ c < t := by omega
  have g3 : ¬ t ≤ f := by omega
  have z1 : IntKind.i64.wrap (t - f) = t - f := by rw [wrap_i64]; omega
  go_enter Try.func44, Try.ntmps44
  go_wp2_with fail
  exact bodyPost_ret (v := .tuple #[.agg #[.int .i64 r, .int .i64 (t - f), .int .i64 n], .int .i64 0]) (by simp [results, Try.results44, go_sem]) rfl ⟨rfl, ((Kept.refl w).alloc _ _).alloc _ _⟩

set_option maxHeartbeats 1000000 in
set_option maxRecDepth 100000 in
theorem rowsCut_ok (r c n f t : Int) (h1 : 0 ≤ f) (h2 : t ≤ r) (h3 : f < t) (h4 : r ≤ 100000) (w : World) : Calls Try.prog 48 #[.agg #[.int .i64 r, .int .i64 c, .int .i64 n], .int .i64 f, .int .i64 t] w fun e w' => e = .returned (.tuple #[.agg #[.int .i64 (t - f), .int .i64 c, .int .i64 n], .int .i64 0]) ∧ Kept w w' := by
  have KC : Hid (∀ u, Calls Try.prog 44 #[.agg #[.int .i64 c, .int .i64 r, .int .i64 n], .int .i64 f, .int .i64 t] u fun e w' => e = .returned (.tuple #[.agg #[.int .i64 c, .int .i64 (t - f), .int .i64 n], .int .i64 0]) ∧ Kept u w') := fun u => colsCut_ok c r n f t h1 h2 h3 h4 u
  have KT1 : Hid (∀ u, Calls Try.prog 41 #[.agg #[.int .i64 r, .int .i64 c, .int .i64 n]] u fun e w' => e = .returned (.agg #[.int .i64 c, .int .i64 r, .int .i64 n]) ∧ Kept u w') := fun u => turned_any r c n u
  have KT2 : Hid (∀ u, Calls Try.prog 41 #[.agg #[.int .i64 c, .int .i64 (t - f), .int .i64 n]] u fun e w' => e = .returned (.agg #[.int .i64 (t - f), .int .i64 c, .int .i64 n]) ∧ Kept u w') := fun u => turned_any c (t - f) n u
  obtain ⟨X, hX⟩ : ∃ X, X = (w.alloc (.cells #[.int .i64 r, .int .i64 c, .int .i64 n] 50)).alloc (.cells #[.int .i64 0, .int .i64 0, .int .i64 0] 50) := ⟨_, rfl⟩
  have hK : Kept w X := by rw [hX]; exact ((Kept.refl w).alloc _ _).alloc _ _
  have hA : M3 X w.heap.size (.int .i64 r) (.int .i64 c) (.int .i64 n) := by rw [hX]; exact ⟨by simp [go_sem], by simp [go_sem], by simp [go_sem]⟩
  have hR : M3 X (w.heap.size + 1) (.int .i64 0) (.int .i64 0) (.int .i64 0) := by rw [hX]; exact ⟨by simp [go_sem], by simp [go_sem], by simp [go_sem]⟩
  have hF : ∀ o, X.frozen? ⟨w.heap.size + 1, o, none⟩ = false := fun o => by rw [hX]; simp [go_sem]
  have hF0 : ∀ o, X.frozen? ⟨w.heap.size, o, none⟩ = false := fun o => by rw [hX]; simp [go_sem]
  generalize t - f = d at *
  clear h1 h2 h3
  go_enter Try.func48, Try.ntmps48
  go_upto_region 1 with fail
  rw [← hX]
  clear hX
  have hA' := hA
  obtain ⟨a0, a1, a2⟩ := hA'
  go_upto_region 2 with (first | (go_at_call 41; refine (KT1.out _).mono ?_; rintro e w1 ⟨rfl, k1⟩) | (go_at_call 44; refine (KC.out _).mono ?_; rintro e w2 ⟨rfl, k2⟩; have ha2 := hA.bl (k1.trans k2).bl; have f0 : ∀ o, w2.frozen? ⟨w.heap.size, o, none⟩ = false := fun o => ((k1.trans k2).frozen _).trans (hF0 o); obtain ⟨b0, b1, b2⟩ := ha2))
  obtain ⟨Y, hY⟩ : ∃ Y, Y = ((w2.setCell ⟨w.heap.size, 0, none⟩ (.int .i64 c)).setCell ⟨w.heap.size, 1, none⟩ (.int .i64 d)).setCell ⟨w.heap.size, 2, none⟩ (.int .i64 n) := ⟨_, rfl⟩
  rw [← hY]
  have hkY : Kept w Y := by rw [hY]; exact ((hK.trans (k1.trans k2)).setCell (by simp) _).setCell (by simp) _ |>.setCell (by simp) _
  have hAY : M3 Y w.heap.size (.int .i64 c) (.int .i64 d) (.int .i64 n) := by rw [hY]; exact M3.put w2 _ _ _ _ ⟨b0, b1, b2⟩ _ _ _
  have hRY : M3 Y (w.heap.size + 1) (.int .i64 0) (.int .i64 0) (.int .i64 0) := by
    obtain ⟨c0, c1, c2⟩ := hR.bl (k1.trans k2).bl
    rw [hY]
    exact ⟨by simp [go_sem, *], by simp [go_sem, *], by simp [go_sem, *]⟩
  have hFY : ∀ o, Y.frozen? ⟨w.heap.size + 1, o, none⟩ = false := fun o => by
    rw [hY, World.frozen?_setCell, World.frozen?_setCell, World.frozen?_setCell]
    exact ((k1.trans k2).frozen _).trans (hF o)
  clear hY a0 a1 a2 b0 b1 b2 KT1 KC
  obtain ⟨a0, a1, a2⟩ := hAY
  go_wp2_with (first | (go_at_call 41; refine (KT2.out _).mono ?_; rintro e w3 ⟨rfl, k3⟩; have hr1 := hRY.bl k3.bl; have f1 : ∀ o, w3.frozen? ⟨w.heap.size + 1, o, none⟩ = false := fun o => (k3.frozen _).trans (hFY o); obtain ⟨p0, p1, p2⟩ := M3.put w3 _ _ _ _ hr1 (.int .i64 d) (.int .i64 c) (.int .i64 n); obtain ⟨r0, r1, r2⟩ := hr1))
  exact bodyPost_ret (v := .tuple #[.agg #[.int .i64 d, .int .i64 c, .int .i64 n], .int .i64 0]) (by simp [results, Try.results48, go_sem, *]) rfl ⟨rfl, (hkY.trans k3).setCell (by simp) _ |>.setCell (by simp) _ |>.setCell (by simp) _⟩
end Go.Proofs.Ytijmjnmimijfdab
