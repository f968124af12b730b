/- Uniform: package rng's and the document's own. -/
import Derived.Test.YtakdnodgcdddeaaGU
import Derived.Test.YtakdnodgcdddeaaG3
namespace Go.Proofs.Ytakdnodgcdddeaa
open Go.ChangeShapes Go.WideShapes Go.ChangeAt Go.RowKit
set_option linter.unusedVariables false
set_option linter.unusedSimpArgs false

set_option maxHeartbeats 1000000 in
theorem fraction_64 (V m r : Nat) (hm : m = V / 2048) (hr : r < 9218868437227405312) (h : FloatKind.f64.format.mul (floatOfInt .f64 (m : Int)) 4368491638549381120 = some r) (w : World) : Calls Try.prog 38 #[.int .u64 V, .int .i64 64] w fun e w' => e = .returned (.int .i64 r) ∧ w = w' := by
  have e1 : (V : Int) / 2048 = (m : Int) := by rw [hm]; rfl
  clear hm
  obtain ⟨X, hX⟩ : ∃ X, floatOfInt .f64 (m : Int) = X := ⟨_, rfl⟩
  rw [hX] at h
  have hx : ∀ wx : World, (binOp .mul 69 (.float .f64 X) (.float .f64 4368491638549381120)).run Try.prog wx = .ok (.float .f64 r) wx := fun wx => run_float_arith wx .mul 69 .f64 X 4368491638549381120 r h
  clear h
  have HO : Hid (∀ u, Calls Try.prog 43 #[.float .f64 r] u fun e w' => e = .returned (.int .i64 r) ∧ u = w') := fun u => by
    have := of64_any r u
    rw [ofr_64 r hr] at this
    exact this
  go_enter Try.func38, Try.ntmps38
  go_wp2_with (first | (go_at_call 43; refine (HO.out _).mono ?_; rintro e w1 ⟨rfl, rfl⟩))
  go_ret
  exact ⟨rfl, rfl⟩

set_option maxHeartbeats 1000000 in
theorem fraction_32 (V m r : Nat) (hm : m = V / 1099511627776) (hr : r < 2139095040) (h : FloatKind.f32.format.mul (floatOfInt .f32 (m : Int)) 864026624 = some r) (w : World) : Calls Try.prog 38 #[.int .u64 V, .int .i64 32] w fun e w' => e = .returned (.int .i64 r) ∧ w = w' := by
  have e1 : (V : Int) / 1099511627776 = (m : Int) := by rw [hm]; rfl
  clear hm
  obtain ⟨X, hX⟩ : ∃ X, floatOfInt .f32 (m : Int) = X := ⟨_, rfl⟩
  rw [hX] at h
  have hx : ∀ wx : World, (binOp .mul 67 (.float .f32 X) (.float .f32 864026624)).run Try.prog wx = .ok (.float .f32 r) wx := fun wx => run_float_arith wx .mul 67 .f32 X 864026624 r h
  clear h
  have HO : Hid (∀ u, Calls Try.prog 42 #[.float .f32 r] u fun e w' => e = .returned (.int .i64 r) ∧ u = w') := fun u => by
    have := of32_any r u
    rw [ofr_32 r hr] at this
    exact this
  go_enter Try.func38, Try.ntmps38
  go_wp2_with (first | (go_at_call 42; refine (HO.out _).mono ?_; rintro e w1 ⟨rfl, rfl⟩))
  go_ret
  exact ⟨rfl, rfl⟩

set_option maxHeartbeats 2000000 in
theorem uniform_no (s t a n : Int) (h1 : (n == 32) = false) (h2 : (n == 64) = false) (w : World) : Calls Try.prog 25 #[.agg #[.int .i64 s, .int .i64 t, .int .i64 a], .int .i64 n] w fun e w' => e = .returned (.tuple #[.int .i64 0, .agg #[.int .i64 0, .int .i64 0, .int .i64 0], .int .i64 3]) ∧ Kept w w' := by
  have hA := (Kept.refl w).alloc #[.int .i64 s, .int .i64 t, .int .i64 a] 23
  have hB := (Kept.refl (w.alloc (.cells #[.int .i64 s, .int .i64 t, .int .i64 a] 23))).alloc #[.int .i64 0, .int .i64 0, .int .i64 0] 23
  have d1 := (dw_new w s t a 23).kept hB
  have d2 := (dw_new (w.alloc (.cells #[.int .i64 s, .int .i64 t, .int .i64 a] 23)) 0 0 0 23)
  rw [show (w.alloc (.cells #[.int .i64 s, .int .i64 t, .int .i64 a] 23)).heap.size = w.heap.size + 1 by simp] at d2
  have hW0 := hA.trans hB
  clear hA hB
  go_enter Try.func25, Try.ntmps25
  go_upto_region 1 with fail
  obtain ⟨X, hX⟩ : ∃ X, X = (w.alloc (.cells #[.int .i64 s, .int .i64 t, .int .i64 a] 23)).alloc (.cells #[.int .i64 0, .int .i64 0, .int .i64 0] 23) := ⟨_, rfl⟩
  rw [← hX] at d1 d2 hW0 ⊢
  clear hX
  obtain ⟨⟨c3, c4, c5⟩, f2⟩ := d2
  go_wp2_with (first | (go_at_call 37; refine (valid_0 _ _ h1 h2 _).mono ?_; rintro e w1 ⟨rfl, rfl⟩))
  exact bodyPost_ret (v := .tuple #[.int .i64 0, .agg #[.int .i64 0, .int .i64 0, .int .i64 0], .int .i64 3]) (by simp [results, Try.results25, go_sem, *]) rfl ⟨rfl, hW0.put3 (w.heap.size + 1) (by simp) _ _ _⟩

set_option maxHeartbeats 2000000 in
theorem uniform_64 (s t a : Int) (r : Nat) (hr : r < 9218868437227405312) (h : FloatKind.f64.format.mul (floatOfInt .f64 ((wn s t a / 2048 : Nat) : Int)) 4368491638549381120 = some r) (w : World) : Calls Try.prog 25 #[.agg #[.int .i64 s, .int .i64 t, .int .i64 a], .int .i64 64] w fun e w' => e = .returned (.tuple #[.int .i64 r, .agg #[.int .i64 s, .int .i64 t, .int .i64 (wrap64 (a + 1))], .int .i64 0]) ∧ Kept w w' := by
  have hA := (Kept.refl w).alloc #[.int .i64 s, .int .i64 t, .int .i64 a] 23
  have hB := (Kept.refl (w.alloc (.cells #[.int .i64 s, .int .i64 t, .int .i64 a] 23))).alloc #[.int .i64 0, .int .i64 0, .int .i64 0] 23
  have d1 := (dw_new w s t a 23).kept hB
  have d2 := (dw_new (w.alloc (.cells #[.int .i64 s, .int .i64 t, .int .i64 a] 23)) 0 0 0 23)
  rw [show (w.alloc (.cells #[.int .i64 s, .int .i64 t, .int .i64 a] 23)).heap.size = w.heap.size + 1 by simp] at d2
  have hW0 := hA.trans hB
  clear hA hB
  obtain ⟨Z, hZ⟩ : ∃ Z, Z = wz s t a := ⟨_, rfl⟩
  obtain ⟨P, hP⟩ : ∃ P, P = wrap64 (a + 1) := ⟨_, rfl⟩
  obtain ⟨V, hV⟩ : ∃ V : Nat, V = wn s t a := ⟨_, rfl⟩
  have u1 : IntKind.u64.wrap Z = (V : Int) := by rw [hZ, hV, u_wz]
  have HN : Hid (∀ u, Calls Try.prog 15 #[.agg #[.int .i64 s, .int .i64 t, .int .i64 a]] u fun e w' => e = .returned (.tuple #[.int .i64 Z, .agg #[.int .i64 s, .int .i64 t, .int .i64 P]]) ∧ Kept u w') := fun u => by rw [hZ, hP]; exact gnext_any s t a u
  have HF : Hid (∀ u, Calls Try.prog 38 #[.int .u64 V, .int .i64 64] u fun e w' => e = .returned (.int .i64 r) ∧ u = w') := fun u => fraction_64 V _ r (by rw [hV]) hr h u
  rw [← hP]
  clear hZ hP hV h
  go_enter Try.func25, Try.ntmps25
  go_upto_region 1 with fail
  obtain ⟨X, hX⟩ : ∃ X, X = (w.alloc (.cells #[.int .i64 s, .int .i64 t, .int .i64 a] 23)).alloc (.cells #[.int .i64 0, .int .i64 0, .int .i64 0] 23) := ⟨_, rfl⟩
  rw [← hX] at d1 d2 hW0 ⊢
  clear hX
  have D1 := d1
  obtain ⟨⟨c0, c1, c2⟩, f1⟩ := D1
  go_wp2_with (first | (go_at_call 37; refine (valid_64 _ _).mono ?_; rintro e w1 ⟨rfl, rfl⟩))
  refine (HN.out _).mono ?_
  rintro e w1 ⟨rfl, hk1⟩
  clear c0 c1 c2 f1
  have g1 := d1.kept hk1
  have g2 := d2.kept hk1
  have hK := hW0.trans hk1
  have G1' := g1
  obtain ⟨⟨c0, c1, c2⟩, f1⟩ := G1'
  go_upto_region 4 with fail
  clear c0 c1 c2 f1
  have k1 := g1.put s t P
  have k2 := g2.far3 w.heap.size (by simp) (.int .i64 s) (.int .i64 t) (.int .i64 P)
  have k3 := hK.put3 w.heap.size (Nat.le_refl _) (.int .i64 s) (.int .i64 t) (.int .i64 P)
  obtain ⟨Y, hY⟩ : ∃ Y, Y = put3 w1 w.heap.size (.int .i64 s) (.int .i64 t) (.int .i64 P) := ⟨_, rfl⟩
  rw [← hY] at k1 k2 k3
  unfold put3 at hY
  rw [← hY]
  clear hY g1 g2 hK d1 d2 hW0 hk1
  obtain ⟨⟨c0, c1, c2⟩, f1⟩ := k1
  obtain ⟨⟨c3, c4, c5⟩, f2⟩ := k2
  go_region_held (fun u => Kept w u ∧ u.cell? ⟨w.heap.size, 0, none⟩ = some (.int .i64 s) ∧ u.cell? ⟨w.heap.size, 1, none⟩ = some (.int .i64 t) ∧ u.cell? ⟨w.heap.size, 2, none⟩ = some (.int .i64 P)) (first | exact ⟨k3.drew, c0, c1, c2⟩ | assumption | exact keep3d k3 (by simp) (by simp) ⟨c0, c1, c2⟩ _ _ _) (first | (go_at_call 38; refine (HF.out _).mono ?_; rintro e w1 ⟨rfl, rfl⟩))
  go_wp2
  exact bodyPost_ret (v := .tuple #[.int .i64 r, .agg #[.int .i64 s, .int .i64 t, .int .i64 P], .int .i64 0]) (by simp [results, Try.results25, go_sem, *]) rfl ⟨rfl, (keep3d k3 (by simp) (by simp) ⟨c0, c1, c2⟩ _ _ _).1⟩

set_option maxHeartbeats 2000000 in
theorem uniform_32 (s t a : Int) (r : Nat) (hr : r < 2139095040) (h : FloatKind.f32.format.mul (floatOfInt .f32 ((wn s t a / 1099511627776 : Nat) : Int)) 864026624 = some r) (w : World) : Calls Try.prog 25 #[.agg #[.int .i64 s, .int .i64 t, .int .i64 a], .int .i64 32] w fun e w' => e = .returned (.tuple #[.int .i64 r, .agg #[.int .i64 s, .int .i64 t, .int .i64 (wrap64 (a + 1))], .int .i64 0]) ∧ Kept w w' := by
  have hA := (Kept.refl w).alloc #[.int .i64 s, .int .i64 t, .int .i64 a] 23
  have hB := (Kept.refl (w.alloc (.cells #[.int .i64 s, .int .i64 t, .int .i64 a] 23))).alloc #[.int .i64 0, .int .i64 0, .int .i64 0] 23
  have d1 := (dw_new w s t a 23).kept hB
  have d2 := (dw_new (w.alloc (.cells #[.int .i64 s, .int .i64 t, .int .i64 a] 23)) 0 0 0 23)
  rw [show (w.alloc (.cells #[.int .i64 s, .int .i64 t, .int .i64 a] 23)).heap.size = w.heap.size + 1 by simp] at d2
  have hW0 := hA.trans hB
  clear hA hB
  obtain ⟨Z, hZ⟩ : ∃ Z, Z = wz s t a := ⟨_, rfl⟩
  obtain ⟨P, hP⟩ : ∃ P, P = wrap64 (a + 1) := ⟨_, rfl⟩
  obtain ⟨V, hV⟩ : ∃ V : Nat, V = wn s t a := ⟨_, rfl⟩
  have u1 : IntKind.u64.wrap Z = (V : Int) := by rw [hZ, hV, u_wz]
  have HN : Hid (∀ u, Calls Try.prog 15 #[.agg #[.int .i64 s, .int .i64 t, .int .i64 a]] u fun e w' => e = .returned (.tuple #[.int .i64 Z, .agg #[.int .i64 s, .int .i64 t, .int .i64 P]]) ∧ Kept u w') := fun u => by rw [hZ, hP]; exact gnext_any s t a u
  have HF : Hid (∀ u, Calls Try.prog 38 #[.int .u64 V, .int .i64 32] u fun e w' => e = .returned (.int .i64 r) ∧ u = w') := fun u => fraction_32 V _ r (by rw [hV]) hr h u
  rw [← hP]
  clear hZ hP hV h
  go_enter Try.func25, Try.ntmps25
  go_upto_region 1 with fail
  obtain ⟨X, hX⟩ : ∃ X, X = (w.alloc (.cells #[.int .i64 s, .int .i64 t, .int .i64 a] 23)).alloc (.cells #[.int .i64 0, .int .i64 0, .int .i64 0] 23) := ⟨_, rfl⟩
  rw [← hX] at d1 d2 hW0 ⊢
  clear hX
  have D1 := d1
  obtain ⟨⟨c0, c1, c2⟩, f1⟩ := D1
  go_wp2_with (first | (go_at_call 37; refine (valid_32 _ _).mono ?_; rintro e w1 ⟨rfl, rfl⟩))
  refine (HN.out _).mono ?_
  rintro e w1 ⟨rfl, hk1⟩
  clear c0 c1 c2 f1
  have g1 := d1.kept hk1
  have g2 := d2.kept hk1
  have hK := hW0.trans hk1
  have G1' := g1
  obtain ⟨⟨c0, c1, c2⟩, f1⟩ := G1'
  go_upto_region 4 with fail
  clear c0 c1 c2 f1
  have k1 := g1.put s t P
  have k2 := g2.far3 w.heap.size (by simp) (.int .i64 s) (.int .i64 t) (.int .i64 P)
  have k3 := hK.put3 w.heap.size (Nat.le_refl _) (.int .i64 s) (.int .i64 t) (.int .i64 P)
  obtain ⟨Y, hY⟩ : ∃ Y, Y = put3 w1 w.heap.size (.int .i64 s) (.int .i64 t) (.int .i64 P) := ⟨_, rfl⟩
  rw [← hY] at k1 k2 k3
  unfold put3 at hY
  rw [← hY]
  clear hY g1 g2 hK d1 d2 hW0 hk1
  obtain ⟨⟨c0, c1, c2⟩, f1⟩ := k1
  obtain ⟨⟨c3, c4, c5⟩, f2⟩ := k2
  go_region_held (fun u => Kept w u ∧ u.cell? ⟨w.heap.size, 0, none⟩ = some (.int .i64 s) ∧ u.cell? ⟨w.heap.size, 1, none⟩ = some (.int .i64 t) ∧ u.cell? ⟨w.heap.size, 2, none⟩ = some (.int .i64 P)) (first | exact ⟨k3.drew, c0, c1, c2⟩ | assumption | exact keep3d k3 (by simp) (by simp) ⟨c0, c1, c2⟩ _ _ _) (first | (go_at_call 38; refine (HF.out _).mono ?_; rintro e w1 ⟨rfl, rfl⟩))
  go_wp2
  exact bodyPost_ret (v := .tuple #[.int .i64 r, .agg #[.int .i64 s, .int .i64 t, .int .i64 P], .int .i64 0]) (by simp [results, Try.results25, go_sem, *]) rfl ⟨rfl, (keep3d k3 (by simp) (by simp) ⟨c0, c1, c2⟩ _ _ _).1⟩

set_option maxHeartbeats 2000000 in
theorem runiform_64 (s t a : Int) (r : Nat) (h : ∀ w : World, Calls Try.prog 39 #[.bool false, .int .i64 ((wn s t a / 2048 : Nat) : Int), .int .i64 (-53), .int .i64 64] w fun e w' => ∃ g, e = .returned (.tuple #[.int .i64 r, .bool g]) ∧ Kept w w') (w : World) : Calls Try.prog 26 #[.agg #[.int .i64 s, .int .i64 t, .int .i64 a], .int .i64 64] w fun e w' => e = .returned (.tuple #[.int .i64 r, .agg #[.int .i64 s, .int .i64 t, .int .i64 (wrap64 (a + 1))]]) ∧ Kept w w' := by
  have hA := (Kept.refl w).alloc #[.int .i64 s, .int .i64 t, .int .i64 a] 23
  have hB := (Kept.refl (w.alloc (.cells #[.int .i64 s, .int .i64 t, .int .i64 a] 23))).alloc #[.int .i64 0, .int .i64 0, .int .i64 0] 23
  have d1 := (dw_new w s t a 23).kept hB
  have d2 := (dw_new (w.alloc (.cells #[.int .i64 s, .int .i64 t, .int .i64 a] 23)) 0 0 0 23)
  rw [show (w.alloc (.cells #[.int .i64 s, .int .i64 t, .int .i64 a] 23)).heap.size = w.heap.size + 1 by simp] at d2
  have hW0 := hA.trans hB
  clear hA hB
  obtain ⟨Z, hZ⟩ : ∃ Z, Z = wz s t a := ⟨_, rfl⟩
  obtain ⟨P, hP⟩ : ∃ P, P = wrap64 (a + 1) := ⟨_, rfl⟩
  obtain ⟨V, hV⟩ : ∃ V : Nat, V = wn s t a := ⟨_, rfl⟩
  have u1 : IntKind.u64.wrap Z = (V : Int) := by rw [hZ, hV, u_wz]
  have hV64 : V < 18446744073709551616 := by rw [hV]; exact wn_lt _ _ _
  have HN : Hid (∀ u, Calls Try.prog 22 #[.agg #[.int .i64 s, .int .i64 t, .int .i64 a]] u fun e w' => e = .returned (.tuple #[.int .i64 Z, .agg #[.int .i64 s, .int .i64 t, .int .i64 P]]) ∧ Kept u w') := fun u => by rw [hZ, hP]; exact grnext_any s t a u
  rw [← hV] at h
  rw [← hP]
  clear hZ hP hV
  obtain ⟨M, hM⟩ : ∃ M : Nat, M = V / 2048 := ⟨_, rfl⟩
  rw [← hM] at h
  have HJ : Hid (∀ w : World, Calls Try.prog 39 #[.bool false, .int .i64 (M : Int), .int .i64 (-53), .int .i64 64] w fun e w' => ∃ g, e = .returned (.tuple #[.int .i64 r, .bool g]) ∧ Kept w w') := h
  clear h
  have u2 : (V : Int) / 2048 = (M : Int) := by rw [hM]; rfl
  have u3 : IntKind.i64.wrap (M : Int) = (M : Int) := by rw [wrap_i64, hM]; omega
  clear hM
  go_enter Try.func26, Try.ntmps26
  go_upto_region 1 with fail
  obtain ⟨X, hX⟩ : ∃ X, X = (w.alloc (.cells #[.int .i64 s, .int .i64 t, .int .i64 a] 23)).alloc (.cells #[.int .i64 0, .int .i64 0, .int .i64 0] 23) := ⟨_, rfl⟩
  rw [← hX] at d1 d2 hW0 ⊢
  clear hX
  have D1 := d1
  obtain ⟨⟨c0, c1, c2⟩, f1⟩ := D1
  go_wp2_with fail
  refine (HN.out _).mono ?_
  rintro e w1 ⟨rfl, hk1⟩
  clear c0 c1 c2 f1
  have g1 := d1.kept hk1
  have g2 := d2.kept hk1
  have hK := hW0.trans hk1
  have G1' := g1
  obtain ⟨⟨c0, c1, c2⟩, f1⟩ := G1'
  go_upto_region 2 with fail
  clear c0 c1 c2 f1
  have k1 := g1.put s t P
  have k2 := g2.far3 w.heap.size (by simp) (.int .i64 s) (.int .i64 t) (.int .i64 P)
  have k3 := hK.put3 w.heap.size (Nat.le_refl _) (.int .i64 s) (.int .i64 t) (.int .i64 P)
  obtain ⟨Y, hY⟩ : ∃ Y, Y = put3 w1 w.heap.size (.int .i64 s) (.int .i64 t) (.int .i64 P) := ⟨_, rfl⟩
  rw [← hY] at k1 k2 k3
  unfold put3 at hY
  rw [← hY]
  clear hY g1 g2 hK d1 d2 hW0 hk1
  go_wp2_with fail
  refine (HJ.out _).mono ?_
  rintro e w2 ⟨gg, rfl, hk2⟩
  have k4 := k3.trans hk2
  obtain ⟨⟨c0, c1, c2⟩, f1⟩ := k1.kept hk2
  obtain ⟨⟨c3, c4, c5⟩, f2⟩ := k2.kept hk2
  clear k1 k2 k3 hk2
  go_wp2_with fail
  go_region_held (fun u => Kept w u ∧ u.cell? ⟨w.heap.size, 0, none⟩ = some (.int .i64 s) ∧ u.cell? ⟨w.heap.size, 1, none⟩ = some (.int .i64 t) ∧ u.cell? ⟨w.heap.size, 2, none⟩ = some (.int .i64 P)) (first | exact ⟨k4.drew, c0, c1, c2⟩ | assumption | exact keep3d k4 (by simp) (by simp) ⟨c0, c1, c2⟩ _ _ _) (fail)
  go_wp2
  exact bodyPost_ret (v := .tuple #[.int .i64 r, .agg #[.int .i64 s, .int .i64 t, .int .i64 P]]) (by simp [results, Try.results26, go_sem, *]) rfl ⟨rfl, (keep3d k4 (by simp) (by simp) ⟨c0, c1, c2⟩ _ _ _).1⟩

set_option maxHeartbeats 2000000 in
theorem runiform_32 (s t a : Int) (r : Nat) (h : ∀ w : World, Calls Try.prog 39 #[.bool false, .int .i64 ((wn s t a / 1099511627776 : Nat) : Int), .int .i64 (-24), .int .i64 32] w fun e w' => ∃ g, e = .returned (.tuple #[.int .i64 r, .bool g]) ∧ Kept w w') (w : World) : Calls Try.prog 26 #[.agg #[.int .i64 s, .int .i64 t, .int .i64 a], .int .i64 32] w fun e w' => e = .returned (.tuple #[.int .i64 r, .agg #[.int .i64 s, .int .i64 t, .int .i64 (wrap64 (a + 1))]]) ∧ Kept w w' := by
  have hA := (Kept.refl w).alloc #[.int .i64 s, .int .i64 t, .int .i64 a] 23
  have hB := (Kept.refl (w.alloc (.cells #[.int .i64 s, .int .i64 t, .int .i64 a] 23))).alloc #[.int .i64 0, .int .i64 0, .int .i64 0] 23
  have d1 := (dw_new w s t a 23).kept hB
  have d2 := (dw_new (w.alloc (.cells #[.int .i64 s, .int .i64 t, .int .i64 a] 23)) 0 0 0 23)
  rw [show (w.alloc (.cells #[.int .i64 s, .int .i64 t, .int .i64 a] 23)).heap.size = w.heap.size + 1 by simp] at d2
  have hW0 := hA.trans hB
  clear hA hB
  obtain ⟨Z, hZ⟩ : ∃ Z, Z = wz s t a := ⟨_, rfl⟩
  obtain ⟨P, hP⟩ : ∃ P, P = wrap64 (a + 1) := ⟨_, rfl⟩
  obtain ⟨V, hV⟩ : ∃ V : Nat, V = wn s t a := ⟨_, rfl⟩
  have u1 : IntKind.u64.wrap Z = (V : Int) := by rw [hZ, hV, u_wz]
  have hV64 : V < 18446744073709551616 := by rw [hV]; exact wn_lt _ _ _
  have HN : Hid (∀ u, Calls Try.prog 22 #[.agg #[.int .i64 s, .int .i64 t, .int .i64 a]] u fun e w' => e = .returned (.tuple #[.int .i64 Z, .agg #[.int .i64 s, .int .i64 t, .int .i64 P]]) ∧ Kept u w') := fun u => by rw [hZ, hP]; exact grnext_any s t a u
  rw [← hV] at h
  rw [← hP]
  clear hZ hP hV
  obtain ⟨M, hM⟩ : ∃ M : Nat, M = V / 1099511627776 := ⟨_, rfl⟩
  rw [← hM] at h
  have HJ : Hid (∀ w : World, Calls Try.prog 39 #[.bool false, .int .i64 (M : Int), .int .i64 (-24), .int .i64 32] w fun e w' => ∃ g, e = .returned (.tuple #[.int .i64 r, .bool g]) ∧ Kept w w') := h
  clear h
  have u2 : (V : Int) / 1099511627776 = (M : Int) := by rw [hM]; rfl
  have u3 : IntKind.i64.wrap (M : Int) = (M : Int) := by rw [wrap_i64, hM]; omega
  clear hM
  go_enter Try.func26, Try.ntmps26
  go_upto_region 1 with fail
  obtain ⟨X, hX⟩ : ∃ X, X = (w.alloc (.cells #[.int .i64 s, .int .i64 t, .int .i64 a] 23)).alloc (.cells #[.int .i64 0, .int .i64 0, .int .i64 0] 23) := ⟨_, rfl⟩
  rw [← hX] at d1 d2 hW0 ⊢
  clear hX
  have D1 := d1
  obtain ⟨⟨c0, c1, c2⟩, f1⟩ := D1
  go_wp2_with fail
  refine (HN.out _).mono ?_
  rintro e w1 ⟨rfl, hk1⟩
  clear c0 c1 c2 f1
  have g1 := d1.kept hk1
  have g2 := d2.kept hk1
  have hK := hW0.trans hk1
  have G1' := g1
  obtain ⟨⟨c0, c1, c2⟩, f1⟩ := G1'
  go_upto_region 2 with fail
  clear c0 c1 c2 f1
  have k1 := g1.put s t P
  have k2 := g2.far3 w.heap.size (by simp) (.int .i64 s) (.int .i64 t) (.int .i64 P)
  have k3 := hK.put3 w.heap.size (Nat.le_refl _) (.int .i64 s) (.int .i64 t) (.int .i64 P)
  obtain ⟨Y, hY⟩ : ∃ Y, Y = put3 w1 w.heap.size (.int .i64 s) (.int .i64 t) (.int .i64 P) := ⟨_, rfl⟩
  rw [← hY] at k1 k2 k3
  unfold put3 at hY
  rw [← hY]
  clear hY g1 g2 hK d1 d2 hW0 hk1
  go_wp2_with fail
  refine (HJ.out _).mono ?_
  rintro e w2 ⟨gg, rfl, hk2⟩
  have k4 := k3.trans hk2
  obtain ⟨⟨c0, c1, c2⟩, f1⟩ := k1.kept hk2
  obtain ⟨⟨c3, c4, c5⟩, f2⟩ := k2.kept hk2
  clear k1 k2 k3 hk2
  go_wp2_with fail
  go_region_held (fun u => Kept w u ∧ u.cell? ⟨w.heap.size, 0, none⟩ = some (.int .i64 s) ∧ u.cell? ⟨w.heap.size, 1, none⟩ = some (.int .i64 t) ∧ u.cell? ⟨w.heap.size, 2, none⟩ = some (.int .i64 P)) (first | exact ⟨k4.drew, c0, c1, c2⟩ | assumption | exact keep3d k4 (by simp) (by simp) ⟨c0, c1, c2⟩ _ _ _) (fail)
  go_wp2
  exact bodyPost_ret (v := .tuple #[.int .i64 r, .agg #[.int .i64 s, .int .i64 t, .int .i64 P]]) (by simp [results, Try.results26, go_sem, *]) rfl ⟨rfl, (keep3d k4 (by simp) (by simp) ⟨c0, c1, c2⟩ _ _ _).1⟩

end Go.Proofs.Ytakdnodgcdddeaa
