/- Shapes that do not come out; Form, CutCols, CutRows, Window of package tensor where the shape refuses. -/
import Derived.Test.YtcldcjchfagcoaaT44
namespace Go.Proofs.Ytcldcjchfagcoaa
open Go.ChangeShapes Go.WideShapes Go.ChangeAt Go.RowKit
set_option linter.unusedVariables false
set_option linter.unusedSimpArgs false

theorem ckS_val (r c n : Int) : ckS r c n = 0 ∨ ckS r c n = 2 ∨ ckS r c n = 3 ∨ ckS r c n = 4 := by
  unfold ckS ckR
  (repeat' split) <;> omega

set_option maxHeartbeats 1000000 in
set_option maxRecDepth 100000 in
theorem formed_no (r c n rs cs : Int) (hr : 1 ≤ r) (hc : 1 ≤ c) (hrc : r * c ≤ 4096) (h : ckS rs cs n ≠ 0 ∨ rs * cs ≠ r * c) (w : World) : Calls Try.prog 63 #[.agg #[.int .i64 r, .int .i64 c, .int .i64 n], .int .i64 rs, .int .i64 cs] w fun e w' => e = .returned (.tuple #[zeroShape, .int .i64 4]) ∧ Kept w w' := by
  obtain ⟨X, hX⟩ : ∃ X, X = ((w.alloc (.cells #[.int .i64 r, .int .i64 c, .int .i64 n] 44)).alloc (.cells #[.int .i64 0, .int .i64 0, .int .i64 0] 44)).alloc (.cells #[.int .i64 rs, .int .i64 cs, .int .i64 n] 44) := ⟨_, rfl⟩
  have hK : Kept w X := by rw [hX]; exact (((Kept.refl w).alloc _ _).alloc _ _).alloc _ _
  have hA : M3 X w.heap.size (.int .i64 r) (.int .i64 c) (.int .i64 n) := by rw [hX]; exact ⟨by simp [go_sem], by simp [go_sem], by simp [go_sem]⟩
  have hR : M3 X (w.heap.size + 1) (.int .i64 0) (.int .i64 0) (.int .i64 0) := by rw [hX]; exact ⟨by simp [go_sem], by simp [go_sem], by simp [go_sem]⟩
  have hT : M3 X (w.heap.size + 2) (.int .i64 rs) (.int .i64 cs) (.int .i64 n) := by rw [hX]; exact ⟨by simp [go_sem], by simp [go_sem], by simp [go_sem]⟩
  have hF : ∀ o, X.frozen? ⟨w.heap.size + 1, o, none⟩ = false := fun o => by rw [hX]; simp [go_sem]
  have KC : Hid (∀ u, Calls Try.prog 44 #[.agg #[.int .i64 rs, .int .i64 cs, .int .i64 n]] u fun e w' => e = .returned (.int .i64 (ckS rs cs n)) ∧ Kept u w') := fun u => checkShape_any rs cs n u
  by_cases h0 : ckS rs cs n = 0
  · obtain ⟨hn, h1, h2, h3⟩ := ckS_ok h0
    have hlm := le_of_mul h1 h2
    have hlm2 := le_of_mul hr hc
    have z1 : IntKind.i64.wrap (rs * cs) = rs * cs := by rw [wrap_i64]; omega
    have z2 : IntKind.i64.wrap (r * c) = r * c := by rw [wrap_i64]; omega
    have z3 : (rs * cs != r * c) = true := by
      rcases h with h | h
      · exact absurd h0 h
      · simpa using h
    rw [h0] at KC
    clear h0 h hn h1 h2 h3 hlm hlm2 hr hc hrc
    go_enter Try.func63, Try.ntmps63
    go_upto_region 2 with fail
    rw [← hX]
    clear hX
    obtain ⟨t0, t1, t2⟩ := hT
    go_wp2_with (first | (go_at_call 44; refine (KC.out _).mono ?_; rintro e w1 ⟨rfl, k1⟩; obtain ⟨a0, a1, a2⟩ := hA.bl k1.bl; have hr1 := hR.bl k1.bl; have f1 : ∀ o, w1.frozen? ⟨w.heap.size + 1, o, none⟩ = false := fun o => (k1.frozen _).trans (hF o); obtain ⟨p0, p1, p2⟩ := M3.put w1 _ _ _ _ hr1 (.int .i64 0) (.int .i64 0) (.int .i64 0); obtain ⟨r0, r1, r2⟩ := hr1))
    exact bodyPost_ret (v := .tuple #[zeroShape, .int .i64 4]) (by simp [results, Try.results63, go_sem, *]) rfl ⟨rfl, (hK.trans k1).setCell (by simp) _ |>.setCell (by simp) _ |>.setCell (by simp) _⟩
  · generalize ckS rs cs n = q at *
    have hq : (q != 0) = true := by simpa using h0
    clear h0 h
    go_enter Try.func63, Try.ntmps63
    go_upto_region 2 with fail
    rw [← hX]
    clear hX
    obtain ⟨t0, t1, t2⟩ := hT
    go_wp2_with (first | (go_at_call 44; refine (KC.out _).mono ?_; rintro e w1 ⟨rfl, k1⟩; obtain ⟨a0, a1, a2⟩ := hA.bl k1.bl; have hr1 := hR.bl k1.bl; have f1 : ∀ o, w1.frozen? ⟨w.heap.size + 1, o, none⟩ = false := fun o => (k1.frozen _).trans (hF o); obtain ⟨p0, p1, p2⟩ := M3.put w1 _ _ _ _ hr1 (.int .i64 0) (.int .i64 0) (.int .i64 0); obtain ⟨r0, r1, r2⟩ := hr1))
    exact bodyPost_ret (v := .tuple #[zeroShape, .int .i64 4]) (by simp [results, Try.results63, go_sem, *]) rfl ⟨rfl, (hK.trans k1).setCell (by simp) _ |>.setCell (by simp) _ |>.setCell (by simp) _⟩

set_option maxHeartbeats 1000000 in
set_option maxRecDepth 100000 in
theorem colsCut_no (r c n f t : Int) (h : f < 0 ∨ c < t ∨ t ≤ f) (w : World) : Calls Try.prog 64 #[.agg #[.int .i64 r, .int .i64 c, .int .i64 n], .int .i64 f, .int .i64 t] w fun e w' => e = .returned (.tuple #[zeroShape, .int .i64 5]) ∧ Kept w w' := by
  rcases (show f < 0 ∨ (¬ f < 0 ∧ c < t) ∨ (¬ f < 0 ∧ ¬ c < t ∧ t ≤ f) by omega) with g1 | ⟨g1, g2⟩ | ⟨g1, g2, g3⟩
  all_goals
    clear h
    go_enter Try.func64, Try.ntmps64
    go_wp2_with fail
    exact bodyPost_ret (v := .tuple #[zeroShape, .int .i64 5]) (by simp [results, Try.results64, go_sem]) rfl ⟨rfl, ((Kept.refl w).alloc _ _).alloc _ _⟩

set_option maxHeartbeats 1000000 in
set_option maxRecDepth 100000 in
theorem rowsCut_no (r c n f t : Int) (h : f < 0 ∨ r < t ∨ t ≤ f) (w : World) : Calls Try.prog 65 #[.agg #[.int .i64 r, .int .i64 c, .int .i64 n], .int .i64 f, .int .i64 t] w fun e w' => e = .returned (.tuple #[zeroShape, .int .i64 5]) ∧ Kept w w' := by
  have KC : Hid (∀ u, Calls Try.prog 64 #[.agg #[.int .i64 c, .int .i64 r, .int .i64 n], .int .i64 f, .int .i64 t] u fun e w' => e = .returned (.tuple #[.agg #[.int .i64 0, .int .i64 0, .int .i64 0], .int .i64 5]) ∧ Kept u w') := fun u => colsCut_no c r n f t h u
  have KT1 : Hid (∀ u, Calls Try.prog 62 #[.agg #[.int .i64 r, .int .i64 c, .int .i64 n]] u fun e w' => e = .returned (.agg #[.int .i64 c, .int .i64 r, .int .i64 n]) ∧ Kept u w') := fun u => turned_any r c n u
  have KT2 : Hid (∀ u, Calls Try.prog 62 #[.agg #[.int .i64 0, .int .i64 0, .int .i64 0]] u fun e w' => e = .returned (.agg #[.int .i64 0, .int .i64 0, .int .i64 0]) ∧ Kept u w') := fun u => turned_any 0 0 0 u
  obtain ⟨X, hX⟩ : ∃ X, X = (w.alloc (.cells #[.int .i64 r, .int .i64 c, .int .i64 n] 44)).alloc (.cells #[.int .i64 0, .int .i64 0, .int .i64 0] 44) := ⟨_, rfl⟩
  have hK : Kept w X := by rw [hX]; exact ((Kept.refl w).alloc _ _).alloc _ _
  have hA : M3 X w.heap.size (.int .i64 r) (.int .i64 c) (.int .i64 n) := by rw [hX]; exact ⟨by simp [go_sem], by simp [go_sem], by simp [go_sem]⟩
  have hR : M3 X (w.heap.size + 1) (.int .i64 0) (.int .i64 0) (.int .i64 0) := by rw [hX]; exact ⟨by simp [go_sem], by simp [go_sem], by simp [go_sem]⟩
  have hF : ∀ o, X.frozen? ⟨w.heap.size + 1, o, none⟩ = false := fun o => by rw [hX]; simp [go_sem]
  have hF0 : ∀ o, X.frozen? ⟨w.heap.size, o, none⟩ = false := fun o => by rw [hX]; simp [go_sem]
  clear h
  go_enter Try.func65, Try.ntmps65
  go_upto_region 1 with fail
  rw [← hX]
  clear hX
  have hA' := hA
  obtain ⟨a0, a1, a2⟩ := hA'
  go_upto_region 2 with (first | (go_at_call 62; refine (KT1.out _).mono ?_; rintro e w1 ⟨rfl, k1⟩) | (go_at_call 64; refine (KC.out _).mono ?_; rintro e w2 ⟨rfl, k2⟩; have ha2 := hA.bl (k1.trans k2).bl; have f0 : ∀ o, w2.frozen? ⟨w.heap.size, o, none⟩ = false := fun o => ((k1.trans k2).frozen _).trans (hF0 o); obtain ⟨b0, b1, b2⟩ := ha2))
  obtain ⟨Y, hY⟩ : ∃ Y, Y = ((w2.setCell ⟨w.heap.size, 0, none⟩ (.int .i64 0)).setCell ⟨w.heap.size, 1, none⟩ (.int .i64 0)).setCell ⟨w.heap.size, 2, none⟩ (.int .i64 0) := ⟨_, rfl⟩
  rw [← hY]
  have hkY : Kept w Y := by rw [hY]; exact ((hK.trans (k1.trans k2)).setCell (by simp) _).setCell (by simp) _ |>.setCell (by simp) _
  have hAY : M3 Y w.heap.size (.int .i64 0) (.int .i64 0) (.int .i64 0) := by rw [hY]; exact M3.put w2 _ _ _ _ ⟨b0, b1, b2⟩ _ _ _
  have hRY : M3 Y (w.heap.size + 1) (.int .i64 0) (.int .i64 0) (.int .i64 0) := by
    obtain ⟨c0, c1, c2⟩ := hR.bl (k1.trans k2).bl
    rw [hY]
    exact ⟨by simp [go_sem, *], by simp [go_sem, *], by simp [go_sem, *]⟩
  have hFY : ∀ o, Y.frozen? ⟨w.heap.size + 1, o, none⟩ = false := fun o => by
    rw [hY, World.frozen?_setCell, World.frozen?_setCell, World.frozen?_setCell]
    exact ((k1.trans k2).frozen _).trans (hF o)
  clear hY a0 a1 a2 b0 b1 b2 KT1 KC
  obtain ⟨a0, a1, a2⟩ := hAY
  go_wp2_with (first | (go_at_call 62; refine (KT2.out _).mono ?_; rintro e w3 ⟨rfl, k3⟩; have hr1 := hRY.bl k3.bl; have f1 : ∀ o, w3.frozen? ⟨w.heap.size + 1, o, none⟩ = false := fun o => (k3.frozen _).trans (hFY o); obtain ⟨p0, p1, p2⟩ := M3.put w3 _ _ _ _ hr1 (.int .i64 0) (.int .i64 0) (.int .i64 0); obtain ⟨r0, r1, r2⟩ := hr1))
  exact bodyPost_ret (v := .tuple #[.agg #[.int .i64 0, .int .i64 0, .int .i64 0], .int .i64 5]) (by simp [results, Try.results65, go_sem, *]) rfl ⟨rfl, (hkY.trans k3).setCell (by simp) _ |>.setCell (by simp) _ |>.setCell (by simp) _⟩

set_option maxHeartbeats 2000000 in
set_option maxRecDepth 100000 in
theorem form_bad (r c n f t q : Int) (ao : Option Addr) (cap : Nat) (L : List Int) (h : ckM r c n L = 0) (hq : q ≠ 0) (KB0 : ∀ u, Calls Try.prog 63 #[.agg #[.int .i64 r, .int .i64 c, .int .i64 n], .int .i64 f, .int .i64 t] u fun e w' => e = .returned (.tuple #[zeroShape, .int .i64 q]) ∧ Kept u w') (w : World) (hS : Sl w (.slice ao L.length cap) L) : Calls Try.prog 30 #[.agg #[.int .i64 r, .int .i64 c, .int .i64 n, .slice ao L.length cap], .int .i64 f, .int .i64 t] w fun e w' => e = .returned (.tuple #[zeroMat, .int .i64 q]) ∧ Kept w w' := by
  obtain ⟨hM, hR, hF, hK, hs⟩ := st2_facts w r c n (.slice ao L.length cap)
  obtain ⟨X, hX⟩ : ∃ X, X = st2 w r c n (.slice ao L.length cap) := ⟨_, rfl⟩
  rw [← hX] at hM hR hF hK hs
  have KC : Hid (Calls Try.prog 11 #[.agg #[.int .i64 r, .int .i64 c, .int .i64 n, .slice ao L.length cap]] X fun e w' => e = .returned (.int .i64 0) ∧ Kept X w') := by
    have := check_any r c n ao cap L _ (hS.kept hK)
    rw [h] at this
    exact this
  have KA : Hid (∀ u, Calls Try.prog 45 #[.agg #[.int .i64 r, .int .i64 c, .int .i64 n, .slice ao L.length cap]] u fun e w' => e = .returned (.agg #[.int .i64 r, .int .i64 c, .int .i64 n]) ∧ Kept u w') := fun u => shapeOf_any _ _ _ _ u
  have KB : Hid (∀ u, Calls Try.prog 63 #[.agg #[.int .i64 r, .int .i64 c, .int .i64 n], .int .i64 f, .int .i64 t] u fun e w' => e = .returned (.tuple #[zeroShape, .int .i64 q]) ∧ Kept u w') := KB0
  unfold st2 at hX
  have hqb : (q != 0) = true := by simpa using hq
  clear hS h KB0 hq
  generalize L.length = l at *
  go_enter Try.func30, Try.ntmps30
  go_upto_region 1 with fail
  rw [← hX]
  clear hX
  have hM' := hM
  obtain ⟨m0, m1, m2, m3⟩ := hM'
  go_upto_region 4 with (first | (go_at_call 11; refine (KC.out).mono ?_; rintro e w1 ⟨rfl, k1⟩))
  clear m0 m1 m2 m3
  obtain ⟨m0, m1, m2, m3⟩ := hM.bl k1.bl
  go_upto_region 5 with (first | (go_at_call 45; refine (KA.out _).mono ?_; rintro e w3 ⟨rfl, k3⟩) | (go_at_call 63; refine (KB.out _).mono ?_; rintro e w4 ⟨rfl, k4⟩))
  obtain ⟨W, hW⟩ : ∃ W, W = w4.alloc (.cells #[.int .i64 0, .int .i64 0, .int .i64 0] 44) := ⟨_, rfl⟩
  rw [← hW]
  have kXW : Kept X W := by rw [hW]; exact (k1.trans (k3.trans k4)).alloc _ _
  have hr1 := hR.bl kXW.bl
  have f1 : ∀ o, W.frozen? ⟨w.heap.size + 1, o, none⟩ = false := fun o => (kXW.frozen _).trans (hF o)
  obtain ⟨p0, p1, p2, p3⟩ := res4 W _ _ _ _ _ hr1 (.int .i64 0) (.int .i64 0) (.int .i64 0) (.slice none 0 0)
  obtain ⟨r0, r1, r2, r3⟩ := hr1
  clear hW m0 m1 m2 m3
  go_wp2_with fail
  exact bodyPost_ret (v := .tuple #[zeroMat, .int .i64 q]) (by simp [results, Try.results30, go_sem, *]) rfl ⟨rfl, (((hK.trans kXW).setCell (p := ⟨w.heap.size + 1, 0, none⟩) (by simp) _).setCell (p := ⟨w.heap.size + 1, 1, none⟩) (by simp) _).setCell (p := ⟨w.heap.size + 1, 2, none⟩) (by simp) _ |>.setCell (p := ⟨w.heap.size + 1, 3, none⟩) (by simp) _⟩

set_option maxHeartbeats 2000000 in
set_option maxRecDepth 100000 in
theorem cutRows_bad (r c n f t q : Int) (ao : Option Addr) (cap : Nat) (L : List Int) (h : ckM r c n L = 0) (hq : q ≠ 0) (KB0 : ∀ u, Calls Try.prog 65 #[.agg #[.int .i64 r, .int .i64 c, .int .i64 n], .int .i64 f, .int .i64 t] u fun e w' => e = .returned (.tuple #[zeroShape, .int .i64 q]) ∧ Kept u w') (w : World) (hS : Sl w (.slice ao L.length cap) L) : Calls Try.prog 32 #[.agg #[.int .i64 r, .int .i64 c, .int .i64 n, .slice ao L.length cap], .int .i64 f, .int .i64 t] w fun e w' => e = .returned (.tuple #[zeroMat, .int .i64 q]) ∧ Kept w w' := by
  obtain ⟨hM, hR, hF, hK, hs⟩ := st2_facts w r c n (.slice ao L.length cap)
  obtain ⟨X, hX⟩ : ∃ X, X = st2 w r c n (.slice ao L.length cap) := ⟨_, rfl⟩
  rw [← hX] at hM hR hF hK hs
  have KC : Hid (Calls Try.prog 11 #[.agg #[.int .i64 r, .int .i64 c, .int .i64 n, .slice ao L.length cap]] X fun e w' => e = .returned (.int .i64 0) ∧ Kept X w') := by
    have := check_any r c n ao cap L _ (hS.kept hK)
    rw [h] at this
    exact this
  have KA : Hid (∀ u, Calls Try.prog 45 #[.agg #[.int .i64 r, .int .i64 c, .int .i64 n, .slice ao L.length cap]] u fun e w' => e = .returned (.agg #[.int .i64 r, .int .i64 c, .int .i64 n]) ∧ Kept u w') := fun u => shapeOf_any _ _ _ _ u
  have KB : Hid (∀ u, Calls Try.prog 65 #[.agg #[.int .i64 r, .int .i64 c, .int .i64 n], .int .i64 f, .int .i64 t] u fun e w' => e = .returned (.tuple #[zeroShape, .int .i64 q]) ∧ Kept u w') := KB0
  unfold st2 at hX
  have hqb : (q != 0) = true := by simpa using hq
  clear hS h KB0 hq
  generalize L.length = l at *
  go_enter Try.func32, Try.ntmps32
  go_upto_region 1 with fail
  rw [← hX]
  clear hX
  have hM' := hM
  obtain ⟨m0, m1, m2, m3⟩ := hM'
  go_upto_region 4 with (first | (go_at_call 11; refine (KC.out).mono ?_; rintro e w1 ⟨rfl, k1⟩))
  clear m0 m1 m2 m3
  obtain ⟨m0, m1, m2, m3⟩ := hM.bl k1.bl
  go_upto_region 5 with (first | (go_at_call 45; refine (KA.out _).mono ?_; rintro e w3 ⟨rfl, k3⟩) | (go_at_call 65; refine (KB.out _).mono ?_; rintro e w4 ⟨rfl, k4⟩))
  obtain ⟨W, hW⟩ : ∃ W, W = w4.alloc (.cells #[.int .i64 0, .int .i64 0, .int .i64 0] 44) := ⟨_, rfl⟩
  rw [← hW]
  have kXW : Kept X W := by rw [hW]; exact (k1.trans (k3.trans k4)).alloc _ _
  have hr1 := hR.bl kXW.bl
  have f1 : ∀ o, W.frozen? ⟨w.heap.size + 1, o, none⟩ = false := fun o => (kXW.frozen _).trans (hF o)
  obtain ⟨p0, p1, p2, p3⟩ := res4 W _ _ _ _ _ hr1 (.int .i64 0) (.int .i64 0) (.int .i64 0) (.slice none 0 0)
  obtain ⟨r0, r1, r2, r3⟩ := hr1
  clear hW m0 m1 m2 m3
  go_wp2_with fail
  exact bodyPost_ret (v := .tuple #[zeroMat, .int .i64 q]) (by simp [results, Try.results32, go_sem, *]) rfl ⟨rfl, (((hK.trans kXW).setCell (p := ⟨w.heap.size + 1, 0, none⟩) (by simp) _).setCell (p := ⟨w.heap.size + 1, 1, none⟩) (by simp) _).setCell (p := ⟨w.heap.size + 1, 2, none⟩) (by simp) _ |>.setCell (p := ⟨w.heap.size + 1, 3, none⟩) (by simp) _⟩

set_option maxHeartbeats 2000000 in
set_option maxRecDepth 100000 in
theorem window_bad (r c n f t q : Int) (ao : Option Addr) (cap : Nat) (L : List Int) (h : ckM r c n L = 0) (hq : q ≠ 0) (KB0 : ∀ u, Calls Try.prog 66 #[.agg #[.int .i64 r, .int .i64 c, .int .i64 n], .int .i64 f, .int .i64 t] u fun e w' => e = .returned (.tuple #[zeroShape, .int .i64 q]) ∧ Kept u w') (w : World) (hS : Sl w (.slice ao L.length cap) L) : Calls Try.prog 33 #[.agg #[.int .i64 r, .int .i64 c, .int .i64 n, .slice ao L.length cap], .int .i64 f, .int .i64 t] w fun e w' => e = .returned (.tuple #[zeroMat, .int .i64 q]) ∧ Kept w w' := by
  obtain ⟨hM, hR, hF, hK, hs⟩ := st2_facts w r c n (.slice ao L.length cap)
  obtain ⟨X, hX⟩ : ∃ X, X = st2 w r c n (.slice ao L.length cap) := ⟨_, rfl⟩
  rw [← hX] at hM hR hF hK hs
  have KC : Hid (Calls Try.prog 11 #[.agg #[.int .i64 r, .int .i64 c, .int .i64 n, .slice ao L.length cap]] X fun e w' => e = .returned (.int .i64 0) ∧ Kept X w') := by
    have := check_any r c n ao cap L _ (hS.kept hK)
    rw [h] at this
    exact this
  have KA : Hid (∀ u, Calls Try.prog 45 #[.agg #[.int .i64 r, .int .i64 c, .int .i64 n, .slice ao L.length cap]] u fun e w' => e = .returned (.agg #[.int .i64 r, .int .i64 c, .int .i64 n]) ∧ Kept u w') := fun u => shapeOf_any _ _ _ _ u
  have KB : Hid (∀ u, Calls Try.prog 66 #[.agg #[.int .i64 r, .int .i64 c, .int .i64 n], .int .i64 f, .int .i64 t] u fun e w' => e = .returned (.tuple #[zeroShape, .int .i64 q]) ∧ Kept u w') := KB0
  unfold st2 at hX
  have hqb : (q != 0) = true := by simpa using hq
  clear hS h KB0 hq
  generalize L.length = l at *
  go_enter Try.func33, Try.ntmps33
  go_upto_region 1 with fail
  rw [← hX]
  clear hX
  have hM' := hM
  obtain ⟨m0, m1, m2, m3⟩ := hM'
  go_upto_region 4 with (first | (go_at_call 11; refine (KC.out).mono ?_; rintro e w1 ⟨rfl, k1⟩))
  clear m0 m1 m2 m3
  obtain ⟨m0, m1, m2, m3⟩ := hM.bl k1.bl
  go_upto_region 5 with (first | (go_at_call 45; refine (KA.out _).mono ?_; rintro e w3 ⟨rfl, k3⟩) | (go_at_call 66; refine (KB.out _).mono ?_; rintro e w4 ⟨rfl, k4⟩))
  obtain ⟨W, hW⟩ : ∃ W, W = w4.alloc (.cells #[.int .i64 0, .int .i64 0, .int .i64 0] 44) := ⟨_, rfl⟩
  rw [← hW]
  have kXW : Kept X W := by rw [hW]; exact (k1.trans (k3.trans k4)).alloc _ _
  have hr1 := hR.bl kXW.bl
  have f1 : ∀ o, W.frozen? ⟨w.heap.size + 1, o, none⟩ = false := fun o => (kXW.frozen _).trans (hF o)
  obtain ⟨p0, p1, p2, p3⟩ := res4 W _ _ _ _ _ hr1 (.int .i64 0) (.int .i64 0) (.int .i64 0) (.slice none 0 0)
  obtain ⟨r0, r1, r2, r3⟩ := hr1
  clear hW m0 m1 m2 m3
  go_wp2_with fail
  exact bodyPost_ret (v := .tuple #[zeroMat, .int .i64 q]) (by simp [results, Try.results33, go_sem, *]) rfl ⟨rfl, (((hK.trans kXW).setCell (p := ⟨w.heap.size + 1, 0, none⟩) (by simp) _).setCell (p := ⟨w.heap.size + 1, 1, none⟩) (by simp) _).setCell (p := ⟨w.heap.size + 1, 2, none⟩) (by simp) _ |>.setCell (p := ⟨w.heap.size + 1, 3, none⟩) (by simp) _⟩

set_option maxHeartbeats 4000000 in
set_option maxRecDepth 100000 in
theorem cutCols_bad (r c n f t q : Int) (ao : Option Addr) (cap : Nat) (L : List Int) (h : ckM r c n L = 0) (hq : q ≠ 0) (KB0 : ∀ u, Calls Try.prog 64 #[.agg #[.int .i64 r, .int .i64 c, .int .i64 n], .int .i64 f, .int .i64 t] u fun e w' => e = .returned (.tuple #[zeroShape, .int .i64 q]) ∧ Kept u w') (w : World) (hS : Sl w (.slice ao L.length cap) L) : Calls Try.prog 31 #[.agg #[.int .i64 r, .int .i64 c, .int .i64 n, .slice ao L.length cap], .int .i64 f, .int .i64 t] w fun e w' => e = .returned (.tuple #[zeroMat, .int .i64 q]) ∧ Kept w w' := by
  obtain ⟨hM, ⟨hfc, htc⟩, hR, hF, hK, hs⟩ := st4_facts w r c n f t (.slice ao L.length cap)
  obtain ⟨X, hX⟩ : ∃ X, X = st4 w r c n f t (.slice ao L.length cap) := ⟨_, rfl⟩
  rw [← hX] at hM hfc htc hR hF hK hs
  have KC : Hid (Calls Try.prog 11 #[.agg #[.int .i64 r, .int .i64 c, .int .i64 n, .slice ao L.length cap]] X fun e w' => e = .returned (.int .i64 0) ∧ Kept X w') := by
    have := check_any r c n ao cap L _ (hS.kept hK)
    rw [h] at this
    exact this
  have KA : Hid (∀ u, Kept X u → Calls Try.prog 45 #[.agg #[.int .i64 r, .int .i64 c, .int .i64 n, .slice ao L.length cap]] u fun e w' => e = .returned (.agg #[.int .i64 r, .int .i64 c, .int .i64 n]) ∧ Kept X w' ∧ Kept u w') := fun u k => by
    refine (shapeOf_any _ _ _ _ u).mono ?_
    rintro e w' ⟨rfl, k'⟩
    exact ⟨rfl, k.trans k', k'⟩
  have KB : Hid (∀ u, Kept X u → Calls Try.prog 64 #[.agg #[.int .i64 r, .int .i64 c, .int .i64 n], .int .i64 f, .int .i64 t] u fun e w' => e = .returned (.tuple #[zeroShape, .int .i64 q]) ∧ Kept X w' ∧ Kept u w') := fun u k => by
    refine (KB0 u).mono ?_
    rintro e w' ⟨rfl, k'⟩
    exact ⟨rfl, k.trans k', k'⟩
  have HS : Hid (∀ u, Kept X u → Kept X u ∧ (u.cell? ⟨w.heap.size, 0, none⟩ = some (.int .i64 r) ∧ u.cell? ⟨w.heap.size, 1, none⟩ = some (.int .i64 c) ∧ u.cell? ⟨w.heap.size, 2, none⟩ = some (.int .i64 n) ∧ u.cell? ⟨w.heap.size, 3, none⟩ = some (.slice ao L.length cap)) ∧ u.cell? ⟨w.heap.size + 1, 0, none⟩ = some (.int .i64 f) ∧ u.cell? ⟨w.heap.size + 2, 0, none⟩ = some (.int .i64 t)) := fun u k => by
    obtain ⟨m0, m1, m2, m3⟩ := hM.bl k.bl
    exact ⟨k, ⟨m0, m1, m2, m3⟩, (k.bl.cell (w.heap.size + 1) 0 (by omega)).trans hfc, (k.bl.cell (w.heap.size + 2) 0 (by omega)).trans htc⟩
  unfold st4 at hX
  have hqb : (q != 0) = true := by simpa using hq
  clear hS h KB0 hq
  generalize L.length = l at *
  go_enter Try.func31, Try.ntmps31
  go_upto_region 1 with fail
  rw [← hX]
  clear hX
  have hM' := hM
  obtain ⟨m0, m1, m2, m3⟩ := hM'
  go_upto_region 4 with (first | (go_at_call 11; refine (KC.out).mono ?_; rintro e w1 ⟨rfl, k1⟩))
  clear m0 m1 m2 m3
  have kd := k1.drew
  have z1 := k1.below.size
  go_cut [9, 10] from 14 to 27 (fun t9 t10 wx => ∃ B, t9 = .pointer (some ⟨B, 0, none⟩) ∧ t10 = .int .i64 q ∧ X.heap.size ≤ B ∧ M3 wx B (.int .i64 0) (.int .i64 0) (.int .i64 0) ∧ Kept X wx)
  case first =>
    go_region_held (fun u => Kept X u ∧ (u.cell? ⟨w.heap.size, 0, none⟩ = some (.int .i64 r) ∧ u.cell? ⟨w.heap.size, 1, none⟩ = some (.int .i64 c) ∧ u.cell? ⟨w.heap.size, 2, none⟩ = some (.int .i64 n) ∧ u.cell? ⟨w.heap.size, 3, none⟩ = some (.slice ao l cap)) ∧ u.cell? ⟨w.heap.size + 1, 0, none⟩ = some (.int .i64 f) ∧ u.cell? ⟨w.heap.size + 2, 0, none⟩ = some (.int .i64 t)) (first | assumption | exact HS.out _ kd | exact HS.out _ (by assumption) | exact HS.out _ (by repeat' first | assumption | exact Kept.alloc (by assumption) _ _ | (refine Kept.setCell ?_ ?_ _) | (simp; omega))) (first | (go_at_call 45; refine (KA.out _ (by first | assumption | exact Kept.alloc (by assumption) _ _)).mono ?_; rintro e w3 ⟨rfl, k3, j3⟩; have z3 := k3.below.size; (first | (have qz := zb_newd j3; obtain ⟨⟨q30, q31, q32⟩, q3f⟩ := qz) | (have qz := zb_new j3; obtain ⟨⟨q30, q31, q32⟩, q3f⟩ := qz) | skip)) | (go_at_call 64; refine (KB.out _ (by first | assumption | exact Kept.alloc (by assumption) _ _)).mono ?_; rintro e w4 ⟨rfl, k4, j4⟩; have z4 := k4.below.size; first | (have qz := zb_new j4; obtain ⟨⟨q40, q41, q42⟩, q4f⟩ := qz) | (have qz := zb_on ⟨q30, q31, q32⟩ q3f j4; obtain ⟨⟨q40, q41, q42⟩, q4f⟩ := qz) | skip))
    all_goals go_wp2_with fail
    all_goals go_meet
    all_goals
      refine ⟨_, rfl, rfl, ?_, ?_, ?_⟩
      · omega
      · first | exact M3.put w4 _ _ _ _ ⟨q40, q41, q42⟩ _ _ _ | exact M3.new _ _ _ _ _
      · (repeat' first | assumption | exact Kept.alloc (by assumption) _ _ | (refine Kept.setCell ?_ ?_ _) | (simp; omega))
  case rest =>
    obtain ⟨B, rfl, rfl, hB, hM3, kc⟩ := hcut
    have hr1 := hR.bl kc.bl
    have f1 : ∀ o, wc.frozen? ⟨w.heap.size + 3, o, none⟩ = false := fun o => (kc.frozen _).trans (hF o)
    obtain ⟨p0, p1, p2, p3⟩ := res4 wc _ _ _ _ _ hr1 (.int .i64 0) (.int .i64 0) (.int .i64 0) (.slice none 0 0)
    obtain ⟨r0, r1, r2, r3⟩ := hr1
    go_wp2_with fail
    exact bodyPost_ret (v := .tuple #[zeroMat, .int .i64 q]) (by simp [results, Try.results31, go_sem, *]) rfl ⟨rfl, (((hK.trans kc).setCell (p := ⟨w.heap.size + 3, 0, none⟩) (by simp) _).setCell (p := ⟨w.heap.size + 3, 1, none⟩) (by simp) _).setCell (p := ⟨w.heap.size + 3, 2, none⟩) (by simp) _ |>.setCell (p := ⟨w.heap.size + 3, 3, none⟩) (by simp) _⟩
end Go.Proofs.Ytcldcjchfagcoaa
