/- Turn, Form, CutCols, CutRows, Window of package tensor where they refuse. -/
import Derived.Test.YtcldcjchfagcoaaT43
namespace Go.Proofs.Ytcldcjchfagcoaa
open Go.ChangeShapes Go.WideShapes Go.ChangeAt Go.RowKit
set_option linter.unusedVariables false
set_option linter.unusedSimpArgs false

set_option maxHeartbeats 2000000 in
set_option maxRecDepth 100000 in
theorem turn_no (r c n f t : Int) (ao : Option Addr) (cap : Nat) (L : List Int) (h : ckM r c n L ≠ 0) (w : World) (hS : Sl w (.slice ao L.length cap) L) : Calls Try.prog 29 #[.agg #[.int .i64 r, .int .i64 c, .int .i64 n, .slice ao L.length cap]] w fun e w' => e = .returned (.tuple #[zeroMat, .int .i64 (ckM r c n L)]) ∧ Kept w w' := by
  obtain ⟨hM, hR, hF, hK, hs⟩ := st2_facts w r c n (.slice ao L.length cap)
  obtain ⟨X, hX⟩ : ∃ X, X = st2 w r c n (.slice ao L.length cap) := ⟨_, rfl⟩
  rw [← hX] at hM hR hF hK hs
  have KC : Hid (Calls Try.prog 11 #[.agg #[.int .i64 r, .int .i64 c, .int .i64 n, .slice ao L.length cap]] X fun e w' => e = .returned (.int .i64 (ckM r c n L)) ∧ Kept X w') := check_any r c n ao cap L _ (hS.kept hK)
  unfold st2 at hX
  generalize ckM r c n L = q at *
  have hq : (q != 0) = true := by simpa using h
  clear hS
  generalize L.length = l at *
  go_enter Try.func29, Try.ntmps29
  go_upto_region 1 with fail
  rw [← hX]
  clear hX
  obtain ⟨m0, m1, m2, m3⟩ := hM
  go_wp2_with (first | (go_at_call 11; refine (KC.out).mono ?_; rintro e w1 ⟨rfl, k1⟩; have hr1 := hR.bl k1.bl; have f1 : ∀ o, w1.frozen? ⟨w.heap.size + 1, o, none⟩ = false := fun o => (k1.frozen _).trans (hF o); obtain ⟨p0, p1, p2, p3⟩ := res4 w1 _ _ _ _ _ hr1 (.int .i64 0) (.int .i64 0) (.int .i64 0) (.slice none 0 0); obtain ⟨r0, r1, r2, r3⟩ := hr1))
  exact bodyPost_ret (v := .tuple #[zeroMat, .int .i64 q]) (by simp [results, Try.results29, go_sem, *]) rfl ⟨rfl, (((hK.trans k1).setCell (p := ⟨w.heap.size + 1, 0, none⟩) (by simp <;> omega) _).setCell (p := ⟨w.heap.size + 1, 1, none⟩) (by simp <;> omega) _).setCell (p := ⟨w.heap.size + 1, 2, none⟩) (by simp <;> omega) _ |>.setCell (p := ⟨w.heap.size + 1, 3, none⟩) (by simp <;> omega) _⟩

set_option maxHeartbeats 2000000 in
set_option maxRecDepth 100000 in
theorem form_no (r c n f t : Int) (ao : Option Addr) (cap : Nat) (L : List Int) (h : ckM r c n L ≠ 0) (w : World) (hS : Sl w (.slice ao L.length cap) L) : Calls Try.prog 30 #[.agg #[.int .i64 r, .int .i64 c, .int .i64 n, .slice ao L.length cap], .int .i64 f, .int .i64 t] w fun e w' => e = .returned (.tuple #[zeroMat, .int .i64 (ckM r c n L)]) ∧ Kept w w' := by
  obtain ⟨hM, hR, hF, hK, hs⟩ := st2_facts w r c n (.slice ao L.length cap)
  obtain ⟨X, hX⟩ : ∃ X, X = st2 w r c n (.slice ao L.length cap) := ⟨_, rfl⟩
  rw [← hX] at hM hR hF hK hs
  have KC : Hid (Calls Try.prog 11 #[.agg #[.int .i64 r, .int .i64 c, .int .i64 n, .slice ao L.length cap]] X fun e w' => e = .returned (.int .i64 (ckM r c n L)) ∧ Kept X w') := check_any r c n ao cap L _ (hS.kept hK)
  unfold st2 at hX
  generalize ckM r c n L = q at *
  have hq : (q != 0) = true := by simpa using h
  clear hS
  generalize L.length = l at *
  go_enter Try.func30, Try.ntmps30
  go_upto_region 1 with fail
  rw [← hX]
  clear hX
  obtain ⟨m0, m1, m2, m3⟩ := hM
  go_wp2_with (first | (go_at_call 11; refine (KC.out).mono ?_; rintro e w1 ⟨rfl, k1⟩; have hr1 := hR.bl k1.bl; have f1 : ∀ o, w1.frozen? ⟨w.heap.size + 1, o, none⟩ = false := fun o => (k1.frozen _).trans (hF o); obtain ⟨p0, p1, p2, p3⟩ := res4 w1 _ _ _ _ _ hr1 (.int .i64 0) (.int .i64 0) (.int .i64 0) (.slice none 0 0); obtain ⟨r0, r1, r2, r3⟩ := hr1))
  exact bodyPost_ret (v := .tuple #[zeroMat, .int .i64 q]) (by simp [results, Try.results30, go_sem, *]) rfl ⟨rfl, (((hK.trans k1).setCell (p := ⟨w.heap.size + 1, 0, none⟩) (by simp <;> omega) _).setCell (p := ⟨w.heap.size + 1, 1, none⟩) (by simp <;> omega) _).setCell (p := ⟨w.heap.size + 1, 2, none⟩) (by simp <;> omega) _ |>.setCell (p := ⟨w.heap.size + 1, 3, none⟩) (by simp <;> omega) _⟩

set_option maxHeartbeats 2000000 in
set_option maxRecDepth 100000 in
theorem cutRows_no (r c n f t : Int) (ao : Option Addr) (cap : Nat) (L : List Int) (h : ckM r c n L ≠ 0) (w : World) (hS : Sl w (.slice ao L.length cap) L) : Calls Try.prog 32 #[.agg #[.int .i64 r, .int .i64 c, .int .i64 n, .slice ao L.length cap], .int .i64 f, .int .i64 t] w fun e w' => e = .returned (.tuple #[zeroMat, .int .i64 (ckM r c n L)]) ∧ Kept w w' := by
  obtain ⟨hM, hR, hF, hK, hs⟩ := st2_facts w r c n (.slice ao L.length cap)
  obtain ⟨X, hX⟩ : ∃ X, X = st2 w r c n (.slice ao L.length cap) := ⟨_, rfl⟩
  rw [← hX] at hM hR hF hK hs
  have KC : Hid (Calls Try.prog 11 #[.agg #[.int .i64 r, .int .i64 c, .int .i64 n, .slice ao L.length cap]] X fun e w' => e = .returned (.int .i64 (ckM r c n L)) ∧ Kept X w') := check_any r c n ao cap L _ (hS.kept hK)
  unfold st2 at hX
  generalize ckM r c n L = q at *
  have hq : (q != 0) = true := by simpa using h
  clear hS
  generalize L.length = l at *
  go_enter Try.func32, Try.ntmps32
  go_upto_region 1 with fail
  rw [← hX]
  clear hX
  obtain ⟨m0, m1, m2, m3⟩ := hM
  go_wp2_with (first | (go_at_call 11; refine (KC.out).mono ?_; rintro e w1 ⟨rfl, k1⟩; have hr1 := hR.bl k1.bl; have f1 : ∀ o, w1.frozen? ⟨w.heap.size + 1, o, none⟩ = false := fun o => (k1.frozen _).trans (hF o); obtain ⟨p0, p1, p2, p3⟩ := res4 w1 _ _ _ _ _ hr1 (.int .i64 0) (.int .i64 0) (.int .i64 0) (.slice none 0 0); obtain ⟨r0, r1, r2, r3⟩ := hr1))
  exact bodyPost_ret (v := .tuple #[zeroMat, .int .i64 q]) (by simp [results, Try.results32, go_sem, *]) rfl ⟨rfl, (((hK.trans k1).setCell (p := ⟨w.heap.size + 1, 0, none⟩) (by simp <;> omega) _).setCell (p := ⟨w.heap.size + 1, 1, none⟩) (by simp <;> omega) _).setCell (p := ⟨w.heap.size + 1, 2, none⟩) (by simp <;> omega) _ |>.setCell (p := ⟨w.heap.size + 1, 3, none⟩) (by simp <;> omega) _⟩

set_option maxHeartbeats 2000000 in
set_option maxRecDepth 100000 in
theorem window_no (r c n f t : Int) (ao : Option Addr) (cap : Nat) (L : List Int) (h : ckM r c n L ≠ 0) (w : World) (hS : Sl w (.slice ao L.length cap) L) : Calls Try.prog 33 #[.agg #[.int .i64 r, .int .i64 c, .int .i64 n, .slice ao L.length cap], .int .i64 f, .int .i64 t] w fun e w' => e = .returned (.tuple #[zeroMat, .int .i64 (ckM r c n L)]) ∧ Kept w w' := by
  obtain ⟨hM, hR, hF, hK, hs⟩ := st2_facts w r c n (.slice ao L.length cap)
  obtain ⟨X, hX⟩ : ∃ X, X = st2 w r c n (.slice ao L.length cap) := ⟨_, rfl⟩
  rw [← hX] at hM hR hF hK hs
  have KC : Hid (Calls Try.prog 11 #[.agg #[.int .i64 r, .int .i64 c, .int .i64 n, .slice ao L.length cap]] X fun e w' => e = .returned (.int .i64 (ckM r c n L)) ∧ Kept X w') := check_any r c n ao cap L _ (hS.kept hK)
  unfold st2 at hX
  generalize ckM r c n L = q at *
  have hq : (q != 0) = true := by simpa using h
  clear hS
  generalize L.length = l at *
  go_enter Try.func33, Try.ntmps33
  go_upto_region 1 with fail
  rw [← hX]
  clear hX
  obtain ⟨m0, m1, m2, m3⟩ := hM
  go_wp2_with (first | (go_at_call 11; refine (KC.out).mono ?_; rintro e w1 ⟨rfl, k1⟩; have hr1 := hR.bl k1.bl; have f1 : ∀ o, w1.frozen? ⟨w.heap.size + 1, o, none⟩ = false := fun o => (k1.frozen _).trans (hF o); obtain ⟨p0, p1, p2, p3⟩ := res4 w1 _ _ _ _ _ hr1 (.int .i64 0) (.int .i64 0) (.int .i64 0) (.slice none 0 0); obtain ⟨r0, r1, r2, r3⟩ := hr1))
  exact bodyPost_ret (v := .tuple #[zeroMat, .int .i64 q]) (by simp [results, Try.results33, go_sem, *]) rfl ⟨rfl, (((hK.trans k1).setCell (p := ⟨w.heap.size + 1, 0, none⟩) (by simp <;> omega) _).setCell (p := ⟨w.heap.size + 1, 1, none⟩) (by simp <;> omega) _).setCell (p := ⟨w.heap.size + 1, 2, none⟩) (by simp <;> omega) _ |>.setCell (p := ⟨w.heap.size + 1, 3, none⟩) (by simp <;> omega) _⟩

set_option maxHeartbeats 2000000 in
set_option maxRecDepth 100000 in
theorem cutCols_no (r c n f t : Int) (ao : Option Addr) (cap : Nat) (L : List Int) (h : ckM r c n L ≠ 0) (w : World) (hS : Sl w (.slice ao L.length cap) L) : Calls Try.prog 31 #[.agg #[.int .i64 r, .int .i64 c, .int .i64 n, .slice ao L.length cap], .int .i64 f, .int .i64 t] w fun e w' => e = .returned (.tuple #[zeroMat, .int .i64 (ckM r c n L)]) ∧ Kept w w' := by
  obtain ⟨hM, -, hR, hF, hK, hs⟩ := st4_facts w r c n f t (.slice ao L.length cap)
  obtain ⟨X, hX⟩ : ∃ X, X = st4 w r c n f t (.slice ao L.length cap) := ⟨_, rfl⟩
  rw [← hX] at hM hR hF hK hs
  have KC : Hid (Calls Try.prog 11 #[.agg #[.int .i64 r, .int .i64 c, .int .i64 n, .slice ao L.length cap]] X fun e w' => e = .returned (.int .i64 (ckM r c n L)) ∧ Kept X w') := check_any r c n ao cap L _ (hS.kept hK)
  unfold st4 at hX
  generalize ckM r c n L = q at *
  have hq : (q != 0) = true := by simpa using h
  clear hS
  generalize L.length = l at *
  go_enter Try.func31, Try.ntmps31
  go_upto_region 1 with fail
  rw [← hX]
  clear hX
  obtain ⟨m0, m1, m2, m3⟩ := hM
  go_wp2_with (first | (go_at_call 11; refine (KC.out).mono ?_; rintro e w1 ⟨rfl, k1⟩; have hr1 := hR.bl k1.bl; have f1 : ∀ o, w1.frozen? ⟨w.heap.size + 3, o, none⟩ = false := fun o => (k1.frozen _).trans (hF o); obtain ⟨p0, p1, p2, p3⟩ := res4 w1 _ _ _ _ _ hr1 (.int .i64 0) (.int .i64 0) (.int .i64 0) (.slice none 0 0); obtain ⟨r0, r1, r2, r3⟩ := hr1))
  exact bodyPost_ret (v := .tuple #[zeroMat, .int .i64 q]) (by simp [results, Try.results31, go_sem, *]) rfl ⟨rfl, (((hK.trans k1).setCell (p := ⟨w.heap.size + 3, 0, none⟩) (by simp <;> omega) _).setCell (p := ⟨w.heap.size + 3, 1, none⟩) (by simp <;> omega) _).setCell (p := ⟨w.heap.size + 3, 2, none⟩) (by simp <;> omega) _ |>.setCell (p := ⟨w.heap.size + 3, 3, none⟩) (by simp <;> omega) _⟩

end Go.Proofs.Ytcldcjchfagcoaa
