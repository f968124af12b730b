/- Zero of package tensor and of the document; the walk of TensorZero. -/
import Derived.Test.YtojhhimmfnccjaaT3
import Derived.Test.YtojhhimmfnccjaaT2
import Derived.Test.YtojhhimmfnccjaaT7
namespace Go.Proofs.Ytojhhimmfnccjaa
open Go.ChangeShapes Go.WideShapes Go.ChangeAt Go.RowKit
set_option linter.unusedVariables false
set_option linter.unusedSimpArgs false

theorem cln_zero (n : Int) : cln 0 n = 0 := by
  unfold cln
  rw [if_neg]
  unfold cls clsOf
  (repeat' split) <;> omega
theorem map_cln_zero (k : Nat) (n : Int) : (List.replicate k (0 : Int)).map (cln · n) = List.replicate k 0 := by
  rw [List.map_replicate, cln_zero]
theorem rgl_zero (k : Nat) : Rgl (List.replicate k 0) := by
  intro i hi
  rw [List.getD_eq_getElem?_getD, List.getElem?_eq_getElem hi]
  simp

abbrev zW (w : World) (r c n : Int) : World := (w.alloc (.cells #[.int .i64 0, .int .i64 0, .int .i64 0, .slice none 0 0] 25)).alloc (.cells #[.int .i64 r, .int .i64 c, .int .i64 n] 60)

set_option maxHeartbeats 2000000 in
set_option maxRecDepth 100000 in
theorem zero_err (r c n : Int) (h : ckS r c n ≠ 0) (w : World) : Calls Try.prog 48 #[.int .i64 r, .int .i64 c, .int .i64 n] w fun e w' => e = .returned (.tuple #[zeroMat, .int .i64 (ckS r c n)]) ∧ Kept w w' := by
  obtain ⟨X, hX⟩ : ∃ X, X = zW w r c n := ⟨_, rfl⟩
  have hK : Kept w X := by rw [hX]; exact ((Kept.refl w).alloc _ _).alloc _ _
  have hR : M4 X w.heap.size (.int .i64 0) (.int .i64 0) (.int .i64 0) (.slice none 0 0) := by rw [hX]; exact ⟨by simp [go_sem], by simp [go_sem], by simp [go_sem], by simp [go_sem]⟩
  have hS : M3 X (w.heap.size + 1) (.int .i64 r) (.int .i64 c) (.int .i64 n) := by rw [hX]; exact ⟨by simp [go_sem], by simp [go_sem], by simp [go_sem]⟩
  have hF : ∀ o, X.frozen? ⟨w.heap.size, o, none⟩ = false := fun o => by rw [hX]; simp [go_sem]
  have KC : Hid (∀ u, Calls Try.prog 67 #[.agg #[.int .i64 r, .int .i64 c, .int .i64 n]] u fun e w' => e = .returned (.int .i64 (ckS r c n)) ∧ Kept u w') := fun u => checkShape_any r c n u
  unfold zW at hX
  generalize ckS r c n = q at *
  have hq : (q != 0) = true := by simpa using h
  go_enter Try.func48, Try.ntmps48
  go_upto_region 2 with fail
  rw [← hX]
  clear hX
  obtain ⟨s0, s1, s2⟩ := hS
  go_wp2_with (first | (go_at_call 67; refine (KC.out _).mono ?_; rintro e w1 ⟨rfl, k1⟩; have hr1 := hR.bl k1.bl; have f1 : ∀ o, w1.frozen? ⟨w.heap.size, o, none⟩ = false := fun o => (k1.frozen _).trans (hF o); obtain ⟨p0, p1, p2, p3⟩ := res4 w1 _ _ _ _ _ hr1 (.int .i64 0) (.int .i64 0) (.int .i64 0) (.slice none 0 0); obtain ⟨r0, r1, r2, r3⟩ := hr1))
  exact bodyPost_ret (v := .tuple #[zeroMat, .int .i64 q]) (by simp [results, Try.results48, go_sem, *]) rfl ⟨rfl, (hK.trans k1).setCell (by simp) _ |>.setCell (by simp) _ |>.setCell (by simp) _ |>.setCell (by simp) _⟩

set_option maxHeartbeats 4000000 in
set_option maxRecDepth 100000 in
theorem zero_ok (R C : Nat) (n : Int) (hn : n = 64 ∨ n = 32) (h : ckS R C n = 0) (rc : Nat) (hrc : R * C = rc) (hRC : rc ≤ 4096) (w : World) : Calls Try.prog 48 #[.int .i64 R, .int .i64 C, .int .i64 n] w fun e w' => ∃ g, e = .returned (.tuple #[.agg #[.int .i64 R, .int .i64 C, .int .i64 n, .slice (some ⟨g, 0, none⟩) rc rc], .int .i64 0]) ∧ w.heap.size ≤ g ∧ Own w' g rc (List.replicate rc 0) ∧ Kept w w' := by
  obtain ⟨X, hX⟩ : ∃ X, X = zW w R C n := ⟨_, rfl⟩
  have hK : Kept w X := by rw [hX]; exact ((Kept.refl w).alloc _ _).alloc _ _
  have hXs : X.heap.size = w.heap.size + 2 := by rw [hX]; simp
  have hR : M4 X w.heap.size (.int .i64 0) (.int .i64 0) (.int .i64 0) (.slice none 0 0) := by rw [hX]; exact ⟨by simp [go_sem], by simp [go_sem], by simp [go_sem], by simp [go_sem]⟩
  have hS : M3 X (w.heap.size + 1) (.int .i64 R) (.int .i64 C) (.int .i64 n) := by rw [hX]; exact ⟨by simp [go_sem], by simp [go_sem], by simp [go_sem]⟩
  have hF : ∀ o, X.frozen? ⟨w.heap.size, o, none⟩ = false := fun o => by rw [hX]; simp [go_sem]
  have KC : Hid (∀ u, Calls Try.prog 67 #[.agg #[.int .i64 R, .int .i64 C, .int .i64 n]] u fun e w' => e = .returned (.int .i64 0) ∧ Kept u w') := fun u => by have := checkShape_any R C n u; rw [h] at this; exact this
  have hw : IntKind.i64.wrap ((R : Int) * (C : Int)) = (rc : Int) := by
    rw [← hrc, wrap_i64]
    simp only [Int.natCast_mul]
    have : (R : Int) * (C : Int) = ((R * C : Nat) : Int) := by simp
    rw [this, hrc]
    omega
  have hmk : ∀ u : World, (Instr.makeSlice 22 (.int .i64 (rc : Int)) (.int .i64 (rc : Int))).run Try.prog u = .ok (.slice (some ⟨u.heap.size, 0, none⟩) rc rc) (u.alloc (.cells (madeCells #[.int .i64 0] rc) 3)) := fun u => make_run _ _ (Nat.le_refl _) (by omega) u
  have A3 : Hid (∀ u, Kept X u → Calls Try.prog 69 #[.agg #[.int .i64 R, .int .i64 C, .int .i64 n], .slice (some ⟨u.heap.size, 0, none⟩) rc rc] (u.alloc (.cells (madeCells #[.int .i64 0] rc) 3)) fun e w' => e = .returned (.agg #[.int .i64 R, .int .i64 C, .int .i64 n, .slice (some ⟨u.heap.size, 0, none⟩) rc rc]) ∧ Own w' u.heap.size rc (List.replicate rc 0) ∧ Kept X w' ∧ M4 w' w.heap.size (.int .i64 0) (.int .i64 0) (.int .i64 0) (.slice none 0 0) ∧ (∀ o, w'.frozen? ⟨w.heap.size, o, none⟩ = false)) := fun u k => by
    have := matrix_any R C n hn (List.replicate rc 0) (rgl_zero rc) (by simp; omega) u.heap.size rc (u.alloc (.cells (madeCells #[.int .i64 0] rc) 3)) (own_made _ _ (Nat.le_refl _) (by omega) u)
    rw [List.length_replicate, map_cln_zero] at this
    refine this.mono ?_
    rintro e w' ⟨rfl, h1, h2⟩
    have k2 : Kept X w' := (k.alloc _ _).grw k.below.size h2
    exact ⟨rfl, h1, k2, hR.bl k2.bl, fun o => (k2.frozen _).trans (hF o)⟩
  unfold zW at hX
  clear h hR hF hrc
  go_enter Try.func48, Try.ntmps48
  go_upto_region 2 with fail
  rw [← hX]
  clear hX
  have hS' := hS
  obtain ⟨s0, s1, s2⟩ := hS'
  go_wp2_with (first | (go_at_call 67; refine (KC.out _).mono ?_; rintro e w1 ⟨rfl, k1⟩))
  clear s0 s1 s2
  obtain ⟨s0, s1, s2⟩ := hS.bl k1.bl
  have hw1 : w.heap.size + 2 ≤ w1.heap.size := by rw [← hXs]; exact k1.below.size
  have n1 : ¬ w.heap.size + 1 = w1.heap.size := by omega
  have kd := k1.drew
  go_region_held (fun u => u.cell? ⟨w.heap.size + 1, 0, none⟩ = some (.int .i64 R) ∧ u.cell? ⟨w.heap.size + 1, 1, none⟩ = some (.int .i64 C) ∧ u.cell? ⟨w.heap.size + 1, 2, none⟩ = some (.int .i64 n)) (first | exact ⟨s0, s1, s2⟩ | exact ⟨t0, t1, t2⟩ | assumption | go_keep) (first | (go_at_call 69; refine (A3.out _ kd).mono ?_; rintro e w4 ⟨rfl, o4, k4, r4, f4⟩; have hR' := res4 w4 _ _ _ _ _ r4 (.int .i64 R) (.int .i64 C) (.int .i64 n) (.slice (some ⟨w1.heap.size, 0, none⟩) rc rc); obtain ⟨r0, r1, r2, r3⟩ := r4; obtain ⟨p0, p1, p2, p3⟩ := hR'; obtain ⟨t0, t1, t2⟩ := hS.bl k4.bl))
  all_goals go_wp2_with fail
  all_goals
    refine bodyPost_ret (v := .tuple #[.agg #[.int .i64 R, .int .i64 C, .int .i64 n, .slice (some ⟨w1.heap.size, 0, none⟩) rc rc], .int .i64 0]) (by simp [results, Try.results48, go_sem, *]) rfl ⟨w1.heap.size, rfl, by omega, ?_, (hK.trans k4).setCell (by simp) _ |>.setCell (by simp) _ |>.setCell (by simp) _ |>.setCell (by simp) _⟩
    have o5 := o4
    rw [own_v] at o5 ⊢
    exact (((o5.setOther (by simp; omega) _).setOther (by simp; omega) _).setOther (by simp; omega) _).setOther (by simp; omega) _

end Go.Proofs.Ytojhhimmfnccjaa
