/- Stretch of package tensor where it refuses. -/
import Derived.Test.YtijmjnmimijfdabT30
import Derived.Deep.CutRange
namespace Go.Proofs.Ytijmjnmimijfdab
open Go.ChangeShapes Go.WideShapes Go.ChangeAt Go.RowKit
set_option linter.unusedVariables false
set_option linter.unusedSimpArgs false

abbrev st3 (w : World) (r c n cs : Int) (s : Value) : World := ((w.alloc (.cells #[.int .i64 r, .int .i64 c, .int .i64 n, s] 24)).alloc (.cells #[.int .i64 cs] 3)).alloc (.cells #[.int .i64 0, .int .i64 0, .int .i64 0, .slice none 0 0] 24)
theorem st3_facts (w : World) (r c n cs : Int) (s : Value) : M4 (st3 w r c n cs s) w.heap.size (.int .i64 r) (.int .i64 c) (.int .i64 n) s ∧ (st3 w r c n cs s).cell? ⟨w.heap.size + 1, 0, none⟩ = some (.int .i64 cs) ∧ M4 (st3 w r c n cs s) (w.heap.size + 2) (.int .i64 0) (.int .i64 0) (.int .i64 0) (.slice none 0 0) ∧ (∀ o, (st3 w r c n cs s).frozen? ⟨w.heap.size + 2, o, none⟩ = false) ∧ Kept w (st3 w r c n cs s) ∧ (st3 w r c n cs s).heap.size = w.heap.size + 3 := by
  refine ⟨⟨by simp [go_sem], by simp [go_sem], by simp [go_sem], by simp [go_sem]⟩, by simp [go_sem], ⟨by simp [go_sem], by simp [go_sem], by simp [go_sem], by simp [go_sem]⟩, fun o => by simp [go_sem], (((Kept.refl w).alloc _ _).alloc _ _).alloc _ _, by simp⟩

theorem zb_new {w u : World} {a b c : Value} {t : TypeId} (k : Kept (w.alloc (.cells #[a, b, c] t)) u) : M3 u w.heap.size a b c ∧ ∀ o, u.frozen? ⟨w.heap.size, o, none⟩ = false :=
  ⟨(M3.new w a b c t).bl k.bl, fun o => (k.frozen _).trans (by simp [go_sem])⟩
theorem zb_newd {w u : World} {a b c : Value} {t : TypeId} (k : Kept (w.drew.alloc (.cells #[a, b, c] t)) u) : M3 u w.heap.size a b c ∧ ∀ o, u.frozen? ⟨w.heap.size, o, none⟩ = false := zb_new (w := w.drew) k
theorem zb_on {w u : World} {B : Nat} {a b c : Value} (h : M3 w B a b c) (hf : ∀ o, w.frozen? ⟨B, o, none⟩ = false) (k : Kept w u) : M3 u B a b c ∧ ∀ o, u.frozen? ⟨B, o, none⟩ = false :=
  ⟨h.bl k.bl, fun o => (k.frozen _).trans (hf o)⟩

set_option maxHeartbeats 2000000 in
set_option maxRecDepth 100000 in
theorem stretch_no (r c n rs cs : Int) (ao : Option Addr) (cap : Nat) (L : List Int) (h : ckM r c n L ≠ 0) (w : World) (hS : Sl w (.slice ao L.length cap) L) : Calls Try.prog 24 #[.agg #[.int .i64 r, .int .i64 c, .int .i64 n, .slice ao L.length cap], .int .i64 rs, .int .i64 cs] w fun e w' => e = .returned (.tuple #[zeroMat, .int .i64 (ckM r c n L)]) ∧ Kept w w' := by
  obtain ⟨hM, hC, hR, hF, hK, hs⟩ := st3_facts w r c n cs (.slice ao L.length cap)
  obtain ⟨X, hX⟩ : ∃ X, X = st3 w r c n cs (.slice ao L.length cap) := ⟨_, rfl⟩
  rw [← hX] at hM hC hR hF hK hs
  have KC : Hid (Calls Try.prog 17 #[.agg #[.int .i64 r, .int .i64 c, .int .i64 n, .slice ao L.length cap]] X fun e w' => e = .returned (.int .i64 (ckM r c n L)) ∧ Kept X w') := check_any r c n ao cap L _ (hS.kept hK)
  unfold st3 at hX
  generalize ckM r c n L = q at *
  have hq : (q != 0) = true := by simpa using h
  clear hS
  generalize L.length = l at *
  go_enter Try.func24, Try.ntmps24
  go_upto_region 1 with fail
  rw [← hX]
  clear hX
  obtain ⟨m0, m1, m2, m3⟩ := hM
  go_wp2_with (first | (go_at_call 17; refine (KC.out).mono ?_; rintro e w1 ⟨rfl, k1⟩; have hr1 := hR.bl k1.bl; have f1 : ∀ o, w1.frozen? ⟨w.heap.size + 2, o, none⟩ = false := fun o => (k1.frozen _).trans (hF o); obtain ⟨p0, p1, p2, p3⟩ := res4 w1 _ _ _ _ _ hr1 (.int .i64 0) (.int .i64 0) (.int .i64 0) (.slice none 0 0); obtain ⟨r0, r1, r2, r3⟩ := hr1))
  exact bodyPost_ret (v := .tuple #[zeroMat, .int .i64 q]) (by simp [results, Try.results24, go_sem, *]) rfl ⟨rfl, (hK.trans k1).setCell (by simp; omega) _ |>.setCell (by simp; omega) _ |>.setCell (by simp; omega) _ |>.setCell (by simp; omega) _⟩

set_option maxHeartbeats 4000000 in
set_option maxRecDepth 100000 in
theorem stretch_bad (r c n rs cs : Int) (ao : Option Addr) (cap : Nat) (L : List Int) (h : ckM r c n L = 0) (hq : strE r c rs cs ≠ 0) (w : World) (hS : Sl w (.slice ao L.length cap) L) : Calls Try.prog 24 #[.agg #[.int .i64 r, .int .i64 c, .int .i64 n, .slice ao L.length cap], .int .i64 rs, .int .i64 cs] w fun e w' => e = .returned (.tuple #[zeroMat, .int .i64 (strE r c rs cs)]) ∧ Kept w w' := by
  obtain ⟨hM, hC, hR, hF, hK, hs⟩ := st3_facts w r c n cs (.slice ao L.length cap)
  obtain ⟨X, hX⟩ : ∃ X, X = st3 w r c n cs (.slice ao L.length cap) := ⟨_, rfl⟩
  rw [← hX] at hM hC hR hF hK hs
  have KC : Hid (Calls Try.prog 17 #[.agg #[.int .i64 r, .int .i64 c, .int .i64 n, .slice ao L.length cap]] X fun e w' => e = .returned (.int .i64 0) ∧ Kept X w') := by
    have := check_any r c n ao cap L _ (hS.kept hK)
    rw [h] at this
    exact this
  have hc1 : 1 ≤ c := (ckS_ok (ckM_ok h).1).2.2.1
  have KA : Hid (∀ u, Kept X u → Calls Try.prog 31 #[.agg #[.int .i64 r, .int .i64 c, .int .i64 n, .slice ao L.length cap]] u fun e w' => e = .returned (.agg #[.int .i64 r, .int .i64 c, .int .i64 n]) ∧ Kept X w' ∧ Kept u w') := fun u k => by
    refine (shapeOf_any _ _ _ _ u).mono ?_
    rintro e w' ⟨rfl, k'⟩
    exact ⟨rfl, k.trans k', k'⟩
  have KB : Hid (∀ u, Kept X u → Calls Try.prog 50 #[.agg #[.int .i64 r, .int .i64 c, .int .i64 n], .int .i64 rs, .int .i64 cs] u fun e w' => e = .returned (.tuple #[zeroShape, .int .i64 (strE r c rs cs)]) ∧ Kept X w' ∧ Kept u w') := fun u k => by
    have := stretched_any r c n rs cs hc1 u
    rw [if_neg hq] at this
    refine this.mono ?_
    rintro e w' ⟨rfl, k'⟩
    exact ⟨rfl, k.trans k', k'⟩
  have HS : Hid (∀ u, Kept X u → Kept X u ∧ (u.cell? ⟨w.heap.size, 0, none⟩ = some (.int .i64 r) ∧ u.cell? ⟨w.heap.size, 1, none⟩ = some (.int .i64 c) ∧ u.cell? ⟨w.heap.size, 2, none⟩ = some (.int .i64 n) ∧ u.cell? ⟨w.heap.size, 3, none⟩ = some (.slice ao L.length cap)) ∧ u.cell? ⟨w.heap.size + 1, 0, none⟩ = some (.int .i64 cs)) := fun u k => by
    obtain ⟨m0, m1, m2, m3⟩ := hM.bl k.bl
    exact ⟨k, ⟨m0, m1, m2, m3⟩, (k.bl.cell (w.heap.size + 1) 0 (by omega)).trans hC⟩
  unfold st3 at hX
  generalize strE r c rs cs = q at *
  have hqb : (q != 0) = true := by simpa using hq
  clear hS h
  generalize L.length = l at *
  go_enter Try.func24, Try.ntmps24
  go_upto_region 1 with fail
  rw [← hX]
  clear hX
  have hM' := hM
  obtain ⟨m0, m1, m2, m3⟩ := hM'
  go_upto_region 4 with (first | (go_at_call 17; refine (KC.out).mono ?_; rintro e w1 ⟨rfl, k1⟩))
  clear m0 m1 m2 m3
  have kd := k1.drew
  have z1 := k1.below.size
  go_cut [9, 10] from 15 to 28 (fun t9 t10 wx => ∃ B, t9 = .pointer (some ⟨B, 0, none⟩) ∧ t10 = .int .i64 q ∧ X.heap.size ≤ B ∧ M3 wx B (.int .i64 0) (.int .i64 0) (.int .i64 0) ∧ Kept X wx)
  case first =>
    go_region_held (fun u => Kept X u ∧ (u.cell? ⟨w.heap.size, 0, none⟩ = some (.int .i64 r) ∧ u.cell? ⟨w.heap.size, 1, none⟩ = some (.int .i64 c) ∧ u.cell? ⟨w.heap.size, 2, none⟩ = some (.int .i64 n) ∧ u.cell? ⟨w.heap.size, 3, none⟩ = some (.slice ao l cap)) ∧ u.cell? ⟨w.heap.size + 1, 0, none⟩ = some (.int .i64 cs)) (first | assumption | exact HS.out _ kd | exact HS.out _ (by assumption) | exact HS.out _ (by repeat' first | assumption | exact Kept.alloc (by assumption) _ _ | (refine Kept.setCell ?_ ?_ _) | (simp; omega))) (first | (go_at_call 31; refine (KA.out _ (by first | assumption | exact Kept.alloc (by assumption) _ _)).mono ?_; rintro e w3 ⟨rfl, k3, j3⟩; have z3 := k3.below.size; (first | (have qz := zb_newd j3; obtain ⟨⟨q30, q31, q32⟩, q3f⟩ := qz) | (have qz := zb_new j3; obtain ⟨⟨q30, q31, q32⟩, q3f⟩ := qz) | skip)) | (go_at_call 50; refine (KB.out _ (by first | assumption | exact Kept.alloc (by assumption) _ _)).mono ?_; rintro e w4 ⟨rfl, k4, j4⟩; have z4 := k4.below.size; first | (have qz := zb_new j4; obtain ⟨⟨q40, q41, q42⟩, q4f⟩ := qz) | (have qz := zb_on ⟨q30, q31, q32⟩ q3f j4; obtain ⟨⟨q40, q41, q42⟩, q4f⟩ := qz) | skip))
    all_goals go_wp2_with fail
    all_goals go_meet
    all_goals
      refine ⟨_, rfl, rfl, ?_, ?_, ?_⟩
      · omega
      · first | exact M3.put w4 _ _ _ _ ⟨q40, q41, q42⟩ _ _ _ | exact M3.new _ _ _ _ _
      · (repeat' first | assumption | exact Kept.alloc (by assumption) _ _ | (refine Kept.setCell ?_ ?_ _) | (simp; omega))
  case rest =>
    obtain ⟨B, rfl, rfl, hB, hM3, kc⟩ := hcut
    have hr1 := hR.bl kc.bl
    have f1 : ∀ o, wc.frozen? ⟨w.heap.size + 2, o, none⟩ = false := fun o => (kc.frozen _).trans (hF o)
    obtain ⟨p0, p1, p2, p3⟩ := res4 wc _ _ _ _ _ hr1 (.int .i64 0) (.int .i64 0) (.int .i64 0) (.slice none 0 0)
    obtain ⟨r0, r1, r2, r3⟩ := hr1
    go_wp2_with fail
    exact bodyPost_ret (v := .tuple #[zeroMat, .int .i64 q]) (by simp [results, Try.results24, go_sem, *]) rfl ⟨rfl, (hK.trans kc).setCell (by simp; omega) _ |>.setCell (by simp; omega) _ |>.setCell (by simp; omega) _ |>.setCell (by simp; omega) _⟩
end Go.Proofs.Ytijmjnmimijfdab
