/- Sets lent with marks behind their lists; whether they stay as they were. -/
import Derived.Test.YtcjgdfnbjbboeaaWr27
namespace Go.Proofs.Ytcjgdfnbjbboeaa
open Go.ChangeShapes Go.WideShapes Go.ChangeAt Go.RowKit
set_option linter.unusedVariables false
set_option linter.unusedSimpArgs false

set_option maxHeartbeats 4000000 in
set_option maxRecDepth 100000 in
theorem lent17_any (r c n : Int) (L : List Int) (hlen : L.length < 1000000) (a : Option Addr) (p : Nat) (w : World) (h : Sl w (.slice a L.length p) L) : Calls Try.prog 27 #[.agg #[.int .i64 r, .int .i64 c, .int .i64 n, .slice a L.length p]] w fun e w' => ∃ g cap, e = .returned (.agg #[.int .i64 r, .int .i64 c, .int .i64 n, .slice (some ⟨g, 0, none⟩) L.length cap]) ∧ w.heap.size ≤ g ∧ Own w' g cap (L ++ [-77, -78]) ∧ Kept w w' := by
  obtain ⟨X, hX⟩ : ∃ X, X = (w.alloc (.cells #[.int .i64 r, .int .i64 c, .int .i64 n, .slice a L.length p] 24)).alloc (.cells #[.int .i64 0, .int .i64 0, .int .i64 0, .slice none 0 0] 24) := ⟨_, rfl⟩
  have hK : Kept w X := by rw [hX]; exact ((Kept.refl w).alloc _ _).alloc _ _
  have hM : Bq X w.heap.size [.int .i64 r, .int .i64 c, .int .i64 n, .slice a L.length p] := by rw [hX]; exact (Bq.new w _ 24).kept ((Kept.refl _).alloc _ _)
  have hN : Bq X (w.heap.size + 1) [.int .i64 0, .int .i64 0, .int .i64 0, .slice none 0 0] := by
    have := Bq.new (w.alloc (.cells #[.int .i64 r, .int .i64 c, .int .i64 n, .slice a L.length p] 24)) [.int .i64 0, .int .i64 0, .int .i64 0, .slice none 0 0] 24
    rw [hX]
    simpa using this
  have hXs : X.heap.size = w.heap.size + 2 := by rw [hX]; simp
  have KL : Hid (Calls Try.prog 12 #[.slice a L.length p] X fun e w' => ∃ g cap, e = .returned (.slice (some ⟨g, 0, none⟩) L.length cap) ∧ X.heap.size ≤ g ∧ Own w' g cap (L ++ [-77, -78]) ∧ Kept X w') := lentInts_any L hlen a p X (h.kept hK)
  clear h
  go_enter Try.func27, Try.ntmps27
  go_upto_region 1 with fail
  rw [← hX]
  clear hX
  have c3 := hM.c 3 _ rfl
  go_upto_region 2 with (first | (go_at_call 12; refine KL.out.mono ?_; rintro e w1 ⟨g, cap, rfl, hg, ho, k1⟩; have hM1 := hM.kept k1; have m3 := hM1.c 3 _ rfl; have mf := hM1.fz 3))
  clear c3
  have hN1 := hN.kept k1
  have m0 := hM1.c 0 _ rfl
  have m1 := hM1.c 1 _ rfl
  have m2 := hM1.c 2 _ rfl
  obtain ⟨Y, hY⟩ : ∃ Y, Y = w1.setCell ⟨w.heap.size, 3, none⟩ (.slice (some ⟨g, 0, none⟩) L.length cap) := ⟨_, rfl⟩
  have y0 : Y.cell? ⟨w.heap.size, 0, none⟩ = some (.int .i64 r) := by rw [hY]; simp [go_sem, m0]
  have y1 : Y.cell? ⟨w.heap.size, 1, none⟩ = some (.int .i64 c) := by rw [hY]; simp [go_sem, m1]
  have y2 : Y.cell? ⟨w.heap.size, 2, none⟩ = some (.int .i64 n) := by rw [hY]; simp [go_sem, m2]
  have y3 : Y.cell? ⟨w.heap.size, 3, none⟩ = some (.slice (some ⟨g, 0, none⟩) L.length cap) := by rw [hY]; simp [go_sem, m3]
  have hYN : Bq Y (w.heap.size + 1) [.int .i64 0, .int .i64 0, .int .i64 0, .slice none 0 0] := by
    have hb : Y.heap[w.heap.size + 1]? = w1.heap[w.heap.size + 1]? := by rw [hY]; exact Below.heap_setCell _ _ _ _ (by simp)
    exact ⟨fun i v e => (World.cell?_of_block (w := w1) (a := ⟨w.heap.size + 1, i, none⟩) hb).trans (hN1.c i v e), fun o => (World.frozen?_of_block (a := ⟨w.heap.size + 1, o, none⟩) hb).trans (hN1.fz o), by rw [hY]; simpa using hN1.lt⟩
  have hKY : Kept w Y := by rw [hY]; exact (hK.trans k1).setCell (by simp) _
  have hoY : Own Y g cap (L ++ [-77, -78]) := by rw [hY]; exact ho.setOther (by show g ≠ w.heap.size; omega) _
  rw [← hY]
  clear hY m0 m1 m2 m3 mf hM1 hN1 ho k1 hM hN hK KL
  have d0 := hYN.c 0 _ rfl
  have d1 := hYN.c 1 _ rfl
  have d2 := hYN.c 2 _ rfl
  have d3 := hYN.c 3 _ rfl
  have fz := hYN.fz
  go_wp2_with fail
  have hR := res4 Y (w.heap.size + 1) _ _ _ _ ⟨d0, d1, d2, d3⟩ (.int .i64 r) (.int .i64 c) (.int .i64 n) (.slice (some ⟨g, 0, none⟩) L.length cap)
  obtain ⟨r0, r1, r2, r3⟩ := hR
  have hoZ := (((hoY.setOther (p := ⟨w.heap.size + 1, 0, none⟩) (by show g ≠ w.heap.size + 1; omega) (.int .i64 r)).setOther (p := ⟨w.heap.size + 1, 1, none⟩) (by show g ≠ w.heap.size + 1; omega) (.int .i64 c)).setOther (p := ⟨w.heap.size + 1, 2, none⟩) (by show g ≠ w.heap.size + 1; omega) (.int .i64 n)).setOther (p := ⟨w.heap.size + 1, 3, none⟩) (by show g ≠ w.heap.size + 1; omega) (.slice (some ⟨g, 0, none⟩) L.length cap)
  have hKZ := (((hKY.setCell (p := ⟨w.heap.size + 1, 0, none⟩) (by simp) (.int .i64 r)).setCell (p := ⟨w.heap.size + 1, 1, none⟩) (by simp) (.int .i64 c)).setCell (p := ⟨w.heap.size + 1, 2, none⟩) (by simp) (.int .i64 n)).setCell (p := ⟨w.heap.size + 1, 3, none⟩) (by simp) (.slice (some ⟨g, 0, none⟩) L.length cap)
  exact bodyPost_ret (v := .agg #[.int .i64 r, .int .i64 c, .int .i64 n, .slice (some ⟨g, 0, none⟩) L.length cap]) (by simp [results, Try.f27, go_sem, r0, r1, r2, r3]) rfl ⟨g, cap, rfl, by omega, hoZ, hKZ⟩

/-- eight cells stored -/
abbrev st8w (Y : World) (B : Nat) (v0 v1 v2 v3 v4 v5 v6 v7 : Value) : World := (((((((Y.setCell ⟨B, 0, none⟩ v0).setCell ⟨B, 1, none⟩ v1).setCell ⟨B, 2, none⟩ v2).setCell ⟨B, 3, none⟩ v3).setCell ⟨B, 4, none⟩ v4).setCell ⟨B, 5, none⟩ v5).setCell ⟨B, 6, none⟩ v6).setCell ⟨B, 7, none⟩ v7
theorem st8 (Y : World) (B : Nat) (vs : List Value) (hl : vs.length = 8) (h : Bq Y B vs) (v0 v1 v2 v3 v4 v5 v6 v7 : Value) : Bq (st8w Y B v0 v1 v2 v3 v4 v5 v6 v7) B [v0, v1, v2, v3, v4, v5, v6, v7] := by
  have e : ∀ i, i < 8 → ∃ v, Y.cell? ⟨B, i, none⟩ = some v := fun i hi => ⟨vs[i]'(by omega), h.c i _ (List.getElem?_eq_getElem (by omega))⟩
  obtain ⟨x0, e0⟩ := e 0 (by decide)
  obtain ⟨x1, e1⟩ := e 1 (by decide)
  obtain ⟨x2, e2⟩ := e 2 (by decide)
  obtain ⟨x3, e3⟩ := e 3 (by decide)
  obtain ⟨x4, e4⟩ := e 4 (by decide)
  obtain ⟨x5, e5⟩ := e 5 (by decide)
  obtain ⟨x6, e6⟩ := e 6 (by decide)
  obtain ⟨x7, e7⟩ := e 7 (by decide)
  refine ⟨fun i v hv => ?_, fun o => by simp [h.fz o], by simpa using h.lt⟩
  rcases i with _ | _ | _ | _ | _ | _ | _ | _ | i <;> first | (simp at hv; subst hv; simp [go_sem, e0, e1, e2, e3, e4, e5, e6, e7]) | (simp at hv)
theorem st8_kept {W Y : World} {B : Nat} (hk : Kept W Y) (hB : W.heap.size ≤ B) (v0 v1 v2 v3 v4 v5 v6 v7 : Value) : Kept W (st8w Y B v0 v1 v2 v3 v4 v5 v6 v7) := ((((((((hk.setCell (p := ⟨B, 0, none⟩) hB v0).setCell (p := ⟨B, 1, none⟩) hB v1).setCell (p := ⟨B, 2, none⟩) hB v2).setCell (p := ⟨B, 3, none⟩) hB v3).setCell (p := ⟨B, 4, none⟩) hB v4).setCell (p := ⟨B, 5, none⟩) hB v5).setCell (p := ⟨B, 6, none⟩) hB v6).setCell (p := ⟨B, 7, none⟩) hB v7)
theorem st8_own {Y : World} {B g cap : Nat} {L : List Int} (ho : Own Y g cap L) (hne : g ≠ B) (v0 v1 v2 v3 v4 v5 v6 v7 : Value) : Own (st8w Y B v0 v1 v2 v3 v4 v5 v6 v7) g cap L := ((((((((ho.setOther (p := ⟨B, 0, none⟩) hne v0).setOther (p := ⟨B, 1, none⟩) hne v1).setOther (p := ⟨B, 2, none⟩) hne v2).setOther (p := ⟨B, 3, none⟩) hne v3).setOther (p := ⟨B, 4, none⟩) hne v4).setOther (p := ⟨B, 5, none⟩) hne v5).setOther (p := ⟨B, 6, none⟩) hne v6).setOther (p := ⟨B, 7, none⟩) hne v7)

set_option maxHeartbeats 4000000 in
set_option maxRecDepth 100000 in
theorem lentSet_any (r c n : Int) (a : Option Addr) (p : Nat) (L : List Int) (r' c' n' : Int) (a' : Option Addr) (p' : Nat) (L' : List Int) (hl : L.length < 1000000) (hl' : L'.length < 1000000) (w : World) (hX : Sl w (.slice a L.length p) L) (hY : Sl w (.slice a' L'.length p') L') :
    Calls Try.prog 7 #[sv8 r c n (.slice a L.length p) r' c' n' (.slice a' L'.length p')] w fun e w' => ∃ g cap g' cap', e = .returned (sv8 r c n (.slice (some ⟨g, 0, none⟩) L.length cap) r' c' n' (.slice (some ⟨g', 0, none⟩) L'.length cap')) ∧ w.heap.size ≤ g ∧ w.heap.size ≤ g' ∧ Own w' g cap (L ++ [-77, -78]) ∧ Own w' g' cap' (L' ++ [-77, -78]) ∧ Kept w w' := by
  obtain ⟨X, hXw⟩ : ∃ X, X = (w.alloc (.cells (sl8 r c n (.slice a L.length p) r' c' n' (.slice a' L'.length p')).toArray 26)).alloc (.cells (sl8 0 0 0 (.slice none 0 0) 0 0 0 (.slice none 0 0)).toArray 26) := ⟨_, rfl⟩
  have hK : Kept w X := by rw [hXw]; exact ((Kept.refl w).alloc _ _).alloc _ _
  have hXs : X.heap.size = w.heap.size + 2 := by rw [hXw]; simp
  have hB : Bq X w.heap.size (sl8 r c n (.slice a L.length p) r' c' n' (.slice a' L'.length p')) := by rw [hXw]; exact (Bq.new w _ 26).kept ((Kept.refl _).alloc _ _)
  have hR : Bq X (w.heap.size + 1) (sl8 0 0 0 (.slice none 0 0) 0 0 0 (.slice none 0 0)) := by
    have := Bq.new (w.alloc (.cells (sl8 r c n (.slice a L.length p) r' c' n' (.slice a' L'.length p')).toArray 26)) (sl8 0 0 0 (.slice none 0 0) 0 0 0 (.slice none 0 0)) 26
    rw [hXw]; simpa using this
  have HS : Hid (∀ u, Kept X u → Kept X u ∧ u.cell? ⟨w.heap.size, 0, none⟩ = some (.int .i64 r) ∧ u.cell? ⟨w.heap.size, 1, none⟩ = some (.int .i64 c) ∧ u.cell? ⟨w.heap.size, 2, none⟩ = some (.int .i64 n) ∧ u.cell? ⟨w.heap.size, 3, none⟩ = some (.slice a L.length p) ∧ u.cell? ⟨w.heap.size, 4, none⟩ = some (.int .i64 r') ∧ u.cell? ⟨w.heap.size, 5, none⟩ = some (.int .i64 c') ∧ u.cell? ⟨w.heap.size, 6, none⟩ = some (.int .i64 n') ∧ u.cell? ⟨w.heap.size, 7, none⟩ = some (.slice a' L'.length p')) := fun u k => ⟨k, (hB.kept k).c 0 _ rfl, (hB.kept k).c 1 _ rfl, (hB.kept k).c 2 _ rfl, (hB.kept k).c 3 _ rfl, (hB.kept k).c 4 _ rfl, (hB.kept k).c 5 _ rfl, (hB.kept k).c 6 _ rfl, (hB.kept k).c 7 _ rfl⟩
  have K1 : Hid (∀ u, Kept X u → Calls Try.prog 27 #[.agg #[.int .i64 r, .int .i64 c, .int .i64 n, .slice a L.length p]] u fun e w' => ∃ g cap, e = .returned (.agg #[.int .i64 r, .int .i64 c, .int .i64 n, .slice (some ⟨g, 0, none⟩) L.length cap]) ∧ u.heap.size ≤ g ∧ Own w' g cap (L ++ [-77, -78]) ∧ Kept u w') := fun u k => lent17_any r c n L hl a p u (hX.kept (hK.trans k))
  have K2 : Hid (∀ u, Kept X u → Calls Try.prog 27 #[.agg #[.int .i64 r', .int .i64 c', .int .i64 n', .slice a' L'.length p']] u fun e w' => ∃ g cap, e = .returned (.agg #[.int .i64 r', .int .i64 c', .int .i64 n', .slice (some ⟨g, 0, none⟩) L'.length cap]) ∧ u.heap.size ≤ g ∧ Own w' g cap (L' ++ [-77, -78]) ∧ Kept u w') := fun u k => lent17_any r' c' n' L' hl' a' p' u (hY.kept (hK.trans k))
  clear hX hY
  go_enter Try.func7, Try.ntmps7
  go_upto_region 1 with fail
  rw [← hXw]
  clear hXw hB
  refine wp_region_late [7] (fun u => Kept X u ∧ u.cell? ⟨w.heap.size, 0, none⟩ = some (.int .i64 r) ∧ u.cell? ⟨w.heap.size, 1, none⟩ = some (.int .i64 c) ∧ u.cell? ⟨w.heap.size, 2, none⟩ = some (.int .i64 n) ∧ u.cell? ⟨w.heap.size, 3, none⟩ = some (.slice a L.length p) ∧ u.cell? ⟨w.heap.size, 4, none⟩ = some (.int .i64 r') ∧ u.cell? ⟨w.heap.size, 5, none⟩ = some (.int .i64 c') ∧ u.cell? ⟨w.heap.size, 6, none⟩ = some (.int .i64 n') ∧ u.cell? ⟨w.heap.size, 7, none⟩ = some (.slice a' L'.length p')) (by kernel_rfl) (HS.out _ (Kept.refl X).drew) (fun hHeld => ?_)
  refine wpAnyD_take (i := 0) (v := ?_) rfl (by kernel_rfl) (by kernel_rfl) (by kernel_rfl) (by kernel_rfl) (fun _ _ _ h => h) (Or.inl ⟨by rfl, ?hya0⟩) hHeld ?_
  case hya0 => (intro w hSw; (try dsimp only at hSw); go_simp; try (with_reducible rfl))
  (try simp only [Act.put, List.getElem_toArray, List.getElem_cons_succ, List.getElem_cons_zero, List.setIfInBounds_toArray, List.set_cons_zero, List.set_cons_succ])
  refine wpAnyD_take (i := 1) (v := ?_) rfl (by kernel_rfl) (by kernel_rfl) (by kernel_rfl) (by kernel_rfl) (fun _ _ _ h => h) (Or.inl ⟨by rfl, ?hya1⟩) hHeld ?_
  case hya1 => (intro w hSw; (try dsimp only at hSw); go_simp; try (with_reducible rfl))
  (try simp only [Act.put, List.getElem_toArray, List.getElem_cons_succ, List.getElem_cons_zero, List.setIfInBounds_toArray, List.set_cons_zero, List.set_cons_succ])
  refine wpAnyD_take (i := 3) (v := ?_) rfl (by kernel_rfl) (by kernel_rfl) (by kernel_rfl) (by kernel_rfl) (fun _ _ _ h => h) (Or.inl ⟨by rfl, ?hya3⟩) hHeld ?_
  case hya3 => (intro w hSw; (try dsimp only at hSw); go_simp; try (with_reducible rfl))
  (try simp only [Act.put, List.getElem_toArray, List.getElem_cons_succ, List.getElem_cons_zero, List.setIfInBounds_toArray, List.set_cons_zero, List.set_cons_succ])
  refine wpAnyD_take (i := 4) (v := ?_) rfl (by kernel_rfl) (by kernel_rfl) (by kernel_rfl) (by kernel_rfl) (fun _ _ _ h => h) (Or.inl ⟨by rfl, ?hya4⟩) hHeld ?_
  case hya4 => (intro w hSw; (try dsimp only at hSw); go_simp; try (with_reducible rfl))
  (try simp only [Act.put, List.getElem_toArray, List.getElem_cons_succ, List.getElem_cons_zero, List.setIfInBounds_toArray, List.set_cons_zero, List.set_cons_succ])
  refine wpAnyD_step (i := 2) (by kernel_rfl) rfl (fun K hK9 => ?_)
  go_simp
  go_wp2_with fail
  refine (K1.out _ hHeld.1).mono ?_
  rintro e u1 ⟨g, cap, rfl, hg, ho, k1⟩
  refine hK9.out _ _ (HS.out _ (hHeld.1.trans k1)) (fun hH1 => ?_)
  clear hK9 K
  (try simp only [Act.put, List.getElem_toArray, List.getElem_cons_succ, List.getElem_cons_zero, List.setIfInBounds_toArray, List.set_cons_zero, List.set_cons_succ])
  refine wpAnyD_step (i := 5) (by kernel_rfl) rfl (fun K hK9 => ?_)
  go_simp
  go_wp2_with fail
  refine (K2.out _ hH1.1).mono ?_
  rintro e u2 ⟨g', cap', rfl, hg', ho', k2⟩
  refine hK9.out _ _ (HS.out _ (hH1.1.trans k2)) (fun hH2 => ?_)
  clear hK9 K
  (try simp only [Act.put, List.getElem_toArray, List.getElem_cons_succ, List.getElem_cons_zero, List.setIfInBounds_toArray, List.set_cons_zero, List.set_cons_succ])
  refine wpAnyD_take (i := 6) (v := ?_) rfl (by kernel_rfl) (by kernel_rfl) (by kernel_rfl) (by kernel_rfl) (fun _ _ _ h => h) (Or.inl ⟨by rfl, ?hyb6⟩) hH2 ?_
  case hyb6 => (intro w hSw; (try dsimp only at hSw); go_simp; try (with_reducible rfl))
  (try simp only [Act.put, List.getElem_toArray, List.getElem_cons_succ, List.getElem_cons_zero, List.setIfInBounds_toArray, List.set_cons_zero, List.set_cons_succ])
  have hR2 := hR.kept hH2.1
  have d0 := hR2.c 0 _ rfl
  have d1 := hR2.c 1 _ rfl
  have d2 := hR2.c 2 _ rfl
  have d3 := hR2.c 3 _ rfl
  have d4 := hR2.c 4 _ rfl
  have d5 := hR2.c 5 _ rfl
  have d6 := hR2.c 6 _ rfl
  have d7 := hR2.c 7 _ rfl
  have fz := hR2.fz
  refine wpAnyD_late (i := 7) (by kernel_rfl) rfl rfl (fun K hK9 => ?_)
  go_simp
  refine hK9.out _ _ ?_
  clear hK9 K
  (try simp only [Act.put, List.getElem_toArray, List.getElem_cons_succ, List.getElem_cons_zero, List.setIfInBounds_toArray, List.set_cons_zero, List.set_cons_succ])
  refine wpAnyD_done (by kernel_rfl) ?_ _
  (try simp only [Act.put, List.getElem_toArray, List.getElem_cons_succ, List.getElem_cons_zero, List.setIfInBounds_toArray, List.set_cons_zero, List.set_cons_succ])
  go_wp2_with fail
  have hQ := st8 u2 (w.heap.size + 1) _ rfl hR2 (.int .i64 r) (.int .i64 c) (.int .i64 n) (.slice (some ⟨g, 0, none⟩) L.length cap) (.int .i64 r') (.int .i64 c') (.int .i64 n') (.slice (some ⟨g', 0, none⟩) L'.length cap')
  have s1 := hH1.1.below.size
  have s2 := hH2.1.below.size
  have s0 := hHeld.1.below.size
  have x0 := hQ.c 0 _ rfl
  have x1 := hQ.c 1 _ rfl
  have x2 := hQ.c 2 _ rfl
  have x3 := hQ.c 3 _ rfl
  have x4 := hQ.c 4 _ rfl
  have x5 := hQ.c 5 _ rfl
  have x6 := hQ.c 6 _ rfl
  have x7 := hQ.c 7 _ rfl
  exact bodyPost_ret (v := sv8 r c n (.slice (some ⟨g, 0, none⟩) L.length cap) r' c' n' (.slice (some ⟨g', 0, none⟩) L'.length cap')) (by simp [results, Try.f7, go_sem, x0, x1, x2, x3, x4, x5, x6, x7]) rfl ⟨g, cap, g', cap', rfl, by omega, by omega, st8_own (ho.kept k2) (by omega) _ _ _ _ _ _ _ _, st8_own ho' (by omega) _ _ _ _ _ _ _ _, st8_kept (hK.trans hH2.1) (by omega) _ _ _ _ _ _ _ _⟩

set_option maxHeartbeats 4000000 in
set_option maxRecDepth 100000 in
theorem staysInts_true (L : List Int) (hlen : L.length < 900000) (g cap : Nat) (a : Option Addr) (p : Nat) (w : World) (ho : Own w g cap (L ++ [-77, -78])) (h : Sl w (.slice a L.length p) L) : Calls Try.prog 16 #[.slice (some ⟨g, 0, none⟩) L.length cap, .slice a L.length p] w fun e w' => e = .returned (.bool true) ∧ Kept w w' := by
  have hd := (Kept.refl w).drew
  obtain ⟨v1, w1, h1, ⟨ao1, cc1, rfl⟩, ga, ca, wa, h2, hga, hoa, hka⟩ := lent_A L (by omega) _ w.drew (h.kept hd)
  obtain ⟨v1', w1', h1', ⟨ao1', cc1', rfl⟩, gb, cb, wb, h2', hgb, hob, hkb⟩ := lent_B L (by omega) _ w.drew (h.kept hd)
  have hc : L.length + 2 ≤ cap := by have := ho; obtain ⟨cur, -, h3, -⟩ := this; simpa using h3
  have HA1 := hidq h1
  have HA2 := hidq h2
  have HB1 := hidq h1'
  have HB2 := hidq h2'
  have l2 : (L ++ [-77, -78]).length = L.length + 2 := by simp
  have KS : Hid (∀ (u : World) (g2 c2 : Nat), Kept w u → Own u g2 c2 (L ++ [-77, -78]) → Calls Try.prog 32 #[.slice (some ⟨g, 0, none⟩) (L.length + 2) cap, .slice (some ⟨g2, 0, none⟩) (L.length + 2) c2] u fun e w' => e = .returned (.bool true) ∧ Kept u w') := fun u g2 c2 k o => by
    have s1 := (ho.kept k).sl
    have s2 := o.sl
    rw [l2] at s1 s2
    have := sameInts_any (L ++ [-77, -78]) (by rw [l2]; omega) (some ⟨g, 0, none⟩) (some ⟨g2, 0, none⟩) cap c2 u (by rw [l2]; exact s1) (by rw [l2]; exact s2)
    rw [l2] at this
    exact this
  have HKA := hidq (show Kept w wa ∧ Own wa ga ca (L ++ [-77, -78]) from ⟨hd.trans hka, hoa⟩)
  have HKB := hidq (show Kept w wb ∧ Own wb gb cb (L ++ [-77, -78]) from ⟨hd.trans hkb, hob⟩)
  clear h1 h2 h1' h2' hka hoa hkb hob ho h hd l2
  generalize L.length = l at *
  have z1 : IntKind.i64.wrap ((l : Int) + 2) = (l : Int) + 2 := by rw [wrap_i64]; omega
  have z5 : 0 ≤ (l : Int) + 2 := by omega
  have z6 : ((l : Int) + 2).toNat = l + 2 := by omega
  have z2 : (l : Int) + 2 ≤ (cap : Int) := by omega
  have z3 : ¬ cap = 0 := by omega
  have z4 : ((l : Int) == (l : Int)) = true := by simp
  go_enter Try.func16, Try.ntmps16
  go_upto_region 1 with fail
  refine wp_region_any (by kernel_rfl) ?_
  change wpAny _ _ _ _ _ _ _ (World.drew _)
  refine wpAny_take (i := 0) (v := ?_) rfl (by kernel_rfl) (by kernel_rfl) (by kernel_rfl) (fun _ _ _ h => h) (Or.inl ⟨by rfl, ?hza0⟩) ?_
  case hza0 => (intro w; go_simp; try (with_reducible rfl))
  (try simp only [Act.put, List.getElem_toArray, List.getElem_cons_succ, List.getElem_cons_zero, List.setIfInBounds_toArray, List.set_cons_zero, List.set_cons_succ])
  refine wpAny_take (i := 1) (v := ?_) rfl (by kernel_rfl) (by kernel_rfl) (by kernel_rfl) (fun _ _ _ h => h) (Or.inl ⟨by rfl, ?hza1⟩) ?_
  case hza1 => (intro w; go_simp; try (with_reducible rfl))
  (try simp only [Act.put, List.getElem_toArray, List.getElem_cons_succ, List.getElem_cons_zero, List.setIfInBounds_toArray, List.set_cons_zero, List.set_cons_succ])
  refine wpAny_take (i := 2) (v := ?_) rfl (by kernel_rfl) (by kernel_rfl) (by kernel_rfl) (fun _ _ _ h => h) (Or.inl ⟨by rfl, ?hza2⟩) ?_
  case hza2 => (intro w; go_simp; try (with_reducible rfl))
  (try simp only [Act.put, List.getElem_toArray, List.getElem_cons_succ, List.getElem_cons_zero, List.setIfInBounds_toArray, List.set_cons_zero, List.set_cons_succ])
  refine wpAny_take (i := 3) (v := ?_) rfl (by kernel_rfl) (by kernel_rfl) (by kernel_rfl) (fun _ _ _ h => h) (Or.inl ⟨by rfl, ?hza3⟩) ?_
  case hza3 => (intro w; go_simp; try (with_reducible rfl))
  (try simp only [Act.put, List.getElem_toArray, List.getElem_cons_succ, List.getElem_cons_zero, List.setIfInBounds_toArray, List.set_cons_zero, List.set_cons_succ])
  refine wpAny_take (i := 4) (v := ?_) rfl (by kernel_rfl) (by kernel_rfl) (by kernel_rfl) (fun _ _ _ h => h) (Or.inl ⟨by rfl, ?hza4⟩) ?_
  case hza4 => (intro w; go_simp; try (with_reducible rfl))
  (try simp only [Act.put, List.getElem_toArray, List.getElem_cons_succ, List.getElem_cons_zero, List.setIfInBounds_toArray, List.set_cons_zero, List.set_cons_succ])
  refine wpAny_take (i := 5) (v := ?_) rfl (by kernel_rfl) (by kernel_rfl) (by kernel_rfl) (fun _ _ _ h => h) (Or.inl ⟨by rfl, ?hza5⟩) ?_
  case hza5 => (intro w; go_simp; try (with_reducible rfl))
  (try simp only [Act.put, List.getElem_toArray, List.getElem_cons_succ, List.getElem_cons_zero, List.setIfInBounds_toArray, List.set_cons_zero, List.set_cons_succ])
  refine wpAny_take (i := 6) (v := ?_) rfl (by kernel_rfl) (by kernel_rfl) (by kernel_rfl) (fun _ _ _ h => h) (Or.inl ⟨by rfl, ?hza6⟩) ?_
  case hza6 => (intro w; go_simp; try (with_reducible rfl))
  (try simp only [Act.put, List.getElem_toArray, List.getElem_cons_succ, List.getElem_cons_zero, List.setIfInBounds_toArray, List.set_cons_zero, List.set_cons_succ])
  refine wpAny_take (i := 7) (v := ?_) rfl (by kernel_rfl) (by kernel_rfl) (by kernel_rfl) (fun _ _ _ h => h) (Or.inl ⟨by rfl, ?hza7⟩) ?_
  case hza7 => (intro w; go_simp; try (with_reducible rfl))
  (try simp only [Act.put, List.getElem_toArray, List.getElem_cons_succ, List.getElem_cons_zero, List.setIfInBounds_toArray, List.set_cons_zero, List.set_cons_succ])
  refine wpAny_take (i := 8) (v := ?_) rfl (by kernel_rfl) (by kernel_rfl) (by kernel_rfl) (fun _ _ _ h => h) (Or.inl ⟨by rfl, ?hza8⟩) ?_
  case hza8 => (intro w; go_simp; try (with_reducible rfl))
  (try simp only [Act.put, List.getElem_toArray, List.getElem_cons_succ, List.getElem_cons_zero, List.setIfInBounds_toArray, List.set_cons_zero, List.set_cons_succ])
  refine wpAny_take (i := 9) (v := ?_) rfl (by kernel_rfl) (by kernel_rfl) (by kernel_rfl) (fun _ _ _ h => h) (Or.inl ⟨by rfl, ?hza9⟩) ?_
  case hza9 => (intro w; go_simp; try (with_reducible rfl))
  (try simp only [Act.put, List.getElem_toArray, List.getElem_cons_succ, List.getElem_cons_zero, List.setIfInBounds_toArray, List.set_cons_zero, List.set_cons_succ])
  refine wpAny_take (i := 10) (v := ?_) rfl (by kernel_rfl) (by kernel_rfl) (by kernel_rfl) (fun _ _ _ h => h) (Or.inl ⟨by rfl, ?hza10⟩) ?_
  case hza10 => (intro w; go_simp; try (with_reducible rfl))
  (try simp only [Act.put, List.getElem_toArray, List.getElem_cons_succ, List.getElem_cons_zero, List.setIfInBounds_toArray, List.set_cons_zero, List.set_cons_succ])
  refine wpAny_take (i := 11) (v := ?_) rfl (by kernel_rfl) (by kernel_rfl) (by kernel_rfl) (fun _ _ _ h => h) (Or.inl ⟨by rfl, ?hza11⟩) ?_
  case hza11 => (intro w; go_simp; try (with_reducible rfl))
  (try simp only [Act.put, List.getElem_toArray, List.getElem_cons_succ, List.getElem_cons_zero, List.setIfInBounds_toArray, List.set_cons_zero, List.set_cons_succ])
  refine wpAny_ready (rs := [12, 13]) (by kernel_rfl) (by simp) ?_
  refine AllReady.cons rfl (fun K hK9 => ?_) (AllReady.cons rfl (fun K hK9 => ?_) AllReady.nil)
  · skip
    rw [if_pos (by rfl)]
    refine oper_append_run _ _ _ rfl _ _ rfl rfl _ _ (HA1.out _) ?_
    refine hK9 _ _ ?_
    clear hK9 K
    (try simp only [Act.put, List.getElem_toArray, List.getElem_cons_succ, List.getElem_cons_zero, List.setIfInBounds_toArray, List.set_cons_zero, List.set_cons_succ])
    refine wpAny_ready (rs := [13]) (by kernel_rfl) (by simp) ?_
    refine AllReady.cons rfl (fun K hK9 => ?_) AllReady.nil
    go_simp
    refine hK9 _ _ ?_
    clear hK9 K
    (try simp only [Act.put, List.getElem_toArray, List.getElem_cons_succ, List.getElem_cons_zero, List.setIfInBounds_toArray, List.set_cons_zero, List.set_cons_succ])
    refine wpAny_ready (rs := [14]) (by kernel_rfl) (by simp) ?_
    refine AllReady.cons rfl (fun K hK9 => ?_) AllReady.nil
    rw [if_pos (by rfl)]
    refine oper_append_run _ _ _ rfl _ _ rfl rfl _ _ (HA2.out _) ?_
    refine hK9 _ _ ?_
    clear hK9 K
    (try simp only [Act.put, List.getElem_toArray, List.getElem_cons_succ, List.getElem_cons_zero, List.setIfInBounds_toArray, List.set_cons_zero, List.set_cons_succ])
    refine wpAny_ready (rs := [15]) (by kernel_rfl) (by simp) ?_
    refine AllReady.cons rfl (fun K hK9 => ?_) AllReady.nil
    go_simp
    go_wp2_with fail
    refine (KS.out _ _ _ HKA.out.1 HKA.out.2).mono ?_
    rintro e w5 ⟨rfl, k5⟩
    refine hK9 _ _ ?_
    clear hK9 K
    (try simp only [Act.put, List.getElem_toArray, List.getElem_cons_succ, List.getElem_cons_zero, List.setIfInBounds_toArray, List.set_cons_zero, List.set_cons_succ])
    refine wpAny_take (i := 16) (v := ?_) rfl (by kernel_rfl) (by kernel_rfl) (by kernel_rfl) (fun _ _ _ h => h) (Or.inl ⟨by rfl, ?hzbA16⟩) ?_
    case hzbA16 => (intro w; go_simp; try (with_reducible rfl))
    (try simp only [Act.put, List.getElem_toArray, List.getElem_cons_succ, List.getElem_cons_zero, List.setIfInBounds_toArray, List.set_cons_zero, List.set_cons_succ])
    refine wpAny_take (i := 17) (v := ?_) rfl (by kernel_rfl) (by kernel_rfl) (by kernel_rfl) (fun _ _ _ h => h) (Or.inl ⟨by rfl, ?hzbA17⟩) ?_
    case hzbA17 => (intro w; go_simp; try (with_reducible rfl))
    (try simp only [Act.put, List.getElem_toArray, List.getElem_cons_succ, List.getElem_cons_zero, List.setIfInBounds_toArray, List.set_cons_zero, List.set_cons_succ])
    refine wpAny_done (by kernel_rfl) ?_ _
    (try simp only [Act.put, List.getElem_toArray, List.getElem_cons_succ, List.getElem_cons_zero, List.setIfInBounds_toArray, List.set_cons_zero, List.set_cons_succ])
    go_wp2_with fail
    go_ret
    exact ⟨rfl, HKA.out.1.trans k5⟩
  · skip
    go_simp
    refine hK9 _ _ ?_
    clear hK9 K
    (try simp only [Act.put, List.getElem_toArray, List.getElem_cons_succ, List.getElem_cons_zero, List.setIfInBounds_toArray, List.set_cons_zero, List.set_cons_succ])
    refine wpAny_ready (rs := [12]) (by kernel_rfl) (by simp) ?_
    refine AllReady.cons rfl (fun K hK9 => ?_) AllReady.nil
    rw [if_pos (by rfl)]
    refine oper_append_run _ _ _ rfl _ _ rfl rfl _ _ (HB1.out _) ?_
    refine hK9 _ _ ?_
    clear hK9 K
    (try simp only [Act.put, List.getElem_toArray, List.getElem_cons_succ, List.getElem_cons_zero, List.setIfInBounds_toArray, List.set_cons_zero, List.set_cons_succ])
    refine wpAny_ready (rs := [14]) (by kernel_rfl) (by simp) ?_
    refine AllReady.cons rfl (fun K hK9 => ?_) AllReady.nil
    rw [if_pos (by rfl)]
    refine oper_append_run _ _ _ rfl _ _ rfl rfl _ _ (HB2.out _) ?_
    refine hK9 _ _ ?_
    clear hK9 K
    (try simp only [Act.put, List.getElem_toArray, List.getElem_cons_succ, List.getElem_cons_zero, List.setIfInBounds_toArray, List.set_cons_zero, List.set_cons_succ])
    refine wpAny_ready (rs := [15]) (by kernel_rfl) (by simp) ?_
    refine AllReady.cons rfl (fun K hK9 => ?_) AllReady.nil
    go_simp
    go_wp2_with fail
    refine (KS.out _ _ _ HKB.out.1 HKB.out.2).mono ?_
    rintro e w5 ⟨rfl, k5⟩
    refine hK9 _ _ ?_
    clear hK9 K
    (try simp only [Act.put, List.getElem_toArray, List.getElem_cons_succ, List.getElem_cons_zero, List.setIfInBounds_toArray, List.set_cons_zero, List.set_cons_succ])
    refine wpAny_take (i := 16) (v := ?_) rfl (by kernel_rfl) (by kernel_rfl) (by kernel_rfl) (fun _ _ _ h => h) (Or.inl ⟨by rfl, ?hzbB16⟩) ?_
    case hzbB16 => (intro w; go_simp; try (with_reducible rfl))
    (try simp only [Act.put, List.getElem_toArray, List.getElem_cons_succ, List.getElem_cons_zero, List.setIfInBounds_toArray, List.set_cons_zero, List.set_cons_succ])
    refine wpAny_take (i := 17) (v := ?_) rfl (by kernel_rfl) (by kernel_rfl) (by kernel_rfl) (fun _ _ _ h => h) (Or.inl ⟨by rfl, ?hzbB17⟩) ?_
    case hzbB17 => (intro w; go_simp; try (with_reducible rfl))
    (try simp only [Act.put, List.getElem_toArray, List.getElem_cons_succ, List.getElem_cons_zero, List.setIfInBounds_toArray, List.set_cons_zero, List.set_cons_succ])
    refine wpAny_done (by kernel_rfl) ?_ _
    (try simp only [Act.put, List.getElem_toArray, List.getElem_cons_succ, List.getElem_cons_zero, List.setIfInBounds_toArray, List.set_cons_zero, List.set_cons_succ])
    go_wp2_with fail
    go_ret
    exact ⟨rfl, HKB.out.1.trans k5⟩

end Go.Proofs.Ytcjgdfnbjbboeaa
