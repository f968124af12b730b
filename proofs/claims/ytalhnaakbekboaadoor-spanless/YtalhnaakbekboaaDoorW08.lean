/- Package span: both, told, point, number, joined, holds. Package span: told, point, number, joined, holds. -/
import Derived.Test.YtalhnaakbekboaaDoorW07
namespace Go.Proofs.YtalhnaakbekboaaDoor
open Go.ChangeShapes Go.WideShapes Go.ChangeAt Go.RowKit Ieee
set_option linter.unusedVariables false
set_option linter.unusedSimpArgs false

abbrev sp2 (a b : Int) : Value := .agg #[.int .i64 a, .int .i64 b]
theorem P2.set {w : World} {b : Nat} {u v : Value} (h : P2 w b u v) (q o : Nat) (hq : q ≠ b) (x : Value) : P2 (w.setCell ⟨q, o, none⟩ x) b u v := by
  obtain ⟨c0, c1, fz⟩ := h
  have h' : b ≠ q := fun e => hq e.symm
  exact ⟨by simp [go_sem, *], by simp [go_sem, *], fun o => by simp [World.frozen?_setCell, *]⟩
theorem P2.alloc {w : World} {b : Nat} {u v : Value} (h : P2 w b u v) (c : Array Value) (t : TypeId) : P2 (w.alloc (.cells c t)) b u v := h.kept ((Kept.refl w).alloc c t)

set_option maxHeartbeats 1000000 in
set_option maxRecDepth 100000 in
theorem both_walk (a1 b1 a2 b2 n : Int) (x1 y1 x2 y2 : Nat) (q1 q2 : Int) (w : World)
    (KO : Hid (∀ u a b x y q, (a = a1 ∧ b = b1 ∧ x = x1 ∧ y = y1 ∧ q = q1 ∨ a = a2 ∧ b = b2 ∧ x = x2 ∧ y = y2 ∧ q = q2) → Calls Tryd.prog 42 #[sp2 a b, .int .i64 n] u fun e w' => e = .returned (.tuple #[fv2 x y, .int .i64 q]) ∧ Kept u w')) :
    Calls Tryd.prog 30 #[sp2 a1 b1, sp2 a2 b2, .int .i64 n] w fun e w' => e = .returned (if q1 = 0 ∧ q2 = 0 then .tuple #[fv2 x1 y1, fv2 x2 y2, .int .i64 0] else .tuple #[zi, zi, .int .i64 (if q1 = 0 then q2 else q1)]) ∧ Kept w w' := by
  obtain ⟨X, hX⟩ : ∃ X, X = (((w.alloc (.cells #[.int .i64 a1, .int .i64 b1] 23)).alloc (.cells #[.int .i64 a2, .int .i64 b2] 23)).alloc (.cells #[.float .f64 0, .float .f64 0] 55)).alloc (.cells #[.float .f64 0, .float .f64 0] 55) := ⟨_, rfl⟩
  have hP1 : P2 X w.heap.size (.int .i64 a1) (.int .i64 b1) := by
    rw [hX]
    exact (((P2.new w _ _ _).alloc _ _).alloc _ _).alloc _ _
  have hP2 : P2 X (w.heap.size + 1) (.int .i64 a2) (.int .i64 b2) := by
    rw [hX]
    have := ((P2.new (w.alloc (.cells #[.int .i64 a1, .int .i64 b1] 23)) (.int .i64 a2) (.int .i64 b2) 23).alloc #[.float .f64 0, .float .f64 0] 55).alloc #[.float .f64 0, .float .f64 0] 55
    simpa using this
  have hQ1 : P2 X (w.heap.size + 2) (.float .f64 0) (.float .f64 0) := by
    rw [hX]
    have := (P2.new ((w.alloc (.cells #[.int .i64 a1, .int .i64 b1] 23)).alloc (.cells #[.int .i64 a2, .int .i64 b2] 23)) (.float .f64 0) (.float .f64 0) 55).alloc #[.float .f64 0, .float .f64 0] 55
    simpa using this
  have hQ2 : P2 X (w.heap.size + 3) (.float .f64 0) (.float .f64 0) := by
    rw [hX]
    have := P2.new (((w.alloc (.cells #[.int .i64 a1, .int .i64 b1] 23)).alloc (.cells #[.int .i64 a2, .int .i64 b2] 23)).alloc (.cells #[.float .f64 0, .float .f64 0] 55)) (.float .f64 0) (.float .f64 0) 55
    simpa using this
  have hK : Kept w X := by
    rw [hX]
    exact ((((Kept.refl w).alloc _ _).alloc _ _).alloc _ _).alloc _ _
  have hs : Hid (X.heap.size = w.heap.size + 4) := by rw [hX]; simp [Hid]
  have hSF := sto_f
  go_enter Tryd.func30, Tryd.ntmps30
  go_upto_region 1 with fail
  rw [← hX]
  clear hX
  obtain ⟨H1, hH1⟩ : ∃ H, H = w.heap.size + 1 := ⟨_, rfl⟩
  obtain ⟨H2, hH2⟩ : ∃ H, H = H1 + 1 := ⟨_, rfl⟩
  obtain ⟨H3, hH3⟩ : ∃ H, H = H2 + 1 := ⟨_, rfl⟩
  rw [← hH1, ← hH2, ← hH3]
  rw [← hH1] at hP2
  rw [show w.heap.size + 2 = H2 by omega] at hQ1
  rw [show w.heap.size + 3 = H3 by omega] at hQ2
  have n23 : ¬ H2 = H3 := by omega
  have n32 : ¬ H3 = H2 := by omega
  have o2 : w.heap.size ≤ H2 := by omega
  have o3 : w.heap.size ≤ H3 := by omega
  have l3 : H3 < X.heap.size := by have := hs.out; omega
  have l2 : H2 < X.heap.size := by omega
  clear hH1 hH2 hH3 hs
  obtain ⟨p10, p11, p1f⟩ := hP1
  go_upto_region 2 with (first | (go_at_call 42; refine (KO.out _ _ _ _ _ _ (.inl ⟨rfl, rfl, rfl, rfl, rfl⟩)).mono ?_; rintro e w1 ⟨rfl, k1⟩))
  have z1 := k1.below.size
  obtain ⟨Y, hY⟩ : ∃ Y, Y = w1.alloc (.cells #[.float .f64 x1, .float .f64 y1] 55) := ⟨_, rfl⟩
  have hkY : Kept X Y := by rw [hY]; exact k1.alloc _ _
  have hPY : P2 Y w1.heap.size (.float .f64 x1) (.float .f64 y1) := by rw [hY]; exact P2.new _ _ _ _
  rw [← hY]
  clear hY p10 p11 p1f
  obtain ⟨B1, hB1⟩ : ∃ B, B = w1.heap.size := ⟨_, rfl⟩
  rw [← hB1] at hPY ⊢
  have hB1' : X.heap.size ≤ B1 := by omega
  clear hB1 z1 k1
  have kwY := hK.trans hkY
  have r1 := hQ1.kept hkY
  have r2 := hQ2.kept hkY
  by_cases g1 : q1 = 0
  · subst g1
    obtain ⟨p20, p21, p2f⟩ := hP2.kept hkY
    go_upto_region 5 with (first | (go_at_call 42; refine (KO.out _ _ _ _ _ _ (.inr ⟨rfl, rfl, rfl, rfl, rfl⟩)).mono ?_; rintro e w2 ⟨rfl, k2⟩))
    have z2 := k2.below.size
    obtain ⟨Z, hZ⟩ : ∃ Z, Z = w2.alloc (.cells #[.float .f64 x2, .float .f64 y2] 55) := ⟨_, rfl⟩
    have hkZ : Kept Y Z := by rw [hZ]; exact k2.alloc _ _
    have hPZ : P2 Z w2.heap.size (.float .f64 x2) (.float .f64 y2) := by rw [hZ]; exact P2.new _ _ _ _
    rw [← hZ]
    clear hZ p20 p21 p2f
    obtain ⟨B2, hB2⟩ : ∃ B, B = w2.heap.size := ⟨_, rfl⟩
    rw [← hB2] at hPZ ⊢
    have hB2' : X.heap.size ≤ B2 := by have := hkY.below.size; omega
    clear hB2 z2 k2
    have kwZ := kwY.trans hkZ
    have s1 := r1.kept hkZ
    have s2 := r2.kept hkZ
    by_cases g2 : q2 = 0
    · subst g2
      have u1 : ¬ B1 = H2 := by omega
      have u2 : ¬ B1 = H3 := by omega
      have u3 : ¬ H2 = B1 := by omega
      have u4 : ¬ H3 = B1 := by omega
      have v1 : ¬ B2 = H2 := by omega
      have v2 : ¬ B2 = H3 := by omega
      have v3 : ¬ H2 = B2 := by omega
      have v4 : ¬ H3 = B2 := by omega
      obtain ⟨m0, m1, mf⟩ := hPY.kept hkZ
      obtain ⟨n0, n1, nf⟩ := hPZ
      have t1 := ((s1.put (.float .f64 x1) (.float .f64 y1)).set H3 0 (by omega) (.float .f64 x2)).set H3 1 (by omega) (.float .f64 y2)
      have t2 := ((s2.set H2 0 (by omega) (.float .f64 x1)).set H2 1 (by omega) (.float .f64 y1)).put (.float .f64 x2) (.float .f64 y2)
      have hkw : Kept w ((((Z.setCell ⟨H2, 0, none⟩ (.float .f64 x1)).setCell ⟨H2, 1, none⟩ (.float .f64 y1)).setCell ⟨H3, 0, none⟩ (.float .f64 x2)).setCell ⟨H3, 1, none⟩ (.float .f64 y2)) := (((kwZ.setCell o2 _).setCell o2 _).setCell o3 _).setCell o3 _
      obtain ⟨a0, a1', af⟩ := s1
      obtain ⟨c0, c1, cf⟩ := s2
      obtain ⟨d0, d1, df⟩ := t1
      obtain ⟨e0, e1, ef⟩ := t2
      clear hQ1 hQ2 r1 r2 hPY hP2 KO
      go_wp2_with fail
      go_region
      all_goals go_wp2_with fail
      all_goals exact bodyPost_ret (v := .tuple #[fv2 x1 y1, fv2 x2 y2, .int .i64 0]) (by simp [results, Tryd.results30, go_sem, *]) rfl ⟨by simp, by first | exact hkw | exact hkw.drew | (repeat' first | exact kwZ | refine Kept.drew ?_ | refine Kept.setCell ?_ ?_ _ | exact o2 | exact o3)⟩
    · have hq : (q2 != 0) = true := by simpa using g2
      have t1 := ((s1.put (.float .f64 0) (.float .f64 0)).set H3 0 (by omega) (.float .f64 0)).set H3 1 (by omega) (.float .f64 0)
      have t2 := ((s2.set H2 0 (by omega) (.float .f64 0)).set H2 1 (by omega) (.float .f64 0)).put (.float .f64 0) (.float .f64 0)
      have hkw : Kept w ((((Z.setCell ⟨H2, 0, none⟩ (.float .f64 0)).setCell ⟨H2, 1, none⟩ (.float .f64 0)).setCell ⟨H3, 0, none⟩ (.float .f64 0)).setCell ⟨H3, 1, none⟩ (.float .f64 0)) := (((kwZ.setCell o2 _).setCell o2 _).setCell o3 _).setCell o3 _
      obtain ⟨a0, a1', af⟩ := s1
      obtain ⟨c0, c1, cf⟩ := s2
      obtain ⟨d0, d1, df⟩ := t1
      obtain ⟨e0, e1, ef⟩ := t2
      clear hQ1 hQ2 r1 r2 hPY hP2 KO
      go_wp2_with fail
      exact bodyPost_ret (v := .tuple #[zi, zi, .int .i64 q2]) (by simp [results, Tryd.results30, go_sem, *]) rfl ⟨by simp [g2], hkw⟩
  · have hq : (q1 != 0) = true := by simpa using g1
    have t1 := ((r1.put (.float .f64 0) (.float .f64 0)).set H3 0 (by omega) (.float .f64 0)).set H3 1 (by omega) (.float .f64 0)
    have t2 := ((r2.set H2 0 (by omega) (.float .f64 0)).set H2 1 (by omega) (.float .f64 0)).put (.float .f64 0) (.float .f64 0)
    have hkw : Kept w ((((Y.setCell ⟨H2, 0, none⟩ (.float .f64 0)).setCell ⟨H2, 1, none⟩ (.float .f64 0)).setCell ⟨H3, 0, none⟩ (.float .f64 0)).setCell ⟨H3, 1, none⟩ (.float .f64 0)) := (((kwY.setCell o2 _).setCell o2 _).setCell o3 _).setCell o3 _
    obtain ⟨a0, a1', af⟩ := r1
    obtain ⟨c0, c1, cf⟩ := r2
    obtain ⟨d0, d1, df⟩ := t1
    obtain ⟨e0, e1, ef⟩ := t2
    clear hQ1 hQ2 hPY hP2 KO
    go_wp2_with fail
    exact bodyPost_ret (v := .tuple #[zi, zi, .int .i64 q1]) (by simp [results, Tryd.results30, go_sem, *]) rfl ⟨by simp [g1], hkw⟩
end Go.Proofs.YtalhnaakbekboaaDoor

namespace Go.Proofs.YtalhnaakbekboaaDoor
open Go.ChangeShapes Go.WideShapes Go.ChangeAt Go.RowKit Ieee
set_option linter.unusedVariables false
set_option linter.unusedSimpArgs false

set_option maxHeartbeats 1000000 in
theorem told_err5 (x y : Nat) (n q : Int) (hq : (q != 0) = true) (w : World) : Calls Tryd.prog 31 #[fv2 x y, .int .i64 n, .int .i64 q] w fun e w' => e = .returned (.tuple #[sp2 0 0, .int .i64 q]) ∧ Kept w w' := by
  go_enter Tryd.func31, Tryd.ntmps31
  go_wp2_with fail
  refine bodyPost_ret (v := .tuple #[sp2 0 0, .int .i64 q]) (by simp [results, Tryd.results31, go_sem]) rfl ⟨rfl, ?_⟩
  (repeat' first | exact Kept.refl _ | refine Kept.setCell ?_ ?_ _ | refine Kept.alloc ?_ _ _ | (simp; done) | (simp <;> omega))

set_option maxHeartbeats 2000000 in
set_option maxRecDepth 100000 in
theorem told_ok5 {n : Int} {x y : Nat} {k j : Int} (hx : Fl n x k) (hy : Fl n y j) (w : World) : Calls Tryd.prog 31 #[fv2 x y, .int .i64 n, .int .i64 0] w fun e w' => e = .returned (.tuple #[sp2 (pz n k) (pz n j), .int .i64 0]) ∧ Kept w w' := by
  obtain ⟨X, hX⟩ : ∃ X, X = (w.alloc (.cells #[.float .f64 x, .float .f64 y] 55)).alloc (.cells #[.int .i64 0, .int .i64 0] 23) := ⟨_, rfl⟩
  have hP : P2 X w.heap.size (.float .f64 x) (.float .f64 y) := by
    rw [hX]
    exact (P2.new w _ _ _).alloc _ _
  have hQ : P2 X (w.heap.size + 1) (.int .i64 0) (.int .i64 0) := by
    rw [hX]
    have := P2.new (w.alloc (.cells #[.float .f64 x, .float .f64 y] 55)) (.int .i64 0) (.int .i64 0) 23
    simpa using this
  have hK : Kept w X := by
    rw [hX]
    exact ((Kept.refl w).alloc _ _).alloc _ _
  have kd : Kept X X.drew := (Kept.refl X).drew
  have HS : Hid (∀ u, Kept X u → u.cell? ⟨w.heap.size, 0, none⟩ = some (.float .f64 x) ∧ u.cell? ⟨w.heap.size, 1, none⟩ = some (.float .f64 y)) := fun u k => ⟨(hP.kept k).c0, (hP.kept k).c1⟩
  have KP : Hid (∀ u z p, (z = x ∧ p = pz n k ∨ z = y ∧ p = pz n j) → Kept X u → Calls Tryd.prog 61 #[.float .f64 z, .int .i64 n] u fun e w' => e = .returned (.int .i64 p) ∧ Kept X w' ∧ Kept u w') := fun u z p h kk => by
    rcases h with ⟨rfl, rfl⟩ | ⟨rfl, rfl⟩
    · refine (pattern_any hx u).mono ?_
      rintro e w' ⟨rfl, k'⟩
      exact ⟨rfl, kk.trans k', k'⟩
    · refine (pattern_any hy u).mono ?_
      rintro e w' ⟨rfl, k'⟩
      exact ⟨rfl, kk.trans k', k'⟩
  clear hx hy
  generalize pz n k = p at *
  generalize pz n j = q at *
  obtain ⟨H1, hH1⟩ : ∃ H, H = w.heap.size + 1 := ⟨_, rfl⟩
  rw [← hH1] at hQ
  have o1 : w.heap.size ≤ H1 := by omega
  have n1 : ¬ H1 = w.heap.size := by omega
  have n2 : ¬ w.heap.size = H1 := by omega
  have HQ : Hid (∀ u, Kept X u → u.cell? ⟨H1, 0, none⟩ = some (.int .i64 0) ∧ u.cell? ⟨H1, 1, none⟩ = some (.int .i64 0) ∧ ∀ o, u.frozen? ⟨H1, o, none⟩ = false) := fun u k => ⟨(hQ.kept k).c0, (hQ.kept k).c1, (hQ.kept k).fz⟩
  go_enter Tryd.func31, Tryd.ntmps31
  go_upto_region 1 with fail
  rw [← hX, ← hH1]
  clear hX hH1
  go_upto_region 3 with fail
  refine wp_region_held_drew (S := fun u => u.cell? ⟨w.heap.size, 0, none⟩ = some (.float .f64 x) ∧ u.cell? ⟨w.heap.size, 1, none⟩ = some (.float .f64 y)) (by kernel_rfl) (HS.out _ kd) (fun hHeld => ?_)
  refine wpAnyH_take (i := 0) (v := ?_) rfl (by kernel_rfl) (by kernel_rfl) (by kernel_rfl) (fun _ _ _ h => h) (Or.inl ⟨by rfl, ?hya0⟩) (by assumption) ?_
  case hya0 => (intro w hSw; (try dsimp only at hSw); go_simp; try (with_reducible rfl))
  simp only [Act.put, List.getElem_toArray, List.getElem_cons_succ, List.getElem_cons_zero, List.setIfInBounds_toArray, List.set_cons_zero, List.set_cons_succ]
  refine wpAnyH_take (i := 1) (v := ?_) rfl (by kernel_rfl) (by kernel_rfl) (by kernel_rfl) (fun _ _ _ h => h) (Or.inl ⟨by rfl, ?hya1⟩) (by assumption) ?_
  case hya1 => (intro w hSw; (try dsimp only at hSw); go_simp; try (with_reducible rfl))
  simp only [Act.put, List.getElem_toArray, List.getElem_cons_succ, List.getElem_cons_zero, List.setIfInBounds_toArray, List.set_cons_zero, List.set_cons_succ]
  refine wpAnyH_take (i := 2) (v := ?_) rfl (by kernel_rfl) (by kernel_rfl) (by kernel_rfl) (fun _ _ _ h => h) (Or.inl ⟨by rfl, ?hya2⟩) (by assumption) ?_
  case hya2 => (intro w hSw; (try dsimp only at hSw); go_simp; try (with_reducible rfl))
  simp only [Act.put, List.getElem_toArray, List.getElem_cons_succ, List.getElem_cons_zero, List.setIfInBounds_toArray, List.set_cons_zero, List.set_cons_succ]
  refine wpAnyH_take (i := 4) (v := ?_) rfl (by kernel_rfl) (by kernel_rfl) (by kernel_rfl) (fun _ _ _ h => h) (Or.inl ⟨by rfl, ?hya4⟩) (by assumption) ?_
  case hya4 => (intro w hSw; (try dsimp only at hSw); go_simp; try (with_reducible rfl))
  simp only [Act.put, List.getElem_toArray, List.getElem_cons_succ, List.getElem_cons_zero, List.setIfInBounds_toArray, List.set_cons_zero, List.set_cons_succ]
  refine wpAnyH_take (i := 5) (v := ?_) rfl (by kernel_rfl) (by kernel_rfl) (by kernel_rfl) (fun _ _ _ h => h) (Or.inl ⟨by rfl, ?hya5⟩) (by assumption) ?_
  case hya5 => (intro w hSw; (try dsimp only at hSw); go_simp; try (with_reducible rfl))
  simp only [Act.put, List.getElem_toArray, List.getElem_cons_succ, List.getElem_cons_zero, List.setIfInBounds_toArray, List.set_cons_zero, List.set_cons_succ]
  refine wpAnyH_take (i := 6) (v := ?_) rfl (by kernel_rfl) (by kernel_rfl) (by kernel_rfl) (fun _ _ _ h => h) (Or.inl ⟨by rfl, ?hya6⟩) (by assumption) ?_
  case hya6 => (intro w hSw; (try dsimp only at hSw); go_simp; try (with_reducible rfl))
  simp only [Act.put, List.getElem_toArray, List.getElem_cons_succ, List.getElem_cons_zero, List.setIfInBounds_toArray, List.set_cons_zero, List.set_cons_succ]
  refine wpAnyH_ready (rs := [3]) (by kernel_rfl) (by simp) ?_
  refine AllReadyH.cons rfl (fun K hK9 => ?_) AllReadyH.nil
  go_simp
  go_wp2_with fail
  refine (KP.out _ _ _ (.inl ⟨rfl, rfl⟩) kd).mono ?_
  rintro e u1 ⟨rfl, k1, j1⟩
  have e1 := HS.out _ k1
  refine hK9.out _ _ e1 (fun hHeld1 => ?_)
  clear hK9 K
  refine wpAnyH_ready (rs := [7]) (by kernel_rfl) (by simp) ?_
  refine AllReadyH.cons rfl (fun K hK9 => ?_) AllReadyH.nil
  go_simp
  go_wp2_with fail
  refine (KP.out _ _ _ (.inr ⟨rfl, rfl⟩) k1).mono ?_
  rintro e u2 ⟨rfl, k2, j2⟩
  have e2 := HS.out _ k2
  refine hK9.out _ _ e2 (fun hHeld2 => ?_)
  clear hK9 K
  refine wpAnyH_take (i := 8) (v := ?_) rfl (by kernel_rfl) (by kernel_rfl) (by kernel_rfl) (fun _ _ _ h => h) (Or.inl ⟨by rfl, ?hyb8⟩) (by assumption) ?_
  case hyb8 => (intro w hSw; (try dsimp only at hSw); go_simp; try (with_reducible rfl))
  simp only [Act.put, List.getElem_toArray, List.getElem_cons_succ, List.getElem_cons_zero, List.setIfInBounds_toArray, List.set_cons_zero, List.set_cons_succ]
  obtain ⟨c0, c1, cf⟩ := HQ.out _ k2
  refine wpAnyH_ready (rs := [9]) (by kernel_rfl) (by simp) ?_
  refine AllReadyH.cons rfl (fun K hK9 => ?_) AllReadyH.nil
  go_simp
  have e3 := ((hP.kept k2).set H1 0 n1 (.int .i64 p)).set H1 1 n1 (.int .i64 q)
  refine hK9.out _ _ ⟨e3.c0, e3.c1⟩ (fun hHeld3 => ?_)
  clear hK9 K
  refine wpAnyH_take (i := 10) (v := ?_) rfl (by kernel_rfl) (by kernel_rfl) (by kernel_rfl) (fun _ _ _ h => h) (Or.inl ⟨by rfl, ?hyc10⟩) (by assumption) ?_
  case hyc10 => (intro w hSw; (try dsimp only at hSw); go_simp; try (with_reducible rfl))
  simp only [Act.put, List.getElem_toArray, List.getElem_cons_succ, List.getElem_cons_zero, List.setIfInBounds_toArray, List.set_cons_zero, List.set_cons_succ]
  refine wpAnyH_done (by kernel_rfl) ?_ _
  go_wp2_with fail
  have hz := (P2.mk c0 c1 cf).put (.int .i64 p) (.int .i64 q)
  obtain ⟨d0, d1, df⟩ := hz
  exact bodyPost_ret (v := .tuple #[sp2 p q, .int .i64 0]) (by simp [results, Tryd.results31, go_sem, d0, d1]) rfl ⟨rfl, ((hK.trans k2).setCell o1 _).setCell o1 _⟩

set_option maxHeartbeats 400000 in
theorem point_any (x : Nat) (w : World) : Calls Tryd.prog 40 #[.float .f64 x] w fun e w' => e = .returned (fv2 x x) ∧ Kept w w' := by
  have hSF := sto_f
  go_enter Tryd.func40, Tryd.ntmps40
  go_wp2_with fail
  refine bodyPost_ret (v := fv2 x x) (by simp [results, Tryd.results40, go_sem]) rfl ⟨rfl, ?_⟩
  (repeat' first | exact Kept.refl _ | refine Kept.setCell ?_ ?_ _ | refine Kept.alloc ?_ _ _ | (simp; done) | (simp <;> omega))
theorem fin_key (b n : Int) (hn : n = 64 ∨ n = 32) (hi : isnum b n = true) (h1 : RB b) : fin b n = decide (¬ (keyOf b n = (ifn n : Int) ∨ keyOf b n = -(ifn n : Int))) := by
  have hc : cls b n ≠ 4 := by
    unfold isnum at hi
    rw [decide_eq_true_eq] at hi
    exact hi.2
  unfold fin
  rw [Bool.eq_iff_iff, decide_eq_true_eq, decide_eq_true_eq]
  rcases hn with rfl | rfl
  · have hm := (num64_iff b).1 hi
    have i1 : (ifn 64 : Int) = 9218868437227405312 := by decide
    rw [key64_is, i1]
    unfold cls clsOf
    simp only [if_pos]
    unfold RB at h1
    split <;> (repeat' split) <;> simp <;> omega
  · have hm := (num32_iff b).1 hi
    have i1 : (ifn 32 : Int) = 2139095040 := by decide
    rw [key32_is, i1]
    unfold cls clsOf
    rw [if_neg (by decide : ¬ (32 : Int) = 64), if_pos rfl, if_pos hm.1]
    split <;> (repeat' split) <;> simp <;> omega
end Go.Proofs.YtalhnaakbekboaaDoor
