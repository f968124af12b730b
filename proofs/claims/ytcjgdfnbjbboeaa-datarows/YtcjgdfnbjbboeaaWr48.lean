/- The document's Row. -/
import Derived.Test.YtcjgdfnbjbboeaaWr47
namespace Go.Proofs.Ytcjgdfnbjbboeaa
open Go.ChangeShapes Go.WideShapes Go.ChangeAt Go.RowKit
set_option linter.unusedVariables false
set_option linter.unusedSimpArgs false

abbrev zmat : Value := .agg #[.int .i64 0, .int .i64 0, .int .i64 0, .slice none 0 0]
def RRw (q0 row r m1 m2 m3 m1' m2' m3' : Int) (GX GY : Nat → Option Addr → Nat → World → Prop) (e : Ending) (w' : World) : Prop := (q0 ≠ 0 ∧ e = .returned (.tuple #[zmat, zmat, .int .i64 q0])) ∨ (q0 = 0 ∧ (row < 0 ∨ r ≤ row) ∧ e = .returned (.tuple #[zmat, zmat, .int .i64 40])) ∨ (q0 = 0 ∧ 0 ≤ row ∧ row < r ∧ ∃ l a p l' a' p', e = .returned (.tuple #[.agg #[.int .i64 m1, .int .i64 m2, .int .i64 m3, .slice a l p], .agg #[.int .i64 m1', .int .i64 m2', .int .i64 m3', .slice a' l' p'], .int .i64 0]) ∧ GX l a p w' ∧ GY l' a' p' w')
set_option maxHeartbeats 8000000 in
set_option maxRecDepth 100000 in
theorem rrow_walk (r c n r' c' n' : Int) (sx sy : Value) (hsx : sx.oneCell' = true) (hsy : sy.oneCell' = true) (row x q0 : Int) (m1 m2 m3 m1' m2' m3' : Int) (GX GY : Nat → Option Addr → Nat → World → Prop) (w : World)
    (hGX : Hid (∀ l a p u u', GX l a p u → Kept u u' → GX l a p u')) 
    (hGY : Hid (∀ l a p u u', GY l a p u → Kept u u' → GY l a p u'))
    (hGYf : Hid (∀ l a p u (b : Addr) v, GY l a p u → b.block < w.heap.size + 3 → GY l a p (u.setCell b v)))
    (hGXf : Hid (∀ l a p u (b : Addr) v, GX l a p u → b.block < w.heap.size + 3 → GX l a p (u.setCell b v)))
    (KC : Hid (∀ u, Kept w u → Calls Try.prog 28 #[sv8 r c n sx r' c' n' sy] u fun e w' => e = .returned (.tuple #[.int .i64 x, .int .i64 q0]) ∧ Kept u w'))
    (KX : Hid (∀ u, Kept w u → w.heap.size + 3 ≤ u.heap.size → q0 = 0 → 0 ≤ row → row < r → Calls Try.prog 29 #[.agg #[.int .i64 r, .int .i64 c, .int .i64 n, sx], .int .i64 row] u fun e w' => ∃ l a p, e = .returned (.agg #[.int .i64 m1, .int .i64 m2, .int .i64 m3, .slice a l p]) ∧ GX l a p w' ∧ Kept u w'))
    (KY : Hid (∀ u, Kept w u → w.heap.size + 3 ≤ u.heap.size → q0 = 0 → 0 ≤ row → row < r → Calls Try.prog 29 #[.agg #[.int .i64 r', .int .i64 c', .int .i64 n', sy], .int .i64 row] u fun e w' => ∃ l a p, e = .returned (.agg #[.int .i64 m1', .int .i64 m2', .int .i64 m3', .slice a l p]) ∧ GY l a p w' ∧ Kept u w')) :
    Calls Try.prog 9 #[sv8 r c n sx r' c' n' sy, .int .i64 row] w fun e w' => RRw q0 row r m1 m2 m3 m1' m2' m3' GX GY e w' ∧ Kept w w' := by
  obtain ⟨X, hXw⟩ : ∃ X, X = (((w.alloc (.cells (sl8 r c n sx r' c' n' sy).toArray 26)).alloc (.cells #[.int .i64 0, .int .i64 0, .int .i64 0, .slice none 0 0] 24)).alloc (.cells #[.int .i64 0, .int .i64 0, .int .i64 0, .slice none 0 0] 24)) := ⟨_, rfl⟩
  have hK : Kept w X := by rw [hXw]; exact (((Kept.refl w).alloc _ _).alloc _ _).alloc _ _
  have hXs : X.heap.size = w.heap.size + 3 := by rw [hXw]; simp
  have hB : Bq X w.heap.size (sl8 r c n sx r' c' n' sy) := by rw [hXw]; exact (Bq.new w _ 26).kept (((Kept.refl _).alloc _ _).alloc _ _)
  have hM : Bq X (w.heap.size + 1) [.int .i64 0, .int .i64 0, .int .i64 0, .slice none 0 0] := by
    have := (Bq.new (w.alloc (.cells (sl8 r c n sx r' c' n' sy).toArray 26)) [.int .i64 0, .int .i64 0, .int .i64 0, .slice none 0 0] 24).kept ((Kept.refl _).alloc #[.int .i64 0, .int .i64 0, .int .i64 0, .slice none 0 0] 24)
    rw [hXw]; simpa using this
  have hN : Bq X (w.heap.size + 2) [.int .i64 0, .int .i64 0, .int .i64 0, .slice none 0 0] := by
    have := Bq.new ((w.alloc (.cells (sl8 r c n sx r' c' n' sy).toArray 26)).alloc (.cells #[.int .i64 0, .int .i64 0, .int .i64 0, .slice none 0 0] 24)) [.int .i64 0, .int .i64 0, .int .i64 0, .slice none 0 0] 24
    rw [hXw]; simpa using this
  go_enter Try.func9, Try.ntmps9
  go_upto_region 1 with fail
  rw [← hXw]
  clear hXw
  obtain ⟨B1, hB1⟩ : ∃ B, B = w.heap.size + 1 := ⟨_, rfl⟩
  obtain ⟨B2, hB2⟩ : ∃ B, B = w.heap.size + 2 := ⟨_, rfl⟩
  rw [← hB1] at hM
  rw [← hB2] at hN
  rw [show w.heap.size + 1 + 1 = B2 from hB2.symm, ← hB1]
  have HXS := hidq (And.intro hXs (And.intro hB1 hB2))
  have hne12 : ¬ B1 = B2 := by omega
  have hne21 : ¬ B2 = B1 := by omega
  clear hXs hB1 hB2
  have c0 := hB.c 0 _ rfl
  have c1 := hB.c 1 _ rfl
  have c2 := hB.c 2 _ rfl
  have c3 := hB.c 3 _ rfl
  have c4 := hB.c 4 _ rfl
  have c5 := hB.c 5 _ rfl
  have c6 := hB.c 6 _ rfl
  have c7 := hB.c 7 _ rfl
  go_upto_region 2 with (first | (go_at_call 28; refine (KC.out _ hK).mono ?_; rintro e w1 ⟨rfl, k1⟩))
  clear c0 c1 c2 c3 c4 c5 c6 c7
  have hB1 := hB.kept k1
  have hM1 := hM.kept k1
  have hN1 := hN.kept k1
  have hK1 := hK.trans k1
  have HW1 := hidq (show w.heap.size + 3 ≤ w1.heap.size from by rw [← HXS.out.1]; exact k1.below.size)
  clear hB hM hN hK k1 KC
  have c0 := hB1.c 0 _ rfl
  by_cases hq : q0 = 0
  · subst hq
    by_cases h0 : row < 0
    · go_upto_region 5 with fail
      clear c0
      have d0 := hM1.c 0 _ rfl
      have d1 := hM1.c 1 _ rfl
      have d2 := hM1.c 2 _ rfl
      have d3 := hM1.c 3 _ rfl
      have e0 := hN1.c 0 _ rfl
      have e1 := hN1.c 1 _ rfl
      have e2 := hN1.c 2 _ rfl
      have e3 := hN1.c 3 _ rfl
      have fz := hM1.fz
      have fy := hN1.fz
      go_wp2_with fail
      have hM9 := st4 w1 B1 _ rfl hM1 (.int .i64 0) (.int .i64 0) (.int .i64 0) (.slice none 0 0)
      have hN9 := st4_far (B := B1) hN1 (by have := HXS.out; omega) (.int .i64 0) (.int .i64 0) (.int .i64 0) (.slice none 0 0)
      have hM8 := st4_far (B := B2) hM9 (by have := HXS.out; omega) (.int .i64 0) (.int .i64 0) (.int .i64 0) (.slice none 0 0)
      have hN8 := st4 _ B2 _ rfl hN9 (.int .i64 0) (.int .i64 0) (.int .i64 0) (.slice none 0 0)
      have x0 := hM8.c 0 _ rfl
      have x1 := hM8.c 1 _ rfl
      have x2 := hM8.c 2 _ rfl
      have x3 := hM8.c 3 _ rfl
      have y0 := hN8.c 0 _ rfl
      have y1 := hN8.c 1 _ rfl
      have y2 := hN8.c 2 _ rfl
      have y3 := hN8.c 3 _ rfl
      exact bodyPost_ret (v := .tuple #[.agg #[.int .i64 0, .int .i64 0, .int .i64 0, .slice none 0 0], .agg #[.int .i64 0, .int .i64 0, .int .i64 0, .slice none 0 0], .int .i64 40]) (by simp [results, Try.f9, go_sem, x0, x1, x2, x3, y0, y1, y2, y3]) rfl ⟨.inr (.inl ⟨rfl, .inl h0, rfl⟩), st4_kept (st4_kept hK1 (by have := HXS.out; omega) _ _ _ _) (by have := HXS.out; omega) _ _ _ _⟩
    · by_cases h1 : row < r
      · have h2 : ¬ r ≤ row := by omega
        go_upto_region 6 with fail
        clear c0
        have h00 : 0 ≤ row := by omega
        have HR := hidq (And.intro h00 h1)
        have HS : Hid (∀ u, Kept w1 u → Kept w1 u ∧ u.cell? ⟨w.heap.size, 0, none⟩ = some (.int .i64 r) ∧ u.cell? ⟨w.heap.size, 1, none⟩ = some (.int .i64 c) ∧ u.cell? ⟨w.heap.size, 2, none⟩ = some (.int .i64 n) ∧ u.cell? ⟨w.heap.size, 3, none⟩ = some (sx) ∧ u.cell? ⟨w.heap.size, 4, none⟩ = some (.int .i64 r') ∧ u.cell? ⟨w.heap.size, 5, none⟩ = some (.int .i64 c') ∧ u.cell? ⟨w.heap.size, 6, none⟩ = some (.int .i64 n') ∧ u.cell? ⟨w.heap.size, 7, none⟩ = some (sy)) := fun u k => ⟨k, (hB1.kept k).c 0 _ rfl, (hB1.kept k).c 1 _ rfl, (hB1.kept k).c 2 _ rfl, (hB1.kept k).c 3 _ rfl, (hB1.kept k).c 4 _ rfl, (hB1.kept k).c 5 _ rfl, (hB1.kept k).c 6 _ rfl, (hB1.kept k).c 7 _ rfl⟩
        clear hB1 h0 h1 h2 h00
        refine wp_region_late [8, 9, 10] (fun u => Kept w1 u ∧ u.cell? ⟨w.heap.size, 0, none⟩ = some (.int .i64 r) ∧ u.cell? ⟨w.heap.size, 1, none⟩ = some (.int .i64 c) ∧ u.cell? ⟨w.heap.size, 2, none⟩ = some (.int .i64 n) ∧ u.cell? ⟨w.heap.size, 3, none⟩ = some (sx) ∧ u.cell? ⟨w.heap.size, 4, none⟩ = some (.int .i64 r') ∧ u.cell? ⟨w.heap.size, 5, none⟩ = some (.int .i64 c') ∧ u.cell? ⟨w.heap.size, 6, none⟩ = some (.int .i64 n') ∧ u.cell? ⟨w.heap.size, 7, none⟩ = some (sy)) (by kernel_rfl) (HS.out _ (Kept.refl w1).drew) (fun hHeld => ?_)
        refine wpAnyD_take (i := 0) (v := ?_) rfl (by kernel_rfl) (by kernel_rfl) (by kernel_rfl) (by kernel_rfl) (fun _ _ _ h => h) (Or.inl ⟨by rfl, ?hya0⟩) hHeld ?_
        case hya0 => (intro w hSw; (try dsimp only at hSw); go_simp; try (with_reducible rfl))
        (try simp only [Act.put, List.getElem_toArray, List.getElem_cons_succ, List.getElem_cons_zero, List.setIfInBounds_toArray, List.set_cons_zero, List.set_cons_succ])
        refine wpAnyD_take (i := 1) (v := ?_) rfl (by kernel_rfl) (by kernel_rfl) (by kernel_rfl) (by kernel_rfl) (fun _ _ _ h => h) (Or.inl ⟨by rfl, ?hya1⟩) hHeld ?_
        case hya1 => (intro w hSw; (try dsimp only at hSw); go_simp; try (with_reducible rfl))
        (try simp only [Act.put, List.getElem_toArray, List.getElem_cons_succ, List.getElem_cons_zero, List.setIfInBounds_toArray, List.set_cons_zero, List.set_cons_succ])
        refine wpAnyD_take (i := 2) (v := ?_) rfl (by kernel_rfl) (by kernel_rfl) (by kernel_rfl) (by kernel_rfl) (fun _ _ _ h => h) (Or.inl ⟨by rfl, ?hya2⟩) hHeld ?_
        case hya2 => (intro w hSw; (try dsimp only at hSw); go_simp; try (with_reducible rfl))
        (try simp only [Act.put, List.getElem_toArray, List.getElem_cons_succ, List.getElem_cons_zero, List.setIfInBounds_toArray, List.set_cons_zero, List.set_cons_succ])
        refine wpAnyD_take (i := 4) (v := ?_) rfl (by kernel_rfl) (by kernel_rfl) (by kernel_rfl) (by kernel_rfl) (fun _ _ _ h => h) (Or.inl ⟨by rfl, ?hya4⟩) hHeld ?_
        case hya4 => (intro w hSw; (try dsimp only at hSw); go_simp; try (with_reducible rfl))
        (try simp only [Act.put, List.getElem_toArray, List.getElem_cons_succ, List.getElem_cons_zero, List.setIfInBounds_toArray, List.set_cons_zero, List.set_cons_succ])
        refine wpAnyD_take (i := 5) (v := ?_) rfl (by kernel_rfl) (by kernel_rfl) (by kernel_rfl) (by kernel_rfl) (fun _ _ _ h => h) (Or.inl ⟨by rfl, ?hya5⟩) hHeld ?_
        case hya5 => (intro w hSw; (try dsimp only at hSw); go_simp; try (with_reducible rfl))
        (try simp only [Act.put, List.getElem_toArray, List.getElem_cons_succ, List.getElem_cons_zero, List.setIfInBounds_toArray, List.set_cons_zero, List.set_cons_succ])
        refine wpAnyD_take (i := 6) (v := ?_) rfl (by kernel_rfl) (by kernel_rfl) (by kernel_rfl) (by kernel_rfl) (fun _ _ _ h => h) (Or.inl ⟨by rfl, ?hya6⟩) hHeld ?_
        case hya6 => (intro w hSw; (try dsimp only at hSw); go_simp; try (with_reducible rfl))
        (try simp only [Act.put, List.getElem_toArray, List.getElem_cons_succ, List.getElem_cons_zero, List.setIfInBounds_toArray, List.set_cons_zero, List.set_cons_succ])
        refine wpAnyD_step (i := 3) (by kernel_rfl) rfl (fun K hK9 => ?_)
        go_simp
        go_wp2_with fail
        refine (KX.out _ (hK1.trans hHeld.1) (Nat.le_trans HW1.out hHeld.1.below.size) (by trivial) HR.out.1 HR.out.2).mono ?_
        rintro e u1 ⟨l, a, p, rfl, hx, k1⟩
        refine hK9.out _ _ (HS.out _ (hHeld.1.trans k1)) (fun hH1 => ?_)
        clear hK9 K
        (try simp only [Act.put, List.getElem_toArray, List.getElem_cons_succ, List.getElem_cons_zero, List.setIfInBounds_toArray, List.set_cons_zero, List.set_cons_succ])
        refine wpAnyD_step (i := 7) (by kernel_rfl) rfl (fun K hK9 => ?_)
        go_simp
        go_wp2_with fail
        refine (KY.out _ (hK1.trans hH1.1) (Nat.le_trans HW1.out hH1.1.below.size) (by trivial) HR.out.1 HR.out.2).mono ?_
        rintro e u2 ⟨l', a', p', rfl, hy, k2⟩
        refine hK9.out _ _ (HS.out _ (hH1.1.trans k2)) (fun hH2 => ?_)
        clear hK9 K
        (try simp only [Act.put, List.getElem_toArray, List.getElem_cons_succ, List.getElem_cons_zero, List.setIfInBounds_toArray, List.set_cons_zero, List.set_cons_succ])
        have hM2 := hM1.kept hH2.1
        have hN2 := hN1.kept hH2.1
        have hK2 := hK1.trans hH2.1
        have hx2 := hGX.out _ _ _ _ _ hx k2
        have HGG := hidq (And.intro hx2 hy)
        clear hHeld hH1 hx hy hx2 k1 k2 hM1 hN1 hK1 hH2 HS
        have d0 := hM2.c 0 _ rfl
        have d1 := hM2.c 1 _ rfl
        have d2 := hM2.c 2 _ rfl
        have d3 := hM2.c 3 _ rfl
        have fz := hM2.fz
        refine wpAnyD_late (i := 8) (by kernel_rfl) rfl rfl (fun K hK9 => ?_)
        go_simp
        refine hK9.out _ _ ?_
        clear hK9 K
        (try simp only [Act.put, List.getElem_toArray, List.getElem_cons_succ, List.getElem_cons_zero, List.setIfInBounds_toArray, List.set_cons_zero, List.set_cons_succ])
        have hM4 := st4 u2 B1 _ rfl hM2 (.int .i64 m1) (.int .i64 m2) (.int .i64 m3) (.slice a l p)
        have hN4 := st4_far (B := B1) hN2 (by have := HXS.out; omega) (.int .i64 m1) (.int .i64 m2) (.int .i64 m3) (.slice a l p)
        clear d0 d1 d2 d3 fz hM2 hN2
        obtain ⟨Y1, hY1⟩ : ∃ Y1, Y1 = st4w u2 B1 (.int .i64 m1) (.int .i64 m2) (.int .i64 m3) (.slice a l p) := ⟨_, rfl⟩
        have hK4 : Kept w Y1 := by rw [hY1]; exact st4_kept hK2 (by have := HXS.out; omega) _ _ _ _
        have HG1 : Hid (GX l a p Y1 ∧ GY l' a' p' Y1) := by
          have b1 : B1 < w.heap.size + 3 := by have := HXS.out; omega
          rw [hY1]
          exact hidq ⟨hGXf.out _ _ _ _ ⟨B1, 3, none⟩ _ (hGXf.out _ _ _ _ ⟨B1, 2, none⟩ _ (hGXf.out _ _ _ _ ⟨B1, 1, none⟩ _ (hGXf.out _ _ _ _ ⟨B1, 0, none⟩ _ HGG.out.1 b1) b1) b1) b1, hGYf.out _ _ _ _ ⟨B1, 3, none⟩ _ (hGYf.out _ _ _ _ ⟨B1, 2, none⟩ _ (hGYf.out _ _ _ _ ⟨B1, 1, none⟩ _ (hGYf.out _ _ _ _ ⟨B1, 0, none⟩ _ HGG.out.2 b1) b1) b1) b1⟩
        rw [← hY1] at hM4 hN4
        rw [show (((u2.setCell ⟨B1, 0, none⟩ (.int .i64 m1)).setCell ⟨B1, 1, none⟩ (.int .i64 m2)).setCell ⟨B1, 2, none⟩ (.int .i64 m3)).setCell ⟨B1, 3, none⟩ (.slice a l p) = Y1 from hY1.symm]
        clear hY1 HGG hK2
        have d0 := hN4.c 0 _ rfl
        have d1 := hN4.c 1 _ rfl
        have d2 := hN4.c 2 _ rfl
        have d3 := hN4.c 3 _ rfl
        have fz := hN4.fz
        refine wpAnyD_late (i := 9) (by kernel_rfl) rfl rfl (fun K hK9 => ?_)
        go_simp
        refine hK9.out _ _ ?_
        clear hK9 K
        (try simp only [Act.put, List.getElem_toArray, List.getElem_cons_succ, List.getElem_cons_zero, List.setIfInBounds_toArray, List.set_cons_zero, List.set_cons_succ])
        refine wpAnyD_late (i := 10) (by kernel_rfl) rfl rfl (fun K hK9 => ?_)
        go_simp
        refine hK9.out _ _ ?_
        clear hK9 K
        (try simp only [Act.put, List.getElem_toArray, List.getElem_cons_succ, List.getElem_cons_zero, List.setIfInBounds_toArray, List.set_cons_zero, List.set_cons_succ])
        refine wpAnyD_done (by kernel_rfl) ?_ _
        (try simp only [Act.put, List.getElem_toArray, List.getElem_cons_succ, List.getElem_cons_zero, List.setIfInBounds_toArray, List.set_cons_zero, List.set_cons_succ])
        have hN5 := st4 Y1 B2 _ rfl hN4 (.int .i64 m1') (.int .i64 m2') (.int .i64 m3') (.slice a' l' p')
        have hM5 := st4_far (B := B2) hM4 (by have := HXS.out; omega) (.int .i64 m1') (.int .i64 m2') (.int .i64 m3') (.slice a' l' p')
        have b2 : B2 < w.heap.size + 3 := by have := HXS.out; omega
        have HG2 : Hid (GX l a p (st4w Y1 B2 (.int .i64 m1') (.int .i64 m2') (.int .i64 m3') (.slice a' l' p')) ∧ GY l' a' p' (st4w Y1 B2 (.int .i64 m1') (.int .i64 m2') (.int .i64 m3') (.slice a' l' p'))) := hidq ⟨hGXf.out _ _ _ _ ⟨B2, 3, none⟩ _ (hGXf.out _ _ _ _ ⟨B2, 2, none⟩ _ (hGXf.out _ _ _ _ ⟨B2, 1, none⟩ _ (hGXf.out _ _ _ _ ⟨B2, 0, none⟩ _ HG1.out.1 b2) b2) b2) b2, hGYf.out _ _ _ _ ⟨B2, 3, none⟩ _ (hGYf.out _ _ _ _ ⟨B2, 2, none⟩ _ (hGYf.out _ _ _ _ ⟨B2, 1, none⟩ _ (hGYf.out _ _ _ _ ⟨B2, 0, none⟩ _ HG1.out.2 b2) b2) b2) b2⟩
        have x0 := hM5.c 0 _ rfl
        have x1 := hM5.c 1 _ rfl
        have x2 := hM5.c 2 _ rfl
        have x3 := hM5.c 3 _ rfl
        have y0 := hN5.c 0 _ rfl
        have y1 := hN5.c 1 _ rfl
        have y2 := hN5.c 2 _ rfl
        have y3 := hN5.c 3 _ rfl
        go_wp2_with fail
        exact bodyPost_ret (v := .tuple #[.agg #[.int .i64 m1, .int .i64 m2, .int .i64 m3, .slice a l p], .agg #[.int .i64 m1', .int .i64 m2', .int .i64 m3', .slice a' l' p'], .int .i64 0]) (by simp [results, Try.f9, go_sem, x0, x1, x2, x3, y0, y1, y2, y3]) rfl ⟨.inr (.inr ⟨rfl, HR.out.1, HR.out.2, l, a, p, l', a', p', rfl, HG2.out.1, HG2.out.2⟩), st4_kept hK4 (by have := HXS.out; omega) _ _ _ _⟩
      · have h2 : r ≤ row := by omega
        go_upto_region 5 with fail
        clear c0
        have d0 := hM1.c 0 _ rfl
        have d1 := hM1.c 1 _ rfl
        have d2 := hM1.c 2 _ rfl
        have d3 := hM1.c 3 _ rfl
        have e0 := hN1.c 0 _ rfl
        have e1 := hN1.c 1 _ rfl
        have e2 := hN1.c 2 _ rfl
        have e3 := hN1.c 3 _ rfl
        have fz := hM1.fz
        have fy := hN1.fz
        go_wp2_with fail
        have hM9 := st4 w1 B1 _ rfl hM1 (.int .i64 0) (.int .i64 0) (.int .i64 0) (.slice none 0 0)
        have hN9 := st4_far (B := B1) hN1 (by have := HXS.out; omega) (.int .i64 0) (.int .i64 0) (.int .i64 0) (.slice none 0 0)
        have hM8 := st4_far (B := B2) hM9 (by have := HXS.out; omega) (.int .i64 0) (.int .i64 0) (.int .i64 0) (.slice none 0 0)
        have hN8 := st4 _ B2 _ rfl hN9 (.int .i64 0) (.int .i64 0) (.int .i64 0) (.slice none 0 0)
        have x0 := hM8.c 0 _ rfl
        have x1 := hM8.c 1 _ rfl
        have x2 := hM8.c 2 _ rfl
        have x3 := hM8.c 3 _ rfl
        have y0 := hN8.c 0 _ rfl
        have y1 := hN8.c 1 _ rfl
        have y2 := hN8.c 2 _ rfl
        have y3 := hN8.c 3 _ rfl
        exact bodyPost_ret (v := .tuple #[.agg #[.int .i64 0, .int .i64 0, .int .i64 0, .slice none 0 0], .agg #[.int .i64 0, .int .i64 0, .int .i64 0, .slice none 0 0], .int .i64 40]) (by simp [results, Try.f9, go_sem, x0, x1, x2, x3, y0, y1, y2, y3]) rfl ⟨.inr (.inl ⟨rfl, .inr h2, rfl⟩), st4_kept (st4_kept hK1 (by have := HXS.out; omega) _ _ _ _) (by have := HXS.out; omega) _ _ _ _⟩
  · have hq2 : (q0 == 0) = false := by simpa using hq
    go_upto_region 5 with fail
    clear c0
    have d0 := hM1.c 0 _ rfl
    have d1 := hM1.c 1 _ rfl
    have d2 := hM1.c 2 _ rfl
    have d3 := hM1.c 3 _ rfl
    have e0 := hN1.c 0 _ rfl
    have e1 := hN1.c 1 _ rfl
    have e2 := hN1.c 2 _ rfl
    have e3 := hN1.c 3 _ rfl
    have fz := hM1.fz
    have fy := hN1.fz
    go_wp2_with fail
    have hM9 := st4 w1 B1 _ rfl hM1 (.int .i64 0) (.int .i64 0) (.int .i64 0) (.slice none 0 0)
    have hN9 := st4_far (B := B1) hN1 (by have := HXS.out; omega) (.int .i64 0) (.int .i64 0) (.int .i64 0) (.slice none 0 0)
    have hM8 := st4_far (B := B2) hM9 (by have := HXS.out; omega) (.int .i64 0) (.int .i64 0) (.int .i64 0) (.slice none 0 0)
    have hN8 := st4 _ B2 _ rfl hN9 (.int .i64 0) (.int .i64 0) (.int .i64 0) (.slice none 0 0)
    have x0 := hM8.c 0 _ rfl
    have x1 := hM8.c 1 _ rfl
    have x2 := hM8.c 2 _ rfl
    have x3 := hM8.c 3 _ rfl
    have y0 := hN8.c 0 _ rfl
    have y1 := hN8.c 1 _ rfl
    have y2 := hN8.c 2 _ rfl
    have y3 := hN8.c 3 _ rfl
    exact bodyPost_ret (v := .tuple #[.agg #[.int .i64 0, .int .i64 0, .int .i64 0, .slice none 0 0], .agg #[.int .i64 0, .int .i64 0, .int .i64 0, .slice none 0 0], .int .i64 q0]) (by simp [results, Try.f9, go_sem, x0, x1, x2, x3, y0, y1, y2, y3]) rfl ⟨.inl ⟨hq, rfl⟩, st4_kept (st4_kept hK1 (by have := HXS.out; omega) _ _ _ _) (by have := HXS.out; omega) _ _ _ _⟩
end Go.Proofs.Ytcjgdfnbjbboeaa
