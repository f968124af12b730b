/- Windowed of package tensor. -/
import Derived.Test.YtcldcjchfagcoaaT45
namespace Go.Proofs.Ytcldcjchfagcoaa
open Go.ChangeShapes Go.WideShapes Go.ChangeAt Go.RowKit
set_option linter.unusedVariables false
set_option linter.unusedSimpArgs false

/-- The rows of windows. -/
def wnr (c f t : Int) : Int := Int.tdiv (c - f) t + 1
/-- The error of windows. -/
def wnE (r c f t : Int) : Int := if 1 < r then 4 else if min f t < 1 then 1 else if c < f then 4 else ckR (wnr c f t) f

set_option maxHeartbeats 2000000 in
set_option maxRecDepth 100000 in
theorem windowed_any (r c n f t : Int) (hc1 : 1 ≤ c) (hc : c ≤ 4096) (w : World) : Calls Try.prog 66 #[.agg #[.int .i64 r, .int .i64 c, .int .i64 n], .int .i64 f, .int .i64 t] w fun e w' => e = .returned (.tuple #[if wnE r c f t = 0 then .agg #[.int .i64 (wnr c f t), .int .i64 f, .int .i64 n] else zeroShape, .int .i64 (wnE r c f t)]) ∧ Kept w w' := by
  by_cases h1 : 1 < r
  · have hE : wnE r c f t = 4 := by unfold wnE; rw [if_pos h1]
    rw [hE, if_neg (by decide)]
    clear hE
    go_enter Try.func66, Try.ntmps66
    go_wp2_with fail
    exact bodyPost_ret (v := .tuple #[zeroShape, .int .i64 4]) (by simp [results, Try.results66, go_sem]) rfl ⟨rfl, ((Kept.refl w).alloc _ _).alloc _ _⟩
  · by_cases h2 : min f t < 1
    · have hE : wnE r c f t = 1 := by unfold wnE; rw [if_neg h1, if_pos h2]
      rw [hE, if_neg (by decide)]
      clear hE
      go_enter Try.func66, Try.ntmps66
      go_wp2_with fail
      exact bodyPost_ret (v := .tuple #[zeroShape, .int .i64 1]) (by simp [results, Try.results66, go_sem]) rfl ⟨rfl, ((Kept.refl w).alloc _ _).alloc _ _⟩
    · by_cases h3 : c < f
      · have hE : wnE r c f t = 4 := by unfold wnE; rw [if_neg h1, if_neg h2, if_pos h3]
        rw [hE, if_neg (by decide)]
        clear hE
        go_enter Try.func66, Try.ntmps66
        go_wp2_with fail
        exact bodyPost_ret (v := .tuple #[zeroShape, .int .i64 4]) (by simp [results, Try.results66, go_sem]) rfl ⟨rfl, ((Kept.refl w).alloc _ _).alloc _ _⟩
      · have hE : wnE r c f t = ckR (wnr c f t) f := by unfold wnE; rw [if_neg h1, if_neg h2, if_neg h3]
        obtain ⟨V, hV, x, y, z, hV3⟩ : ∃ V, (if wnE r c f t = 0 then (.agg #[.int .i64 (wnr c f t), .int .i64 f, .int .i64 n] : Value) else zeroShape) = V ∧ ∃ x y z, V = .agg #[.int .i64 x, .int .i64 y, .int .i64 z] := by
          refine ⟨_, rfl, ?_⟩
          split
          · exact ⟨_, _, _, rfl⟩
          · exact ⟨_, _, _, rfl⟩
        have KR0 : ∀ u, Calls Try.prog 60 #[.agg #[.int .i64 (wnr c f t), .int .i64 f, .int .i64 n]] u fun e w' => e = .returned (.tuple #[.agg #[.int .i64 x, .int .i64 y, .int .i64 z], .int .i64 (wnE r c f t)]) ∧ Kept u w' := fun u => by
          have := roomy_any (wnr c f t) f n (by omega) u
          rw [← hE] at this
          rw [hV, hV3] at this
          exact this
        rw [hV, hV3]
        have ht0 : ¬ t = 0 := by omega
        have x1 : IntKind.i64.wrap (c - f) = c - f := by rw [wrap_i64]; omega
        have hq : 0 ≤ Int.tdiv (c - f) t ∧ Int.tdiv (c - f) t ≤ 4096 := ⟨Int.tdiv_nonneg (by omega) (by omega), by
          rw [Int.tdiv_eq_ediv_of_nonneg (by omega)]
          exact Int.le_trans (Int.ediv_le_self _ (by omega)) (by omega)⟩
        have x2 : IntKind.i64.wrap (Int.tdiv (c - f) t) = Int.tdiv (c - f) t := by rw [wrap_i64]; omega
        have x3 : IntKind.i64.wrap (Int.tdiv (c - f) t + 1) = wnr c f t := by unfold wnr; rw [wrap_i64]; omega
        generalize wnE r c f t = q at *
        obtain ⟨X, hX⟩ : ∃ X, X = (w.alloc (.cells #[.int .i64 r, .int .i64 c, .int .i64 n] 44)).alloc (.cells #[.int .i64 0, .int .i64 0, .int .i64 0] 44) := ⟨_, rfl⟩
        have hK : Kept w X := by rw [hX]; exact ((Kept.refl w).alloc _ _).alloc _ _
        have hA : M3 X w.heap.size (.int .i64 r) (.int .i64 c) (.int .i64 n) := by rw [hX]; exact ⟨by simp [go_sem], by simp [go_sem], by simp [go_sem]⟩
        have hR : M3 X (w.heap.size + 1) (.int .i64 0) (.int .i64 0) (.int .i64 0) := by rw [hX]; exact ⟨by simp [go_sem], by simp [go_sem], by simp [go_sem]⟩
        have hF : ∀ o, X.frozen? ⟨w.heap.size + 1, o, none⟩ = false := fun o => by rw [hX]; simp [go_sem]
        have KR : Hid (∀ u, Kept X u → Calls Try.prog 60 #[.agg #[.int .i64 (wnr c f t), .int .i64 f, .int .i64 n]] u fun e w' => e = .returned (.tuple #[.agg #[.int .i64 x, .int .i64 y, .int .i64 z], .int .i64 q]) ∧ Kept X w') := fun u k => by
          refine (KR0 u).mono ?_
          rintro e w' ⟨rfl, k'⟩
          exact ⟨rfl, k.trans k'⟩
        generalize wnr c f t = rw_ at *
        generalize hdv : Int.tdiv (c - f) t = dv at *
        clear hE hV KR0 hq
        go_enter Try.func66, Try.ntmps66
        go_upto_region 1 with fail
        rw [← hX]
        clear hX
        have hA' := hA
        obtain ⟨a0, a1, a2⟩ := hA'
        go_upto_region 7 with fail
        have HS : Hid (∀ u, Kept X u → Kept X u ∧ (u.cell? ⟨w.heap.size, 1, none⟩ = some (.int .i64 c) ∧ u.cell? ⟨w.heap.size, 2, none⟩ = some (.int .i64 n))) := fun u k => ⟨k, (hA.bl k.bl).c1, (hA.bl k.bl).c2⟩
        clear a0 a1 a2
        refine wp_region_late [14, 15] (fun u => Kept X u ∧ (u.cell? ⟨w.heap.size, 1, none⟩ = some (.int .i64 c) ∧ u.cell? ⟨w.heap.size, 2, none⟩ = some (.int .i64 n))) (by kernel_rfl) (HS.out _ ((Kept.refl X).drew)) (fun hHeld => ?_)
        refine wpAnyD_take (i := 0) (v := ?_) rfl (by kernel_rfl) (by kernel_rfl) (by kernel_rfl) (by kernel_rfl) (fun _ _ _ h => h) (Or.inl ⟨by rfl, ?hya0⟩) hHeld ?_
        case hya0 => (intro w hSw; (try dsimp only at hSw); go_simp; try (with_reducible rfl))
        (try simp only [Act.put, List.getElem_toArray, List.getElem_cons_succ, List.getElem_cons_zero, List.setIfInBounds_toArray, List.set_cons_zero, List.set_cons_succ])
        refine wpAnyD_take (i := 1) (v := ?_) rfl (by kernel_rfl) (by kernel_rfl) (by kernel_rfl) (by kernel_rfl) (fun _ _ _ h => h) (Or.inl ⟨by rfl, ?hya1⟩) hHeld ?_
        case hya1 => (intro w hSw; (try dsimp only at hSw); go_simp; try (with_reducible rfl))
        (try simp only [Act.put, List.getElem_toArray, List.getElem_cons_succ, List.getElem_cons_zero, List.setIfInBounds_toArray, List.set_cons_zero, List.set_cons_succ])
        refine wpAnyD_take (i := 2) (v := ?_) rfl (by kernel_rfl) (by kernel_rfl) (by kernel_rfl) (by kernel_rfl) (fun _ _ _ h => h) (Or.inl ⟨by rfl, ?hya2⟩) hHeld ?_
        case hya2 => (intro w hSw; (try dsimp only at hSw); go_simp; try (with_reducible rfl))
        (try simp only [Act.put, List.getElem_toArray, List.getElem_cons_succ, List.getElem_cons_zero, List.setIfInBounds_toArray, List.set_cons_zero, List.set_cons_succ])
        refine wpAnyD_take (i := 3) (v := ?_) rfl (by kernel_rfl) (by kernel_rfl) (by kernel_rfl) (by kernel_rfl) (fun _ _ _ h => h) (Or.inl ⟨by rfl, ?hya3⟩) hHeld ?_
        case hya3 => (intro w hSw; (try dsimp only at hSw); go_simp; try (with_reducible rfl))
        (try simp only [Act.put, List.getElem_toArray, List.getElem_cons_succ, List.getElem_cons_zero, List.setIfInBounds_toArray, List.set_cons_zero, List.set_cons_succ])
        refine wpAnyD_take (i := 4) (v := ?_) rfl (by kernel_rfl) (by kernel_rfl) (by kernel_rfl) (by kernel_rfl) (fun _ _ _ h => h) (Or.inl ⟨by rfl, ?hya4⟩) hHeld ?_
        case hya4 => (intro w hSw; (try dsimp only at hSw); go_simp; try (with_reducible rfl))
        (try simp only [Act.put, List.getElem_toArray, List.getElem_cons_succ, List.getElem_cons_zero, List.setIfInBounds_toArray, List.set_cons_zero, List.set_cons_succ])
        refine wpAnyD_take (i := 5) (v := ?_) rfl (by kernel_rfl) (by kernel_rfl) (by kernel_rfl) (by kernel_rfl) (fun _ _ _ h => h) (Or.inl ⟨by rfl, ?hya5⟩) hHeld ?_
        case hya5 => (intro w hSw; (try dsimp only at hSw); go_simp; try (with_reducible rfl))
        (try simp only [Act.put, List.getElem_toArray, List.getElem_cons_succ, List.getElem_cons_zero, List.setIfInBounds_toArray, List.set_cons_zero, List.set_cons_succ])
        refine wpAnyD_take (i := 6) (v := ?_) rfl (by kernel_rfl) (by kernel_rfl) (by kernel_rfl) (by kernel_rfl) (fun _ _ _ h => h) (Or.inl ⟨by rfl, ?hya6⟩) hHeld ?_
        case hya6 => (intro w hSw; (try dsimp only at hSw); go_simp; try (with_reducible rfl))
        (try simp only [Act.put, List.getElem_toArray, List.getElem_cons_succ, List.getElem_cons_zero, List.setIfInBounds_toArray, List.set_cons_zero, List.set_cons_succ])
        refine wpAnyD_take (i := 7) (v := ?_) rfl (by kernel_rfl) (by kernel_rfl) (by kernel_rfl) (by kernel_rfl) (fun _ _ _ h => h) (Or.inl ⟨by rfl, ?hya7⟩) hHeld ?_
        case hya7 => (intro w hSw; (try dsimp only at hSw); go_simp; try (with_reducible rfl))
        (try simp only [Act.put, List.getElem_toArray, List.getElem_cons_succ, List.getElem_cons_zero, List.setIfInBounds_toArray, List.set_cons_zero, List.set_cons_succ])
        refine wpAnyD_take (i := 8) (v := ?_) rfl (by kernel_rfl) (by kernel_rfl) (by kernel_rfl) (by kernel_rfl) (fun _ _ _ h => h) (Or.inl ⟨by rfl, ?hya8⟩) hHeld ?_
        case hya8 => (intro w hSw; (try dsimp only at hSw); go_simp; try (with_reducible rfl))
        (try simp only [Act.put, List.getElem_toArray, List.getElem_cons_succ, List.getElem_cons_zero, List.setIfInBounds_toArray, List.set_cons_zero, List.set_cons_succ])
        refine wpAnyD_take (i := 9) (v := ?_) rfl (by kernel_rfl) (by kernel_rfl) (by kernel_rfl) (by kernel_rfl) (fun _ _ _ h => h) (Or.inl ⟨by rfl, ?hya9⟩) hHeld ?_
        case hya9 => (intro w hSw; (try dsimp only at hSw); go_simp; try (with_reducible rfl))
        (try simp only [Act.put, List.getElem_toArray, List.getElem_cons_succ, List.getElem_cons_zero, List.setIfInBounds_toArray, List.set_cons_zero, List.set_cons_succ])
        refine wpAnyD_take (i := 10) (v := ?_) rfl (by kernel_rfl) (by kernel_rfl) (by kernel_rfl) (by kernel_rfl) (fun _ _ _ h => h) (Or.inl ⟨by rfl, ?hya10⟩) hHeld ?_
        case hya10 => (intro w hSw; (try dsimp only at hSw); go_simp; try (with_reducible rfl))
        (try simp only [Act.put, List.getElem_toArray, List.getElem_cons_succ, List.getElem_cons_zero, List.setIfInBounds_toArray, List.set_cons_zero, List.set_cons_succ])
        refine wpAnyD_step (i := 11) (by kernel_rfl) rfl (fun K hK9 => ?_)
        go_simp
        go_wp2_with fail
        refine (KR.out _ hHeld.1).mono ?_
        rintro e u11 ⟨rfl, k11⟩
        refine hK9.out _ _ (HS.out _ k11) (fun hHeld11 => ?_)
        clear hK9 K
        refine wpAnyD_take (i := 12) (v := ?_) rfl (by kernel_rfl) (by kernel_rfl) (by kernel_rfl) (by kernel_rfl) (fun _ _ _ h => h) (Or.inl ⟨by rfl, ?hyb12⟩) hHeld11 ?_
        case hyb12 => (intro w hSw; (try dsimp only at hSw); go_simp; try (with_reducible rfl))
        (try simp only [Act.put, List.getElem_toArray, List.getElem_cons_succ, List.getElem_cons_zero, List.setIfInBounds_toArray, List.set_cons_zero, List.set_cons_succ])
        refine wpAnyD_take (i := 13) (v := ?_) rfl (by kernel_rfl) (by kernel_rfl) (by kernel_rfl) (by kernel_rfl) (fun _ _ _ h => h) (Or.inl ⟨by rfl, ?hyb13⟩) hHeld11 ?_
        case hyb13 => (intro w hSw; (try dsimp only at hSw); go_simp; try (with_reducible rfl))
        (try simp only [Act.put, List.getElem_toArray, List.getElem_cons_succ, List.getElem_cons_zero, List.setIfInBounds_toArray, List.set_cons_zero, List.set_cons_succ])
        have hr1 := hR.bl k11.bl
        have f1 : ∀ o, u11.frozen? ⟨w.heap.size + 1, o, none⟩ = false := fun o => (k11.frozen _).trans (hF o)
        obtain ⟨p0, p1, p2⟩ := M3.put u11 _ _ _ _ hr1 (.int .i64 x) (.int .i64 y) (.int .i64 z)
        obtain ⟨r0, r1, r2⟩ := hr1
        refine wpAnyD_late (i := 14) (by kernel_rfl) rfl rfl (fun K hK9 => ?_)
        go_simp
        refine hK9.out _ _ ?_
        clear hK9 K
        (try simp only [Act.put, List.getElem_toArray, List.getElem_cons_succ, List.getElem_cons_zero, List.setIfInBounds_toArray, List.set_cons_zero, List.set_cons_succ])
        refine wpAnyD_late (i := 15) (by kernel_rfl) rfl rfl (fun K hK9 => ?_)
        go_simp
        refine hK9.out _ _ ?_
        clear hK9 K
        (try simp only [Act.put, List.getElem_toArray, List.getElem_cons_succ, List.getElem_cons_zero, List.setIfInBounds_toArray, List.set_cons_zero, List.set_cons_succ])
        refine wpAnyD_done (by kernel_rfl) ?_ _
        (try simp only [Act.put, List.getElem_toArray, List.getElem_cons_succ, List.getElem_cons_zero, List.setIfInBounds_toArray, List.set_cons_zero, List.set_cons_succ])
        go_wp2_with fail
        exact bodyPost_ret (v := .tuple #[.agg #[.int .i64 x, .int .i64 y, .int .i64 z], .int .i64 q]) (by simp [results, Try.results66, go_sem, *]) rfl ⟨rfl, (hK.trans k11).setCell (by simp) _ |>.setCell (by simp) _ |>.setCell (by simp) _⟩
end Go.Proofs.Ytcldcjchfagcoaa
