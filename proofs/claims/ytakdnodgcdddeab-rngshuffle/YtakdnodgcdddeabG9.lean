/- alive; words; RngWords. -/
import Derived.Test.YtakdnodgcdddeabG7
import Derived.Test.YtakdnodgcdddeabG8
namespace Go.Proofs.Ytakdnodgcdddeab
open Go.ChangeShapes Go.WideShapes Go.ChangeAt Go.RowKit
set_option linter.unusedVariables false
set_option linter.unusedSimpArgs false

set_option maxHeartbeats 4000000 in
set_option maxRecDepth 100000 in
theorem galive_true (w : World) : Calls Try.prog 6 #[] w fun e w' => e = .returned (.bool true) ∧ Kept w w' := by
  obtain ⟨L, P, hS⟩ : ∃ L P, shuf 1 2 3 5 = (L, P) := ⟨(shuf 1 2 3 5).1, (shuf 1 2 3 5).2, rfl⟩
  have hLl : L.length = 5 := by have := shuf_length 1 2 3 5; rw [hS] at this; exact this
  have H1 : Hid (∀ u, Calls Try.prog 5 #[.agg #[.int .i64 1, .int .i64 2, .int .i64 3], .int .i64 5] u fun e w' => e = .returned (.tuple #[.slice (some ⟨u.heap.size + 4, 0, none⟩) 5 5, .agg #[.int .i64 1, .int .i64 2, .int .i64 P], .int .i64 0]) ∧ Own w' (u.heap.size + 4) 5 L ∧ Kept u w') := fun u => by
    have := shuffle_ok 1 2 3 5 (by decide) u
    rw [hS] at this
    exact this
  have H2 : Hid (∀ u, Calls Try.prog 11 #[.agg #[.int .i64 1, .int .i64 2, .int .i64 3], .int .i64 5] u fun e w' => ∃ lv, e = .returned (.tuple #[lv, .agg #[.int .i64 1, .int .i64 2, .int .i64 P]]) ∧ MR (u.heap.size + 2) w' lv L ∧ Kept u w') := fun u => by
    have := rshuffle_ok 1 2 3 5 (by decide) u
    rw [hS] at this
    exact this
  clear hS
  obtain ⟨V, hV⟩ : ∃ V, V = wz 1 2 (3 + 0) := ⟨_, rfl⟩
  have HW : Hid (∀ u, Calls Try.prog 9 #[.agg #[.int .i64 1, .int .i64 2, .int .i64 3], .int .i64 0] u fun e w' => e = .returned (.int .i64 V) ∧ Kept u w') := fun u => by
    rw [hV]; exact word_any 1 2 3 0 u
  have HR : Hid (∀ u, Calls Try.prog 12 #[.agg #[.int .i64 1, .int .i64 2, .int .i64 3], .int .i64 0] u fun e w' => e = .returned (.int .i64 V) ∧ Kept u w') := fun u => by
    rw [hV]; exact rword_any 1 2 3 0 u
  clear hV
  go_enter Try.func6, Try.ntmps6
  go_upto_region 2 with fail
  have d0 := dr_new w 1 2 3 23
  have k0 := (Kept.refl w).alloc #[.int .i64 1, .int .i64 2, .int .i64 3] 23
  obtain ⟨X, hX⟩ : ∃ X, X = w.alloc (.cells #[.int .i64 1, .int .i64 2, .int .i64 3] 23) := ⟨_, rfl⟩
  rw [← hX] at d0 k0 ⊢
  clear hX
  have D0 := d0
  obtain ⟨c0, c1, c2⟩ := D0
  go_wp2_with fail
  refine (H1.out _).mono ?_
  rintro e w1 ⟨rfl, ho, hk1⟩
  clear c0 c1 c2
  go_upto_region 3 with fail
  have kA := (Kept.refl w1).alloc #[.int .i64 1, .int .i64 2, .int .i64 P] 23
  have d1 := (d0.kept hk1).kept kA
  have k1 := (k0.trans hk1).trans kA
  have o1 := ho.kept kA
  obtain ⟨g, hg⟩ : ∃ g, g = X.heap.size + 4 := ⟨_, rfl⟩
  obtain ⟨c1', hc1⟩ : ∃ C, C = w1.heap.size := ⟨_, rfl⟩
  obtain ⟨Y, hY⟩ : ∃ Y, Y = w1.alloc (.cells #[.int .i64 1, .int .i64 2, .int .i64 P] 23) := ⟨_, rfl⟩
  rw [← hg] at o1 ⊢
  rw [← hc1]
  rw [← hY] at d1 k1 o1 ⊢
  clear hY hc1 hg ho hk1 kA d0 k0
  have D1 := d1
  obtain ⟨c0, c1, c2⟩ := D1
  go_wp2_with fail
  refine (H2.out _).mono ?_
  rintro e w2 ⟨lv, rfl, hm, hk2⟩
  clear c0 c1 c2
  go_upto_region 4 with fail
  have kA := (Kept.refl w2).alloc #[.int .i64 1, .int .i64 2, .int .i64 P] 23
  have d2 := (d1.kept hk2).kept kA
  have k2 := (k1.trans hk2).trans kA
  have o2 := (o1.kept hk2).kept kA
  have m2 := hm.kept kA
  obtain ⟨c2', hc2⟩ : ∃ C, C = w2.heap.size := ⟨_, rfl⟩
  obtain ⟨Z, hZ⟩ : ∃ Z, Z = w2.alloc (.cells #[.int .i64 1, .int .i64 2, .int .i64 P] 23) := ⟨_, rfl⟩
  rw [← hc2]
  rw [← hZ] at d2 k2 o2 m2 ⊢
  clear hZ hc2 hm hk2 kA d1 k1 o1 H1 H2
  obtain ⟨ao, c, rfl, -, hsl⟩ := m2.sl
  rw [hLl] at hsl ⊢
  have KS : Hid (∀ u, Kept Z u → Calls Try.prog 13 #[.slice (some ⟨g, 0, none⟩) 5 5, .slice ao 5 c] u fun e w' => e = .returned (.bool true) ∧ Kept u w') := fun u hu => by
    have a1 := (o2.kept hu).sl
    rw [hLl] at a1
    exact same_true L (by omega) _ _ u a1 (hsl.kept hu)
  have HS : Hid (∀ u, Kept Z u → Kept Z u ∧ u.cell? ⟨w.heap.size, 0, none⟩ = some (.int .i64 1) ∧ u.cell? ⟨w.heap.size, 1, none⟩ = some (.int .i64 2) ∧ u.cell? ⟨w.heap.size, 2, none⟩ = some (.int .i64 3)) := fun u hu => ⟨hu, d2.kept hu⟩
  have HK : Hid (Kept Z Z.drew) := (Kept.refl _).drew
  clear d2 o2 m2 hsl hLl
  refine wp_region_held_drew (S := fun u => Kept Z u ∧ u.cell? ⟨w.heap.size, 0, none⟩ = some (.int .i64 1) ∧ u.cell? ⟨w.heap.size, 1, none⟩ = some (.int .i64 2) ∧ u.cell? ⟨w.heap.size, 2, none⟩ = some (.int .i64 3)) (by kernel_rfl) (HS.out _ HK.out) (fun hHeld => ?_)
  refine wpAnyH_take (i := 0) (v := ?_) rfl (by kernel_rfl) (by kernel_rfl) (by kernel_rfl) (fun _ _ _ h => h) (Or.inl ⟨by rfl, ?hya0⟩) (by assumption) ?_
  case hya0 => (intro w hSw; (try dsimp only at hSw); go_simp; try (with_reducible rfl))
  simp only [Act.put, List.getElem_toArray, List.getElem_cons_succ, List.getElem_cons_zero, List.setIfInBounds_toArray, List.set_cons_zero, List.set_cons_succ]
  refine wpAnyH_take (i := 2) (v := ?_) rfl (by kernel_rfl) (by kernel_rfl) (by kernel_rfl) (fun _ _ _ h => h) (Or.inl ⟨by rfl, ?hya2⟩) (by assumption) ?_
  case hya2 => (intro w hSw; (try dsimp only at hSw); go_simp; try (with_reducible rfl))
  simp only [Act.put, List.getElem_toArray, List.getElem_cons_succ, List.getElem_cons_zero, List.setIfInBounds_toArray, List.set_cons_zero, List.set_cons_succ]
  refine wpAnyH_ready (rs := [1]) (by kernel_rfl) (by simp) ?_
  refine AllReadyH.cons rfl (fun K hK9 => ?_) AllReadyH.nil
  go_simp
  go_wp2_with fail
  refine (HW.out _).mono ?_
  rintro e u1 ⟨rfl, q1⟩
  have e1 := HS.out _ (HK.out.trans q1)
  refine hK9.out _ _ e1 (fun hHeld1 => ?_)
  clear hK9 K
  refine wpAnyH_ready (rs := [3]) (by kernel_rfl) (by simp) ?_
  refine AllReadyH.cons rfl (fun K hK9 => ?_) AllReadyH.nil
  go_simp
  go_wp2_with fail
  refine (HR.out _).mono ?_
  rintro e u2 ⟨rfl, q2⟩
  have e2 := HS.out _ (e1.1.trans q2)
  refine hK9.out _ _ e2 (fun hHeld2 => ?_)
  clear hK9 K
  refine wpAnyH_take (i := 4) (v := ?_) rfl (by kernel_rfl) (by kernel_rfl) (by kernel_rfl) (fun _ _ _ h => h) (Or.inl ⟨by rfl, ?hyb4⟩) (by assumption) ?_
  case hyb4 => (intro w hSw; (try dsimp only at hSw); go_simp; try (with_reducible rfl))
  simp only [Act.put, List.getElem_toArray, List.getElem_cons_succ, List.getElem_cons_zero, List.setIfInBounds_toArray, List.set_cons_zero, List.set_cons_succ]
  refine wpAnyH_take (i := 5) (v := ?_) rfl (by kernel_rfl) (by kernel_rfl) (by kernel_rfl) (fun _ _ _ h => h) (Or.inl ⟨by rfl, ?hyb5⟩) (by assumption) ?_
  case hyb5 => (intro w hSw; (try dsimp only at hSw); go_simp; try (with_reducible rfl))
  simp only [Act.put, List.getElem_toArray, List.getElem_cons_succ, List.getElem_cons_zero, List.setIfInBounds_toArray, List.set_cons_zero, List.set_cons_succ]
  refine wpAnyH_take (i := 6) (v := ?_) rfl (by kernel_rfl) (by kernel_rfl) (by kernel_rfl) (fun _ _ _ h => h) (Or.inl ⟨by rfl, ?hyb6⟩) (by assumption) ?_
  case hyb6 => (intro w hSw; (try dsimp only at hSw); go_simp; try (with_reducible rfl))
  simp only [Act.put, List.getElem_toArray, List.getElem_cons_succ, List.getElem_cons_zero, List.setIfInBounds_toArray, List.set_cons_zero, List.set_cons_succ]
  refine wpAnyH_take (i := 7) (v := ?_) rfl (by kernel_rfl) (by kernel_rfl) (by kernel_rfl) (fun _ _ _ h => h) (Or.inl ⟨by rfl, ?hyb7⟩) (by assumption) ?_
  case hyb7 => (intro w hSw; (try dsimp only at hSw); go_simp; try (with_reducible rfl))
  simp only [Act.put, List.getElem_toArray, List.getElem_cons_succ, List.getElem_cons_zero, List.setIfInBounds_toArray, List.set_cons_zero, List.set_cons_succ]
  refine wpAnyH_take (i := 8) (v := ?_) rfl (by kernel_rfl) (by kernel_rfl) (by kernel_rfl) (fun _ _ _ h => h) (Or.inl ⟨by rfl, ?hyb8⟩) (by assumption) ?_
  case hyb8 => (intro w hSw; (try dsimp only at hSw); go_simp; try (with_reducible rfl))
  simp only [Act.put, List.getElem_toArray, List.getElem_cons_succ, List.getElem_cons_zero, List.setIfInBounds_toArray, List.set_cons_zero, List.set_cons_succ]
  refine wpAnyH_take (i := 9) (v := ?_) rfl (by kernel_rfl) (by kernel_rfl) (by kernel_rfl) (fun _ _ _ h => h) (Or.inl ⟨by rfl, ?hyb9⟩) (by assumption) ?_
  case hyb9 => (intro w hSw; (try dsimp only at hSw); go_simp; try (with_reducible rfl))
  simp only [Act.put, List.getElem_toArray, List.getElem_cons_succ, List.getElem_cons_zero, List.setIfInBounds_toArray, List.set_cons_zero, List.set_cons_succ]
  refine wpAnyH_take (i := 10) (v := ?_) rfl (by kernel_rfl) (by kernel_rfl) (by kernel_rfl) (fun _ _ _ h => h) (Or.inl ⟨by rfl, ?hyb10⟩) (by assumption) ?_
  case hyb10 => (intro w hSw; (try dsimp only at hSw); go_simp; try (with_reducible rfl))
  simp only [Act.put, List.getElem_toArray, List.getElem_cons_succ, List.getElem_cons_zero, List.setIfInBounds_toArray, List.set_cons_zero, List.set_cons_succ]
  refine wpAnyH_take (i := 11) (v := ?_) rfl (by kernel_rfl) (by kernel_rfl) (by kernel_rfl) (fun _ _ _ h => h) (Or.inl ⟨by rfl, ?hyb11⟩) (by assumption) ?_
  case hyb11 => (intro w hSw; (try dsimp only at hSw); go_simp; try (with_reducible rfl))
  simp only [Act.put, List.getElem_toArray, List.getElem_cons_succ, List.getElem_cons_zero, List.setIfInBounds_toArray, List.set_cons_zero, List.set_cons_succ]
  refine wpAnyH_ready (rs := [12]) (by kernel_rfl) (by simp) ?_
  refine AllReadyH.cons rfl (fun K hK9 => ?_) AllReadyH.nil
  go_simp
  go_wp2_with fail
  refine (KS.out _ e2.1).mono ?_
  rintro e u3 ⟨rfl, q3⟩
  have e3 := HS.out _ (e2.1.trans q3)
  refine hK9.out _ _ e3 (fun hHeld3 => ?_)
  clear hK9 K
  refine wpAnyH_take (i := 13) (v := ?_) rfl (by kernel_rfl) (by kernel_rfl) (by kernel_rfl) (fun _ _ _ h => h) (Or.inl ⟨by rfl, ?hyc13⟩) (by assumption) ?_
  case hyc13 => (intro w hSw; (try dsimp only at hSw); go_simp; try (with_reducible rfl))
  simp only [Act.put, List.getElem_toArray, List.getElem_cons_succ, List.getElem_cons_zero, List.setIfInBounds_toArray, List.set_cons_zero, List.set_cons_succ]
  refine wpAnyH_take (i := 14) (v := ?_) rfl (by kernel_rfl) (by kernel_rfl) (by kernel_rfl) (fun _ _ _ h => h) (Or.inl ⟨by rfl, ?hyc14⟩) (by assumption) ?_
  case hyc14 => (intro w hSw; (try dsimp only at hSw); go_simp; try (with_reducible rfl))
  simp only [Act.put, List.getElem_toArray, List.getElem_cons_succ, List.getElem_cons_zero, List.setIfInBounds_toArray, List.set_cons_zero, List.set_cons_succ]
  refine wpAnyH_done (by kernel_rfl) ?_ _
  go_wp2
  go_ret
  exact ⟨rfl, k2.trans e3.1⟩

end Go.Proofs.Ytakdnodgcdddeab
