/- words: package rng's against the document's own. -/
import Derived.Test.YtakdnodgcdddeaaG9
import Derived.Laws.StructEq
namespace Go.Proofs.Ytakdnodgcdddeaa
open Go.ChangeShapes Go.WideShapes Go.ChangeAt Go.RowKit
set_option linter.unusedVariables false
set_option linter.unusedSimpArgs false

set_option maxHeartbeats 4000000 in
set_option maxRecDepth 100000 in
theorem words_true (s t a i k : Int) (w : World) : Calls Try.prog 10 #[.agg #[.int .i64 s, .int .i64 t, .int .i64 a], .int .i64 i, .int .i64 k] w fun e w' => e = .returned (.bool true) ∧ Kept w w' := by
  obtain ⟨V0, hV0⟩ : ∃ V, V = wz s t a := ⟨_, rfl⟩
  obtain ⟨V, hV⟩ : ∃ V, V = wz s t (a + i) := ⟨_, rfl⟩
  obtain ⟨U, hU⟩ : ∃ U, U = spz s t k := ⟨_, rfl⟩
  obtain ⟨p, hp⟩ : ∃ p, p = wrap64 (a + 1) := ⟨_, rfl⟩
  have HW : Hid (∀ u, Calls Try.prog 16 #[.agg #[.int .i64 s, .int .i64 t, .int .i64 a], .int .i64 i] u fun e w' => e = .returned (.int .i64 V) ∧ Kept u w') := fun u => by rw [hV]; exact word_any s t a i u
  have HR : Hid (∀ u, Calls Try.prog 20 #[.agg #[.int .i64 s, .int .i64 t, .int .i64 a], .int .i64 i] u fun e w' => e = .returned (.int .i64 V) ∧ Kept u w') := fun u => by rw [hV]; exact rword_any s t a i u
  have HN : Hid (∀ u, Calls Try.prog 15 #[.agg #[.int .i64 s, .int .i64 t, .int .i64 a]] u fun e w' => e = .returned (.tuple #[.int .i64 V0, .agg #[.int .i64 s, .int .i64 t, .int .i64 p]]) ∧ Kept u w') := fun u => by rw [hV0, hp]; exact gnext_any s t a u
  have HM : Hid (∀ u, Calls Try.prog 22 #[.agg #[.int .i64 s, .int .i64 t, .int .i64 a]] u fun e w' => e = .returned (.tuple #[.int .i64 V0, .agg #[.int .i64 s, .int .i64 t, .int .i64 p]]) ∧ Kept u w') := fun u => by rw [hV0, hp]; exact grnext_any s t a u
  have HP : Hid (∀ u, Calls Try.prog 14 #[.agg #[.int .i64 s, .int .i64 t, .int .i64 a], .int .i64 k] u fun e w' => e = .returned (.agg #[.int .i64 s, .int .i64 U, .int .i64 0]) ∧ Kept u w') := fun u => by rw [hU]; exact split_any s t a k u
  have HQ : Hid (∀ u, Calls Try.prog 23 #[.agg #[.int .i64 s, .int .i64 t, .int .i64 a], .int .i64 k] u fun e w' => e = .returned (.agg #[.int .i64 s, .int .i64 U, .int .i64 0]) ∧ Kept u w') := fun u => by rw [hU]; exact rsplit_any s t a k u
  clear hV0 hV hU hp
  go_enter Try.func10, Try.ntmps10
  go_upto_region 1 with fail
  have d0 := dr_new w s t a 23
  have k0 := (Kept.refl w).alloc #[.int .i64 s, .int .i64 t, .int .i64 a] 23
  obtain ⟨X, hX⟩ : ∃ X, X = w.alloc (.cells #[.int .i64 s, .int .i64 t, .int .i64 a] 23) := ⟨_, rfl⟩
  rw [← hX] at d0 k0 ⊢
  clear hX
  have D0 := d0
  obtain ⟨c0, c1, c2⟩ := D0
  go_wp2_with fail
  refine (HN.out _).mono ?_
  rintro e w1 ⟨rfl, hk1⟩
  clear c0 c1 c2
  go_upto_region 2 with fail
  have kA := (Kept.refl w1).alloc #[.int .i64 s, .int .i64 t, .int .i64 p] 23
  have d1 := (d0.kept hk1).kept kA
  have k1 := (k0.trans hk1).trans kA
  have r1 := dr_new w1 s t p 23
  obtain ⟨C1, hC1⟩ : ∃ C, C = w1.heap.size := ⟨_, rfl⟩
  obtain ⟨Y, hY⟩ : ∃ Y, Y = w1.alloc (.cells #[.int .i64 s, .int .i64 t, .int .i64 p] 23) := ⟨_, rfl⟩
  rw [← hC1] at r1 ⊢
  rw [← hY] at d1 k1 r1 ⊢
  clear hY hC1 hk1 kA d0 k0
  have D1 := d1
  obtain ⟨c0, c1, c2⟩ := D1
  go_wp2_with fail
  refine (HM.out _).mono ?_
  rintro e w2 ⟨rfl, hk2⟩
  clear c0 c1 c2
  go_upto_region 3 with fail
  have kA := (Kept.refl w2).alloc #[.int .i64 s, .int .i64 t, .int .i64 p] 23
  have d2 := (d1.kept hk2).kept kA
  have k2 := (k1.trans hk2).trans kA
  have r2 := (r1.kept hk2).kept kA
  have r3 := dr_new w2 s t p 23
  obtain ⟨C2, hC2⟩ : ∃ C, C = w2.heap.size := ⟨_, rfl⟩
  obtain ⟨Z, hZ⟩ : ∃ Z, Z = w2.alloc (.cells #[.int .i64 s, .int .i64 t, .int .i64 p] 23) := ⟨_, rfl⟩
  rw [← hC2] at r3 ⊢
  rw [← hZ] at d2 k2 r2 r3 ⊢
  clear hZ hC2 hk2 kA d1 k1 r1 HN HM
  have HS : Hid (∀ u, Kept Z u → Kept Z u ∧ (u.cell? ⟨w.heap.size, 0, none⟩ = some (.int .i64 s) ∧ u.cell? ⟨w.heap.size, 1, none⟩ = some (.int .i64 t) ∧ u.cell? ⟨w.heap.size, 2, none⟩ = some (.int .i64 a)) ∧ (u.cell? ⟨C1, 0, none⟩ = some (.int .i64 s) ∧ u.cell? ⟨C1, 1, none⟩ = some (.int .i64 t) ∧ u.cell? ⟨C1, 2, none⟩ = some (.int .i64 p)) ∧ (u.cell? ⟨C2, 0, none⟩ = some (.int .i64 s) ∧ u.cell? ⟨C2, 1, none⟩ = some (.int .i64 t) ∧ u.cell? ⟨C2, 2, none⟩ = some (.int .i64 p))) := fun u hu => ⟨hu, d2.kept hu, r2.kept hu, r3.kept hu⟩
  have HK : Hid (Kept Z Z.drew) := (Kept.refl _).drew
  clear d2 r2 r3
  refine wp_region_held_drew (S := fun u => Kept Z u ∧ (u.cell? ⟨w.heap.size, 0, none⟩ = some (.int .i64 s) ∧ u.cell? ⟨w.heap.size, 1, none⟩ = some (.int .i64 t) ∧ u.cell? ⟨w.heap.size, 2, none⟩ = some (.int .i64 a)) ∧ (u.cell? ⟨C1, 0, none⟩ = some (.int .i64 s) ∧ u.cell? ⟨C1, 1, none⟩ = some (.int .i64 t) ∧ u.cell? ⟨C1, 2, none⟩ = some (.int .i64 p)) ∧ (u.cell? ⟨C2, 0, none⟩ = some (.int .i64 s) ∧ u.cell? ⟨C2, 1, none⟩ = some (.int .i64 t) ∧ u.cell? ⟨C2, 2, none⟩ = some (.int .i64 p))) (by kernel_rfl) (HS.out _ HK.out) (fun hHeld => ?_)
  refine wpAnyH_take (i := 0) (v := ?_) rfl (by kernel_rfl) (by kernel_rfl) (by kernel_rfl) (fun _ _ _ h => h) (Or.inl ⟨by rfl, ?hya0⟩) (by assumption) ?_
  case hya0 => (intro w hSw; (try dsimp only at hSw); go_simp; try (with_reducible rfl))
  simp only [Act.put, List.getElem_toArray, List.getElem_cons_succ, List.getElem_cons_zero, List.setIfInBounds_toArray, List.set_cons_zero, List.set_cons_succ]
  refine wpAnyH_take (i := 1) (v := ?_) rfl (by kernel_rfl) (by kernel_rfl) (by kernel_rfl) (fun _ _ _ h => h) (Or.inl ⟨by rfl, ?hya1⟩) (by assumption) ?_
  case hya1 => (intro w hSw; (try dsimp only at hSw); go_simp; try (with_reducible rfl))
  simp only [Act.put, List.getElem_toArray, List.getElem_cons_succ, List.getElem_cons_zero, List.setIfInBounds_toArray, List.set_cons_zero, List.set_cons_succ]
  refine wpAnyH_take (i := 3) (v := ?_) rfl (by kernel_rfl) (by kernel_rfl) (by kernel_rfl) (fun _ _ _ h => h) (Or.inl ⟨by rfl, ?hya3⟩) (by assumption) ?_
  case hya3 => (intro w hSw; (try dsimp only at hSw); go_simp; try (with_reducible rfl))
  simp only [Act.put, List.getElem_toArray, List.getElem_cons_succ, List.getElem_cons_zero, List.setIfInBounds_toArray, List.set_cons_zero, List.set_cons_succ]
  refine wpAnyH_take (i := 4) (v := ?_) rfl (by kernel_rfl) (by kernel_rfl) (by kernel_rfl) (fun _ _ _ h => h) (Or.inl ⟨by rfl, ?hya4⟩) (by assumption) ?_
  case hya4 => (intro w hSw; (try dsimp only at hSw); go_simp; try (with_reducible rfl))
  simp only [Act.put, List.getElem_toArray, List.getElem_cons_succ, List.getElem_cons_zero, List.setIfInBounds_toArray, List.set_cons_zero, List.set_cons_succ]
  refine wpAnyH_ready (rs := [2]) (by kernel_rfl) (by simp) ?_
  refine AllReadyH.cons rfl (fun K hK9 => ?_) AllReadyH.nil
  go_simp
  go_wp2_with fail
  refine (HW.out _).mono ?_
  rintro e u1 ⟨rfl, q1⟩
  have e1 := HS.out _ (HK.out.trans q1)
  refine hK9.out _ _ e1 (fun hHeld1 => ?_)
  clear hK9 K
  refine wpAnyH_ready (rs := [5]) (by kernel_rfl) (by simp) ?_
  refine AllReadyH.cons rfl (fun K hK9 => ?_) AllReadyH.nil
  go_simp
  go_wp2_with fail
  refine (HR.out _).mono ?_
  rintro e u2 ⟨rfl, q2⟩
  have e2 := HS.out _ (e1.1.trans q2)
  refine hK9.out _ _ e2 (fun hHeld2 => ?_)
  clear hK9 K
  refine wpAnyH_take (i := 6) (v := ?_) rfl (by kernel_rfl) (by kernel_rfl) (by kernel_rfl) (fun _ _ _ h => h) (Or.inl ⟨by rfl, ?hyb6⟩) (by assumption) ?_
  case hyb6 => (intro w hSw; (try dsimp only at hSw); go_simp; try (with_reducible rfl))
  simp only [Act.put, List.getElem_toArray, List.getElem_cons_succ, List.getElem_cons_zero, List.setIfInBounds_toArray, List.set_cons_zero, List.set_cons_succ]
  refine wpAnyH_take (i := 7) (v := ?_) rfl (by kernel_rfl) (by kernel_rfl) (by kernel_rfl) (fun _ _ _ h => h) (Or.inl ⟨by rfl, ?hyb7⟩) (by assumption) ?_
  case hyb7 => (intro w hSw; (try dsimp only at hSw); go_simp; try (with_reducible rfl))
  simp only [Act.put, List.getElem_toArray, List.getElem_cons_succ, List.getElem_cons_zero, List.setIfInBounds_toArray, List.set_cons_zero, List.set_cons_succ]
  refine wpAnyH_take (i := 8) (v := ?_) rfl (by kernel_rfl) (by kernel_rfl) (by kernel_rfl) (fun _ _ _ h => h) (Or.inl ⟨by rfl, ?hyb8⟩) (by assumption) ?_
  case hyb8 => (intro w hSw; (try dsimp only at hSw); go_simp; try (with_reducible rfl))
  simp only [Act.put, List.getElem_toArray, List.getElem_cons_succ, List.getElem_cons_zero, List.setIfInBounds_toArray, List.set_cons_zero, List.set_cons_succ]
  refine wpAnyH_take (i := 9) (v := ?_) rfl (by kernel_rfl) (by kernel_rfl) (by kernel_rfl) (fun _ _ _ h => h) (Or.inl ⟨by rfl, ?hyb9⟩) (by assumption) ?_
  case hyb9 => (intro w hSw; (try dsimp only at hSw); go_simp; try (with_reducible rfl))
  simp only [Act.put, List.getElem_toArray, List.getElem_cons_succ, List.getElem_cons_zero, List.setIfInBounds_toArray, List.set_cons_zero, List.set_cons_succ]
  refine wpAnyH_take (i := 10) (v := ?_) rfl (by kernel_rfl) (by kernel_rfl) (by kernel_rfl) (fun _ _ _ h => h) (Or.inl ⟨by rfl, ?hyb10⟩) (by assumption) ?_
  case hyb10 => (intro w hSw; (try dsimp only at hSw); go_simp; try (with_reducible rfl))
  simp only [Act.put, List.getElem_toArray, List.getElem_cons_succ, List.getElem_cons_zero, List.setIfInBounds_toArray, List.set_cons_zero, List.set_cons_succ]
  refine wpAnyH_take (i := 11) (v := ?_) rfl (by kernel_rfl) (by kernel_rfl) (by kernel_rfl) (fun _ _ _ h => h) (Or.inl ⟨by rfl, ?hyb11⟩) (by assumption) ?_
  case hyb11 => (intro w hSw; (try dsimp only at hSw); go_simp; try (with_reducible rfl))
  simp only [Act.put, List.getElem_toArray, List.getElem_cons_succ, List.getElem_cons_zero, List.setIfInBounds_toArray, List.set_cons_zero, List.set_cons_succ]
  refine wpAnyH_take (i := 12) (v := ?_) rfl (by kernel_rfl) (by kernel_rfl) (by kernel_rfl) (fun _ _ _ h => h) (Or.inl ⟨by rfl, ?hyb12⟩) (by assumption) ?_
  case hyb12 => (intro w hSw; (try dsimp only at hSw); go_simp; try (with_reducible rfl))
  simp only [Act.put, List.getElem_toArray, List.getElem_cons_succ, List.getElem_cons_zero, List.setIfInBounds_toArray, List.set_cons_zero, List.set_cons_succ]
  refine wpAnyH_take (i := 13) (v := ?_) rfl (by kernel_rfl) (by kernel_rfl) (by kernel_rfl) (fun _ _ _ h => h) (Or.inl ⟨by rfl, ?hyb13⟩) (by assumption) ?_
  case hyb13 => (intro w hSw; (try dsimp only at hSw); go_simp; try (with_reducible rfl))
  simp only [Act.put, List.getElem_toArray, List.getElem_cons_succ, List.getElem_cons_zero, List.setIfInBounds_toArray, List.set_cons_zero, List.set_cons_succ]
  refine wpAnyH_take (i := 14) (v := ?_) rfl (by kernel_rfl) (by kernel_rfl) (by kernel_rfl) (fun _ _ _ h => h) (Or.inl ⟨by rfl, ?hyb14⟩) (by assumption) ?_
  case hyb14 => (intro w hSw; (try dsimp only at hSw); go_simp; try (with_reducible rfl))
  simp only [Act.put, List.getElem_toArray, List.getElem_cons_succ, List.getElem_cons_zero, List.setIfInBounds_toArray, List.set_cons_zero, List.set_cons_succ]
  refine wpAnyH_take (i := 15) (v := ?_) rfl (by kernel_rfl) (by kernel_rfl) (by kernel_rfl) (fun _ _ _ h => h) (Or.inl ⟨by rfl, ?hyb15⟩) (by assumption) ?_
  case hyb15 => (intro w hSw; (try dsimp only at hSw); go_simp; try (with_reducible rfl))
  simp only [Act.put, List.getElem_toArray, List.getElem_cons_succ, List.getElem_cons_zero, List.setIfInBounds_toArray, List.set_cons_zero, List.set_cons_succ]
  refine wpAnyH_take (i := 16) (v := ?_) rfl (by kernel_rfl) (by kernel_rfl) (by kernel_rfl) (fun _ _ _ h => h) (Or.inl ⟨by rfl, ?hyb16⟩) (by assumption) ?_
  case hyb16 => (intro w hSw; (try dsimp only at hSw); go_simp; try (with_reducible rfl))
  simp only [Act.put, List.getElem_toArray, List.getElem_cons_succ, List.getElem_cons_zero, List.setIfInBounds_toArray, List.set_cons_zero, List.set_cons_succ]
  refine wpAnyH_take (i := 17) (v := ?_) rfl (by kernel_rfl) (by kernel_rfl) (by kernel_rfl) (fun _ _ _ h => h) (Or.inl ⟨by rfl, ?hyb17⟩) (by assumption) ?_
  case hyb17 => (intro w hSw; (try dsimp only at hSw); go_simp; try (with_reducible rfl))
  simp only [Act.put, List.getElem_toArray, List.getElem_cons_succ, List.getElem_cons_zero, List.setIfInBounds_toArray, List.set_cons_zero, List.set_cons_succ]
  refine wpAnyH_take (i := 18) (v := ?_) rfl (by kernel_rfl) (by kernel_rfl) (by kernel_rfl) (fun _ _ _ h => h) (Or.inl ⟨by rfl, ?hyb18⟩) (by assumption) ?_
  case hyb18 => (intro w hSw; (try dsimp only at hSw); go_simp; try (with_reducible rfl))
  simp only [Act.put, List.getElem_toArray, List.getElem_cons_succ, List.getElem_cons_zero, List.setIfInBounds_toArray, List.set_cons_zero, List.set_cons_succ]
  refine wpAnyH_take (i := 19) (v := ?_) rfl (by kernel_rfl) (by kernel_rfl) (by kernel_rfl) (fun _ _ _ h => h) (Or.inl ⟨by rfl, ?hyb19⟩) (by assumption) ?_
  case hyb19 => (intro w hSw; (try dsimp only at hSw); go_simp; try (with_reducible rfl))
  simp only [Act.put, List.getElem_toArray, List.getElem_cons_succ, List.getElem_cons_zero, List.setIfInBounds_toArray, List.set_cons_zero, List.set_cons_succ]
  refine wpAnyH_take (i := 21) (v := ?_) rfl (by kernel_rfl) (by kernel_rfl) (by kernel_rfl) (fun _ _ _ h => h) (Or.inl ⟨by rfl, ?hyb21⟩) (by assumption) ?_
  case hyb21 => (intro w hSw; (try dsimp only at hSw); go_simp; try (with_reducible rfl))
  simp only [Act.put, List.getElem_toArray, List.getElem_cons_succ, List.getElem_cons_zero, List.setIfInBounds_toArray, List.set_cons_zero, List.set_cons_succ]
  refine wpAnyH_take (i := 22) (v := ?_) rfl (by kernel_rfl) (by kernel_rfl) (by kernel_rfl) (fun _ _ _ h => h) (Or.inl ⟨by rfl, ?hyb22⟩) (by assumption) ?_
  case hyb22 => (intro w hSw; (try dsimp only at hSw); go_simp; try (with_reducible rfl))
  simp only [Act.put, List.getElem_toArray, List.getElem_cons_succ, List.getElem_cons_zero, List.setIfInBounds_toArray, List.set_cons_zero, List.set_cons_succ]
  refine wpAnyH_ready (rs := [20]) (by kernel_rfl) (by simp) ?_
  refine AllReadyH.cons rfl (fun K hK9 => ?_) AllReadyH.nil
  go_simp
  go_wp2_with fail
  refine (HP.out _).mono ?_
  rintro e u3 ⟨rfl, q3⟩
  have e3 := HS.out _ (e2.1.trans q3)
  refine hK9.out _ _ e3 (fun hHeld3 => ?_)
  clear hK9 K
  refine wpAnyH_ready (rs := [23]) (by kernel_rfl) (by simp) ?_
  refine AllReadyH.cons rfl (fun K hK9 => ?_) AllReadyH.nil
  go_simp
  go_wp2_with fail
  refine (HQ.out _).mono ?_
  rintro e u4 ⟨rfl, q4⟩
  have e4 := HS.out _ (e3.1.trans q4)
  refine hK9.out _ _ e4 (fun hHeld4 => ?_)
  clear hK9 K
  refine wpAnyH_take (i := 24) (v := ?_) rfl (by kernel_rfl) (by kernel_rfl) (by kernel_rfl) (fun _ _ _ h => h) (Or.inl ⟨by rfl, ?hyc24⟩) (by assumption) ?_
  case hyc24 => (intro w hSw; (try dsimp only at hSw); go_simp; try (with_reducible rfl))
  simp only [Act.put, List.getElem_toArray, List.getElem_cons_succ, List.getElem_cons_zero, List.setIfInBounds_toArray, List.set_cons_zero, List.set_cons_succ]
  refine wpAnyH_take (i := 25) (v := ?_) rfl (by kernel_rfl) (by kernel_rfl) (by kernel_rfl) (fun _ _ _ h => h) (Or.inl ⟨by rfl, ?hyc25⟩) (by assumption) ?_
  case hyc25 => (intro w hSw; (try dsimp only at hSw); go_simp; try (with_reducible rfl))
  simp only [Act.put, List.getElem_toArray, List.getElem_cons_succ, List.getElem_cons_zero, List.setIfInBounds_toArray, List.set_cons_zero, List.set_cons_succ]
  refine wpAnyH_take (i := 26) (v := ?_) rfl (by kernel_rfl) (by kernel_rfl) (by kernel_rfl) (fun _ _ _ h => h) (Or.inl ⟨by rfl, ?hyc26⟩) (by assumption) ?_
  case hyc26 => (intro w hSw; (try dsimp only at hSw); go_simp; try (with_reducible rfl))
  simp only [Act.put, List.getElem_toArray, List.getElem_cons_succ, List.getElem_cons_zero, List.setIfInBounds_toArray, List.set_cons_zero, List.set_cons_succ]
  refine wpAnyH_done (by kernel_rfl) ?_ _
  go_wp2
  go_ret
  exact ⟨rfl, k2.trans e4.1⟩

end Go.Proofs.Ytakdnodgcdddeaa
