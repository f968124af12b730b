/- Package span: two ends outward; crossed. -/
import Derived.Test.YtalhnaakbekboaaDoorW33
namespace Go.Proofs.YtalhnaakbekboaaDoor
open Go.ChangeShapes Go.WideShapes Go.ChangeAt Go.RowKit Ieee
set_option linter.unusedVariables false
set_option linter.unusedSimpArgs false

set_option maxHeartbeats 2000000 in
set_option maxRecDepth 100000 in
theorem outward_any (op : Nat) (hcall : ∀ a b c d w, (callFunc op #[a, b, c, d]).run Tryd.prog w = .ok (.enter op #[a, b, c, d]) w) (n : Int) (x y z1 z2 : Nat) (w : World) (P Q : Nat) (hP : w.cell? ⟨P, 0, none⟩ = some (.func (.func op) #[] #[])) (hQ : w.cell? ⟨Q, 0, none⟩ = some (.int .i64 n)) (lP : P < w.heap.size) (lQ : Q < w.heap.size)
    (KO : Hid (∀ u way z, Kept w u → (way = 1 ∧ z = z1 ∨ way = 2 ∧ z = z2) → Calls Tryd.prog op #[.float .f64 x, .float .f64 y, .int .i64 n, .int .i64 way] u fun e w' => e = .returned (.float .f64 z) ∧ Kept u w')) :
    Calls Tryd.prog 64 #[.float .f64 x, .float .f64 y, .pointer (some ⟨P, 0, none⟩), .pointer (some ⟨Q, 0, none⟩)] w fun e w' => e = .returned (fv2 z1 z2) ∧ Kept w w' := by
  have hSF := sto_f
  obtain ⟨X, hX⟩ : ∃ X, X = w.alloc (.cells #[.float .f64 0, .float .f64 0] 55) := ⟨_, rfl⟩
  have hR : P2 X w.heap.size (.float .f64 0) (.float .f64 0) := by rw [hX]; exact P2.new _ _ _ _
  have hK : Kept w X := by rw [hX]; exact (Kept.refl w).alloc _ _
  obtain ⟨H, hH⟩ : ∃ H, H = w.heap.size := ⟨_, rfl⟩
  rw [← hH] at hR
  have oH : w.heap.size ≤ H := by omega
  have nP : H ≠ P := by omega
  have nQ : H ≠ Q := by omega
  have HS : Hid (∀ u, Kept w u → u.cell? ⟨P, 0, none⟩ = some (.func (.func op) #[] #[]) ∧ u.cell? ⟨Q, 0, none⟩ = some (.int .i64 n)) := fun u k => ⟨(k.below.cell (p := ⟨P, 0, none⟩) lP).trans hP, (k.below.cell (p := ⟨Q, 0, none⟩) lQ).trans hQ⟩
  clear hP hQ
  go_enter Tryd.func64, Tryd.ntmps64
  go_upto_region 1 with fail
  rw [← hX, ← hH]
  clear hX hH
  have kd : Kept X X.drew := (Kept.refl X).drew
  have e0 := HS.out _ (hK.trans kd)
  refine wp_region_held_drew (S := fun u => u.cell? ⟨P, 0, none⟩ = some (.func (.func op) #[] #[]) ∧ u.cell? ⟨Q, 0, none⟩ = some (.int .i64 n)) (by kernel_rfl) (e0) (fun hHeld => ?_)
  refine wpAnyH_take (i := 0) (v := ?_) rfl (by kernel_rfl) (by kernel_rfl) (by kernel_rfl) (fun _ _ _ h => h) (Or.inl ⟨by rfl, ?hya0⟩) (by assumption) ?_
  case hya0 => (intro w hSw; (try dsimp only at hSw); go_simp; try (with_reducible rfl))
  simp only [Act.put, List.getElem_toArray, List.getElem_cons_succ, List.getElem_cons_zero, List.setIfInBounds_toArray, List.set_cons_zero, List.set_cons_succ]
  refine wpAnyH_take (i := 1) (v := ?_) rfl (by kernel_rfl) (by kernel_rfl) (by kernel_rfl) (fun _ _ _ h => h) (Or.inl ⟨by rfl, ?hya1⟩) (by assumption) ?_
  case hya1 => (intro w hSw; (try dsimp only at hSw); go_simp; try (with_reducible rfl))
  simp only [Act.put, List.getElem_toArray, List.getElem_cons_succ, List.getElem_cons_zero, List.setIfInBounds_toArray, List.set_cons_zero, List.set_cons_succ]
  refine wpAnyH_take (i := 2) (v := ?_) rfl (by kernel_rfl) (by kernel_rfl) (by kernel_rfl) (fun _ _ _ h => h) (Or.inl ⟨by rfl, ?hya2⟩) (by assumption) ?_
  case hya2 => (intro w hSw; (try dsimp only at hSw); go_simp; try (with_reducible rfl))
  simp only [Act.put, List.getElem_toArray, List.getElem_cons_succ, List.getElem_cons_zero, List.setIfInBounds_toArray, List.set_cons_zero, List.set_cons_succ]
  refine wpAnyH_take (i := 3) (v := ?_) rfl (by kernel_rfl) (by kernel_rfl) (by kernel_rfl) (fun _ _ _ h => h) (Or.inl ⟨by rfl, ?hya3⟩) (by assumption) ?_
  case hya3 => (intro w hSw; (try dsimp only at hSw); go_simp; try (with_reducible rfl))
  simp only [Act.put, List.getElem_toArray, List.getElem_cons_succ, List.getElem_cons_zero, List.setIfInBounds_toArray, List.set_cons_zero, List.set_cons_succ]
  refine wpAnyH_take (i := 5) (v := ?_) rfl (by kernel_rfl) (by kernel_rfl) (by kernel_rfl) (fun _ _ _ h => h) (Or.inl ⟨by rfl, ?hya5⟩) (by assumption) ?_
  case hya5 => (intro w hSw; (try dsimp only at hSw); go_simp; try (with_reducible rfl))
  simp only [Act.put, List.getElem_toArray, List.getElem_cons_succ, List.getElem_cons_zero, List.setIfInBounds_toArray, List.set_cons_zero, List.set_cons_succ]
  refine wpAnyH_take (i := 6) (v := ?_) rfl (by kernel_rfl) (by kernel_rfl) (by kernel_rfl) (fun _ _ _ h => h) (Or.inl ⟨by rfl, ?hya6⟩) (by assumption) ?_
  case hya6 => (intro w hSw; (try dsimp only at hSw); go_simp; try (with_reducible rfl))
  simp only [Act.put, List.getElem_toArray, List.getElem_cons_succ, List.getElem_cons_zero, List.setIfInBounds_toArray, List.set_cons_zero, List.set_cons_succ]
  refine wpAnyH_take (i := 7) (v := ?_) rfl (by kernel_rfl) (by kernel_rfl) (by kernel_rfl) (fun _ _ _ h => h) (Or.inl ⟨by rfl, ?hya7⟩) (by assumption) ?_
  case hya7 => (intro w hSw; (try dsimp only at hSw); go_simp; try (with_reducible rfl))
  simp only [Act.put, List.getElem_toArray, List.getElem_cons_succ, List.getElem_cons_zero, List.setIfInBounds_toArray, List.set_cons_zero, List.set_cons_succ]
  refine wpAnyH_take (i := 8) (v := ?_) rfl (by kernel_rfl) (by kernel_rfl) (by kernel_rfl) (fun _ _ _ h => h) (Or.inl ⟨by rfl, ?hya8⟩) (by assumption) ?_
  case hya8 => (intro w hSw; (try dsimp only at hSw); go_simp; try (with_reducible rfl))
  simp only [Act.put, List.getElem_toArray, List.getElem_cons_succ, List.getElem_cons_zero, List.setIfInBounds_toArray, List.set_cons_zero, List.set_cons_succ]
  refine wpAnyH_ready (rs := [4]) (by kernel_rfl) (by simp) ?_
  refine AllReadyH.cons rfl (fun K hK9 => ?_) AllReadyH.nil
  go_simp
  go_wp2_with fail
  refine (KO.out _ _ _ (hK.trans kd) (.inl ⟨rfl, rfl⟩)).mono ?_
  rintro e u1 ⟨rfl, k1⟩
  have j1 := kd.trans k1
  have e1 := HS.out _ (hK.trans j1)
  refine hK9.out _ _ e1 (fun hHeld1 => ?_)
  clear hK9 K
  refine wpAnyH_ready (rs := [9]) (by kernel_rfl) (by simp) ?_
  refine AllReadyH.cons rfl (fun K hK9 => ?_) AllReadyH.nil
  go_simp
  go_wp2_with fail
  refine (KO.out _ _ _ (hK.trans j1) (.inr ⟨rfl, rfl⟩)).mono ?_
  rintro e u2 ⟨rfl, k2⟩
  have j2 := j1.trans k2
  have e2 := HS.out _ (hK.trans j2)
  refine hK9.out _ _ e2 (fun hHeld2 => ?_)
  clear hK9 K
  refine wpAnyH_take (i := 10) (v := ?_) rfl (by kernel_rfl) (by kernel_rfl) (by kernel_rfl) (fun _ _ _ h => h) (Or.inl ⟨by rfl, ?hyb10⟩) (by assumption) ?_
  case hyb10 => (intro w hSw; (try dsimp only at hSw); go_simp; try (with_reducible rfl))
  simp only [Act.put, List.getElem_toArray, List.getElem_cons_succ, List.getElem_cons_zero, List.setIfInBounds_toArray, List.set_cons_zero, List.set_cons_succ]
  obtain ⟨c0, c1, cf⟩ := hR.kept j2
  refine wpAnyH_ready (rs := [11]) (by kernel_rfl) (by simp) ?_
  refine AllReadyH.cons rfl (fun K hK9 => ?_) AllReadyH.nil
  go_simp
  have e3 := HS.out _ (((hK.trans j2).setCell (p := ⟨H, 0, none⟩) oH (.float .f64 z1)).setCell (p := ⟨H, 1, none⟩) oH (.float .f64 z2))
  refine hK9.out _ _ e3 (fun hHeld3 => ?_)
  clear hK9 K
  refine wpAnyH_done (by kernel_rfl) ?_ _
  go_wp2_with fail
  have hz := (P2.mk c0 c1 cf).put (.float .f64 z1) (.float .f64 z2)
  obtain ⟨d0, d1, df⟩ := hz
  exact bodyPost_ret (v := fv2 z1 z2) (by simp [results, Tryd.results64, go_sem, d0, d1]) rfl ⟨rfl, ((hK.trans j2).setCell oH _).setCell oH _⟩
end Go.Proofs.YtalhnaakbekboaaDoor
