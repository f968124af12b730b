/- Package optim: learn by the plain rule. -/
import Derived.Test.YtojhhimmfnccjaaO7
import Derived.Test.YtojhhimmfnccjaaOS
namespace Go.Proofs.Ytojhhimmfnccjaa
open Go.ChangeShapes Go.WideShapes Go.ChangeAt Go.RowKit Ieee
set_option linter.unusedVariables false
set_option linter.unusedSimpArgs false

set_option maxHeartbeats 8000000 in
set_option maxRecDepth 100000 in
theorem learn_64 (rb n : Int) (R C l : Nat) (bw ow k bg og k' : Nat) (Lw Lg : List Int) (hLw : Lw.length = l) (hLg : Lg.length = l) (hl1 : 1 ≤ l) (hl : l ≤ 4096) (fr : Nat) (p q : Nat → Nat) (w : World)
    (rw_ : Reads w bw ow Lw) (rg_ : Reads w bg og Lg) (bwl : bw < w.heap.size) (bgl : bg < w.heap.size)
    (KN : Hid (∀ u, Calls Try.prog 25 #[.agg #[.int .i64 (R : Int), .int .i64 (C : Int), .int .i64 n, .slice (some ⟨bw, ow, none⟩) l k]] u fun e w' => ∃ g, e = .returned (.agg #[.int .i64 (R : Int), .int .i64 (C : Int), .int .i64 n, .slice (some ⟨g, 0, none⟩) l l]) ∧ u.heap.size ≤ g ∧ Own w' g l (List.replicate l 0) ∧ Kept u w'))
    (KP : Hid (∀ u, Calls Try.prog 34 #[.agg (svL rb (R : Int) (C : Int) n l (some ⟨bw, ow, none⟩) k (some ⟨bg, og, none⟩) k').toArray, .func (.func 15) #[] #[]] u fun e w' => e = .returned (.agg #[.float .f64 fr, .float .f64 0, .float .f64 0, .float .f64 0, .float .f64 0, .float .f64 0, .float .f64 0, .float .f64 0]) ∧ Kept u w'))
    (hp : ∀ i, i < l → FloatKind.f64.format.mul fr (pat64 (Lg.getD i 0)) = some (p i)) (hq : ∀ i, i < l → FloatKind.f64.format.sub (pat64 (Lw.getD i 0)) (p i) = some (q i))
    (KA : Hid (∀ i fg u, i < l → Calls Try.prog 37 #[.agg #[.float .f64 (q i), .float .f64 fg, .float .f64 0, .float .f64 0]] u fun e w' => e = .returned (.int .i64 0) ∧ Kept u w')) :
    Calls Try.prog 14 #[.agg (svL rb (R : Int) (C : Int) n l (some ⟨bw, ow, none⟩) k (some ⟨bg, og, none⟩) k').toArray, .func (.func 15) #[] #[], .func (.func 10) #[] #[]] w fun e w' => ∃ g, e = .returned (.tuple #[.agg #[.int .i64 (R : Int), .int .i64 (C : Int), .int .i64 n, .slice (some ⟨g, 0, none⟩) l l], .slice none 0 0, .int .i64 0, .int .i64 0]) ∧ w.heap.size ≤ g ∧ Own w' g l (stl l (fun i => of64 (q i)) l) ∧ Kept w w' := by
  have KR : Hid (∀ u, Calls Try.prog 35 #[.int .i64 0] u fun e w' => e = .returned (.func (.func 58) #[] #[]) ∧ Kept u w') := fun u => rule_64 u
  have KE : Hid (∀ u, Calls Try.prog 26 #[.int .i64 0, .agg #[.int .i64 (R : Int), .int .i64 (C : Int), .int .i64 n, .slice (some ⟨bw, ow, none⟩) l k]] u fun e w' => e = .returned (.slice none 0 0) ∧ Kept u w') := fun u => fresh_0 _ _ _ _ _ _ u
  have KC : Hid (∀ s k u, Calls Try.prog 27 #[.agg #[.int .i64 (R : Int), .int .i64 (C : Int), .int .i64 n, .slice s l k], .slice none 0 0] u fun e w' => ∃ g1 g2, e = .returned (.agg #[.slice s l k, .slice (some ⟨g1, 0, none⟩) l l, .slice (some ⟨g2, 0, none⟩) l l]) ∧ g1 ≠ g2 ∧ u.heap.size ≤ g1 ∧ u.heap.size ≤ g2 ∧ Own w' g1 l (List.replicate l 0) ∧ Own w' g2 l (List.replicate l 0) ∧ Kept u w') := fun s k u => columnsOf_0 _ _ n s l k hl u
  obtain ⟨X, hX⟩ : ∃ X, X = (w.alloc (.cells (svL rb (R : Int) (C : Int) n l (some ⟨bw, ow, none⟩) k (some ⟨bg, og, none⟩) k').toArray 43)).alloc (.cells #[.int .i64 0, .int .i64 0, .int .i64 0, .slice none 0 0] 25) := ⟨_, rfl⟩
  obtain ⟨B3, hB3⟩ : ∃ B, B = w.heap.size := ⟨_, rfl⟩
  obtain ⟨B6, hB6⟩ : ∃ B, B = B3 + 1 := ⟨_, rfl⟩
  have hK : Kept w X := by rw [hX]; exact ((Kept.refl w).alloc _ _).alloc _ _
  have b3 : Bk X B3 (svL rb (R : Int) (C : Int) n l (some ⟨bw, ow, none⟩) k (some ⟨bg, og, none⟩) k') := by rw [hX, hB3]; exact (Bk.new w (svL rb (R : Int) (C : Int) n l (some ⟨bw, ow, none⟩) k (some ⟨bg, og, none⟩) k') _).alloc _ _
  have b6 : Bk X B6 [.int .i64 0, .int .i64 0, .int .i64 0, .slice none 0 0] := by
    rw [hX, hB6, hB3]
    have := Bk.new (w.alloc (.cells (svL rb (R : Int) (C : Int) n l (some ⟨bw, ow, none⟩) k (some ⟨bg, og, none⟩) k').toArray 43)) [.int .i64 0, .int .i64 0, .int .i64 0, .slice none 0 0] 25
    simpa using this
  have o6 : Hid (w.heap.size ≤ B6) := (show w.heap.size ≤ B6 by omega)
  have HP := hid hp
  have HQ := hid hq
  have HRW : Hid (∀ u, Kept w u → ∀ i, i < l → u.cell? ⟨bw, ow + i, none⟩ = some (.int .i64 (Lw.getD i 0))) := fun u kk i hi => (kk.below.cell (p := ⟨bw, ow + i, none⟩) bwl).trans (rw_ i (by omega))
  have HRG : Hid (∀ u, Kept w u → ∀ i, i < l → u.cell? ⟨bg, og + i, none⟩ = some (.int .i64 (Lg.getD i 0))) := fun u kk i hi => (kk.below.cell (p := ⟨bg, og + i, none⟩) bgl).trans (rg_ i (by omega))
  clear hp hq rw_ rg_ bwl bgl hLw hLg
  go_enter Try.func14, Try.ntmps14
  go_upto_region 1 with fail
  rw [← hX, ← hB3, ← hB6]
  clear hX hB3 hB6
  have HS : Hid (∀ u, Kept X u → Kept X u ∧ u.cell? ⟨B3, 0, none⟩ = some (.int .i64 0) ∧ u.cell? ⟨B3, 8, none⟩ = some (.int .i64 (R : Int)) ∧ u.cell? ⟨B3, 9, none⟩ = some (.int .i64 (C : Int)) ∧ u.cell? ⟨B3, 10, none⟩ = some (.int .i64 n) ∧ u.cell? ⟨B3, 11, none⟩ = some (.slice (some ⟨bw, ow, none⟩) l k)) := fun u q => ⟨q, (b3.kept q).c 0 _ rfl, (b3.kept q).c 8 _ rfl, (b3.kept q).c 9 _ rfl, (b3.kept q).c 10 _ rfl, (b3.kept q).c 11 _ rfl⟩
  refine wp_region_late [] (fun u => Kept X u ∧ u.cell? ⟨B3, 0, none⟩ = some (.int .i64 0) ∧ u.cell? ⟨B3, 8, none⟩ = some (.int .i64 (R : Int)) ∧ u.cell? ⟨B3, 9, none⟩ = some (.int .i64 (C : Int)) ∧ u.cell? ⟨B3, 10, none⟩ = some (.int .i64 n) ∧ u.cell? ⟨B3, 11, none⟩ = some (.slice (some ⟨bw, ow, none⟩) l k)) (by kernel_rfl) (HS.out _ (Kept.refl X).drew) (fun hHeld => ?_)
  refine wpAnyD_take (i := 0) (v := ?_) rfl (by kernel_rfl) (by kernel_rfl) (by kernel_rfl) (by kernel_rfl) (fun _ _ _ h => h) (Or.inl ⟨by rfl, ?hya0⟩) hHeld ?_
  case hya0 => (intro w hSw; (try dsimp only at hSw); go_simp; try (with_reducible rfl))
  (try simp only [Act.put, List.getElem_toArray, List.getElem_cons_succ, List.getElem_cons_zero, List.setIfInBounds_toArray, List.set_cons_zero, List.set_cons_succ])
  refine wpAnyD_take (i := 1) (v := ?_) rfl (by kernel_rfl) (by kernel_rfl) (by kernel_rfl) (by kernel_rfl) (fun _ _ _ h => h) (Or.inl ⟨by rfl, ?hya1⟩) hHeld ?_
  case hya1 => (intro w hSw; (try dsimp only at hSw); go_simp; try (with_reducible rfl))
  (try simp only [Act.put, List.getElem_toArray, List.getElem_cons_succ, List.getElem_cons_zero, List.setIfInBounds_toArray, List.set_cons_zero, List.set_cons_succ])
  refine wpAnyD_take (i := 3) (v := ?_) rfl (by kernel_rfl) (by kernel_rfl) (by kernel_rfl) (by kernel_rfl) (fun _ _ _ h => h) (Or.inl ⟨by rfl, ?hya3⟩) hHeld ?_
  case hya3 => (intro w hSw; (try dsimp only at hSw); go_simp; try (with_reducible rfl))
  (try simp only [Act.put, List.getElem_toArray, List.getElem_cons_succ, List.getElem_cons_zero, List.setIfInBounds_toArray, List.set_cons_zero, List.set_cons_succ])
  refine wpAnyD_take (i := 4) (v := ?_) rfl (by kernel_rfl) (by kernel_rfl) (by kernel_rfl) (by kernel_rfl) (fun _ _ _ h => h) (Or.inl ⟨by rfl, ?hya4⟩) hHeld ?_
  case hya4 => (intro w hSw; (try dsimp only at hSw); go_simp; try (with_reducible rfl))
  (try simp only [Act.put, List.getElem_toArray, List.getElem_cons_succ, List.getElem_cons_zero, List.setIfInBounds_toArray, List.set_cons_zero, List.set_cons_succ])
  refine wpAnyD_take (i := 5) (v := ?_) rfl (by kernel_rfl) (by kernel_rfl) (by kernel_rfl) (by kernel_rfl) (fun _ _ _ h => h) (Or.inl ⟨by rfl, ?hya5⟩) hHeld ?_
  case hya5 => (intro w hSw; (try dsimp only at hSw); go_simp; try (with_reducible rfl))
  (try simp only [Act.put, List.getElem_toArray, List.getElem_cons_succ, List.getElem_cons_zero, List.setIfInBounds_toArray, List.set_cons_zero, List.set_cons_succ])
  refine wpAnyD_take (i := 6) (v := ?_) rfl (by kernel_rfl) (by kernel_rfl) (by kernel_rfl) (by kernel_rfl) (fun _ _ _ h => h) (Or.inl ⟨by rfl, ?hya6⟩) hHeld ?_
  case hya6 => (intro w hSw; (try dsimp only at hSw); go_simp; try (with_reducible rfl))
  (try simp only [Act.put, List.getElem_toArray, List.getElem_cons_succ, List.getElem_cons_zero, List.setIfInBounds_toArray, List.set_cons_zero, List.set_cons_succ])
  refine wpAnyD_take (i := 7) (v := ?_) rfl (by kernel_rfl) (by kernel_rfl) (by kernel_rfl) (by kernel_rfl) (fun _ _ _ h => h) (Or.inl ⟨by rfl, ?hya7⟩) hHeld ?_
  case hya7 => (intro w hSw; (try dsimp only at hSw); go_simp; try (with_reducible rfl))
  (try simp only [Act.put, List.getElem_toArray, List.getElem_cons_succ, List.getElem_cons_zero, List.setIfInBounds_toArray, List.set_cons_zero, List.set_cons_succ])
  refine F1_in (i1 := 9) (d1 := 10) (I := JB X [.int .i64 0, .int .i64 0, .int .i64 0, .slice none 0 0] (fun _ => True)) (JB.start hHeld.1 trivial) ?_
  refine F1_step (c := 2) (I' := fun v x u => ∃ g, v = .agg #[.int .i64 (R : Int), .int .i64 (C : Int), .int .i64 n, .slice (some ⟨g, 0, none⟩) l l] ∧ JB X [.int .i64 0, .int .i64 0, .int .i64 0, .slice none 0 0] (fun u => Own u g l (List.replicate l 0) ∧ X.heap.size ≤ g) x u) rfl (by kernel_rfl) rfl rfl (jb_flt alw_m (fun _ _ _ h => h) (fun u k => HS.out u k) rfl ⟨rfl, rfl, rfl⟩) (fun v x w h => by obtain ⟨g, -, h⟩ := h; exact HS.out w h.k) (fun xF uF hJ K hK9 => ?_) (fun v2 => ?_)
  · rcases xF with _ | xF
    all_goals (
      (try simp only [fpt, Act.put, List.getElem_toArray, List.getElem_cons_succ, List.getElem_cons_zero, List.setIfInBounds_toArray, List.set_cons_zero, List.set_cons_succ])
      go_simp
      go_wp2_with fail
      refine (KN.out _).mono ?_
      rintro e u1 ⟨g, rfl, hg, ho, k1⟩
      exact hK9.out _ _ _ (by first | rfl | (simp only [fpt, Act.put, List.getElem_toArray, List.getElem_cons_succ, List.getElem_cons_zero, List.setIfInBounds_toArray, List.set_cons_zero, List.set_cons_succ])) (⟨g, rfl, hJ.next k1 ⟨ho, Nat.le_trans hJ.k.below.size hg⟩⟩)
    )
  refine F1_ex (fun gw => ?_)
  refine fun xG wG hG => ?_
  obtain ⟨rfl, hG⟩ := hG
  revert xG wG
  show F1 _ _ _ _ _ _ _ _ _ _ _ (JB X [.int .i64 0, .int .i64 0, .int .i64 0, .slice none 0 0] (fun u => Own u gw l (List.replicate l 0) ∧ X.heap.size ≤ gw))
  (try simp only [Act.put, List.getElem_toArray, List.getElem_cons_succ, List.getElem_cons_zero, List.setIfInBounds_toArray, List.set_cons_zero, List.set_cons_succ])
  refine F1_step (c := 8) (I' := fun v x u => v = .slice none 0 0 ∧ JB X [.int .i64 0, .int .i64 0, .int .i64 0, .slice none 0 0] (fun u => Own u gw l (List.replicate l 0) ∧ X.heap.size ≤ gw) x u) rfl (by kernel_rfl) rfl rfl (jb_flt alw_m (fun _ _ k h => ⟨h.1.kept k, h.2⟩) (fun u k => HS.out u k) rfl ⟨rfl, rfl, rfl⟩) (fun v x w h => HS.out w h.2.k) (fun xF uF hJ K hK9 => ?_) (fun v2 => ?_)
  · rcases xF with _ | xF
    all_goals (
      (try simp only [fpt, Act.put, List.getElem_toArray, List.getElem_cons_succ, List.getElem_cons_zero, List.setIfInBounds_toArray, List.set_cons_zero, List.set_cons_succ])
      go_simp
      go_wp2_with fail
      refine (KE.out _).mono ?_
      rintro e u1 ⟨rfl, k1⟩
      exact hK9.out _ _ _ (by first | rfl | (simp only [fpt, Act.put, List.getElem_toArray, List.getElem_cons_succ, List.getElem_cons_zero, List.setIfInBounds_toArray, List.set_cons_zero, List.set_cons_succ])) (⟨rfl, hJ.next k1 ⟨hJ.v.1.kept k1, hJ.v.2⟩⟩)
    )
  refine fun xG wG hG => ?_
  obtain ⟨rfl, hG⟩ := hG
  revert xG wG
  show F1 _ _ _ _ _ _ _ _ _ _ _ (JB X [.int .i64 0, .int .i64 0, .int .i64 0, .slice none 0 0] (fun u => Own u gw l (List.replicate l 0) ∧ X.heap.size ≤ gw))
  (try simp only [Act.put, List.getElem_toArray, List.getElem_cons_succ, List.getElem_cons_zero, List.setIfInBounds_toArray, List.set_cons_zero, List.set_cons_succ])
  refine F1_end (.inr (by kernel_rfl)) (jb_flt alw_m (fun _ _ k h => ⟨h.1.kept k, h.2⟩) (fun u k => HS.out u k) rfl ⟨rfl, rfl, rfl⟩) (fun xF uF hJ => ?_)
  obtain ⟨B10, rfl, ob, bb⟩ := hJ.n _ rfl
  have kU := hJ.k
  obtain ⟨hO, hgw⟩ := hJ.v
  clear hJ
  (try simp only [Act.put, List.getElem_toArray, List.getElem_cons_succ, List.getElem_cons_zero, List.setIfInBounds_toArray, List.set_cons_zero, List.set_cons_succ])
  have nX : gw ≠ B10 := own_ne hO (by simp) bb (i := 3) rfl (fun z h => by cases h)
  have e0 := bb.c 0 _ rfl
  have e1 := bb.c 1 _ rfl
  have e2 := bb.c 2 _ rfl
  have e3 := bb.c 3 _ rfl
  have ef := bb.fz
  obtain ⟨Y, hY⟩ : ∃ Y, Y = ((((uF.setCell ⟨B10, 0, none⟩ (.int .i64 (R : Int))).setCell ⟨B10, 1, none⟩ (.int .i64 (C : Int))).setCell ⟨B10, 2, none⟩ (.int .i64 n)).setCell ⟨B10, 3, none⟩ (.slice (some ⟨gw, 0, none⟩) l l)) := ⟨_, rfl⟩
  have kY : Kept X Y := by rw [hY]; exact ((((kU.setCell ob _).setCell ob _).setCell ob _).setCell ob _)
  have bY : Bk Y B10 [.int .i64 (R : Int), .int .i64 (C : Int), .int .i64 n, .slice (some ⟨gw, 0, none⟩) l l] := by rw [hY]; exact ((((bb.set 0 _).set 1 _).set 2 _).set 3 _)
  have oY : Own Y gw l (List.replicate l 0) := by rw [hY]; exact (((hO.setOther nX _).setOther nX _).setOther nX _).setOther nX _
  refine wpAnyD_step (i := 10) (by kernel_rfl) rfl (fun K hK9 => ?_)
  go_simp
  rw [← hY]
  refine hK9.out _ _ (HS.out _ kY) (fun hH2 => ?_)
  clear hK9 K
  (try simp only [Act.put, List.getElem_toArray, List.getElem_cons_succ, List.getElem_cons_zero, List.setIfInBounds_toArray, List.set_cons_zero, List.set_cons_succ])
  clear hY ef e0 e1 e2 e3
  refine wpAnyD_take (i := 11) (v := ?_) rfl (by kernel_rfl) (by kernel_rfl) (by kernel_rfl) (by kernel_rfl) (fun _ _ _ h => h) (Or.inl ⟨by rfl, ?hyb11⟩) hH2 ?_
  case hyb11 => (intro w hSw; (try dsimp only at hSw); go_simp; try (with_reducible rfl))
  (try simp only [Act.put, List.getElem_toArray, List.getElem_cons_succ, List.getElem_cons_zero, List.setIfInBounds_toArray, List.set_cons_zero, List.set_cons_succ])
  refine wpAnyD_done (by kernel_rfl) ?_ _
  (try simp only [Act.put, List.getElem_toArray, List.getElem_cons_succ, List.getElem_cons_zero, List.setIfInBounds_toArray, List.set_cons_zero, List.set_cons_succ])
  clear hHeld hH2 bb hO kU HS KN KE
  have nY : Hid (gw ≠ B10) := nX
  clear nX
  have b3Y := b3.kept kY
  go_upto_region 2 with fail
  have HS : Hid (∀ u, Kept Y u → Kept Y u ∧ u.cell? ⟨B3, 8, none⟩ = some (.int .i64 (R : Int)) ∧ u.cell? ⟨B3, 9, none⟩ = some (.int .i64 (C : Int)) ∧ u.cell? ⟨B3, 10, none⟩ = some (.int .i64 n) ∧ u.cell? ⟨B3, 11, none⟩ = some (.slice (some ⟨bw, ow, none⟩) l k) ∧ u.cell? ⟨B3, 16, none⟩ = some (.slice none 0 0) ∧ u.cell? ⟨B10, 0, none⟩ = some (.int .i64 (R : Int)) ∧ u.cell? ⟨B10, 1, none⟩ = some (.int .i64 (C : Int)) ∧ u.cell? ⟨B10, 2, none⟩ = some (.int .i64 n) ∧ u.cell? ⟨B10, 3, none⟩ = some (.slice (some ⟨gw, 0, none⟩) l l)) := fun u q => ⟨q, (b3Y.kept q).c 8 _ rfl, (b3Y.kept q).c 9 _ rfl, (b3Y.kept q).c 10 _ rfl, (b3Y.kept q).c 11 _ rfl, (b3Y.kept q).c 16 _ rfl, (bY.kept q).c 0 _ rfl, (bY.kept q).c 1 _ rfl, (bY.kept q).c 2 _ rfl, (bY.kept q).c 3 _ rfl⟩
  refine wp_region_late [] (fun u => Kept Y u ∧ u.cell? ⟨B3, 8, none⟩ = some (.int .i64 (R : Int)) ∧ u.cell? ⟨B3, 9, none⟩ = some (.int .i64 (C : Int)) ∧ u.cell? ⟨B3, 10, none⟩ = some (.int .i64 n) ∧ u.cell? ⟨B3, 11, none⟩ = some (.slice (some ⟨bw, ow, none⟩) l k) ∧ u.cell? ⟨B3, 16, none⟩ = some (.slice none 0 0) ∧ u.cell? ⟨B10, 0, none⟩ = some (.int .i64 (R : Int)) ∧ u.cell? ⟨B10, 1, none⟩ = some (.int .i64 (C : Int)) ∧ u.cell? ⟨B10, 2, none⟩ = some (.int .i64 n) ∧ u.cell? ⟨B10, 3, none⟩ = some (.slice (some ⟨gw, 0, none⟩) l l)) (by kernel_rfl) (HS.out _ (Kept.refl Y).drew) (fun hHeld => ?_)
  refine wpAnyD_take (i := 0) (v := ?_) rfl (by kernel_rfl) (by kernel_rfl) (by kernel_rfl) (by kernel_rfl) (fun _ _ _ h => h) (Or.inl ⟨by rfl, ?hyc0⟩) hHeld ?_
  case hyc0 => (intro w hSw; (try dsimp only at hSw); go_simp; try (with_reducible rfl))
  (try simp only [Act.put, List.getElem_toArray, List.getElem_cons_succ, List.getElem_cons_zero, List.setIfInBounds_toArray, List.set_cons_zero, List.set_cons_succ])
  refine wpAnyD_take (i := 1) (v := ?_) rfl (by kernel_rfl) (by kernel_rfl) (by kernel_rfl) (by kernel_rfl) (fun _ _ _ h => h) (Or.inl ⟨by rfl, ?hyc1⟩) hHeld ?_
  case hyc1 => (intro w hSw; (try dsimp only at hSw); go_simp; try (with_reducible rfl))
  (try simp only [Act.put, List.getElem_toArray, List.getElem_cons_succ, List.getElem_cons_zero, List.setIfInBounds_toArray, List.set_cons_zero, List.set_cons_succ])
  refine wpAnyD_take (i := 2) (v := ?_) rfl (by kernel_rfl) (by kernel_rfl) (by kernel_rfl) (by kernel_rfl) (fun _ _ _ h => h) (Or.inl ⟨by rfl, ?hyc2⟩) hHeld ?_
  case hyc2 => (intro w hSw; (try dsimp only at hSw); go_simp; try (with_reducible rfl))
  (try simp only [Act.put, List.getElem_toArray, List.getElem_cons_succ, List.getElem_cons_zero, List.setIfInBounds_toArray, List.set_cons_zero, List.set_cons_succ])
  refine wpAnyD_take (i := 3) (v := ?_) rfl (by kernel_rfl) (by kernel_rfl) (by kernel_rfl) (by kernel_rfl) (fun _ _ _ h => h) (Or.inl ⟨by rfl, ?hyc3⟩) hHeld ?_
  case hyc3 => (intro w hSw; (try dsimp only at hSw); go_simp; try (with_reducible rfl))
  (try simp only [Act.put, List.getElem_toArray, List.getElem_cons_succ, List.getElem_cons_zero, List.setIfInBounds_toArray, List.set_cons_zero, List.set_cons_succ])
  refine wpAnyD_take (i := 5) (v := ?_) rfl (by kernel_rfl) (by kernel_rfl) (by kernel_rfl) (by kernel_rfl) (fun _ _ _ h => h) (Or.inl ⟨by rfl, ?hyc5⟩) hHeld ?_
  case hyc5 => (intro w hSw; (try dsimp only at hSw); go_simp; try (with_reducible rfl))
  (try simp only [Act.put, List.getElem_toArray, List.getElem_cons_succ, List.getElem_cons_zero, List.setIfInBounds_toArray, List.set_cons_zero, List.set_cons_succ])
  refine wpAnyD_take (i := 6) (v := ?_) rfl (by kernel_rfl) (by kernel_rfl) (by kernel_rfl) (by kernel_rfl) (fun _ _ _ h => h) (Or.inl ⟨by rfl, ?hyc6⟩) hHeld ?_
  case hyc6 => (intro w hSw; (try dsimp only at hSw); go_simp; try (with_reducible rfl))
  (try simp only [Act.put, List.getElem_toArray, List.getElem_cons_succ, List.getElem_cons_zero, List.setIfInBounds_toArray, List.set_cons_zero, List.set_cons_succ])
  refine (FL_in (i1 := 8) (i2 := 9) (d1 := 12) (d2 := 13) (I := J2 Y [.slice none 0 0, .slice none 0 0, .slice none 0 0] [.slice none 0 0, .slice none 0 0, .slice none 0 0] (fun _ => True)) (J2.start hHeld.1 trivial) ?_)
  refine FL_step (c := 4) (I' := fun v x y u => ∃ f1 f2, v = .agg #[.slice (some ⟨bw, ow, none⟩) l k, .slice (some ⟨f1, 0, none⟩) l l, .slice (some ⟨f2, 0, none⟩) l l] ∧ J2 Y [.slice none 0 0, .slice none 0 0, .slice none 0 0] [.slice none 0 0, .slice none 0 0, .slice none 0 0] (fun u => (Own u f1 l (List.replicate l 0) ∧ Own u f2 l (List.replicate l 0)) ∧ Y.heap.size ≤ f1 ∧ Y.heap.size ≤ f2) x y u) rfl (by kernel_rfl) rfl rfl (j2_flt alw_c alw_c (fun _ _ _ h => h) (fun u k => HS.out u k) rfl rfl ⟨rfl, rfl, rfl⟩ ⟨rfl, rfl, rfl⟩) (fun v x y w h => by obtain ⟨f1, f2, -, h⟩ := h; exact HS.out w h.k) (fun xF yF uF hJ K hK9 => ?_) (fun v2 => ?_)
  · rcases xF with _ | xF <;> rcases yF with _ | yF
    all_goals (
      (try simp only [fpt, Act.put, List.getElem_toArray, List.getElem_cons_succ, List.getElem_cons_zero, List.setIfInBounds_toArray, List.set_cons_zero, List.set_cons_succ])
      go_simp
      go_wp2_with fail
      refine (KC.out _ _ _).mono ?_
      rintro e u1 ⟨f1, f2, rfl, -, h1, h2, q1, q2, k1⟩
      exact hK9.out _ _ _ (by first | rfl | (simp only [fpt, Act.put, List.getElem_toArray, List.getElem_cons_succ, List.getElem_cons_zero, List.setIfInBounds_toArray, List.set_cons_zero, List.set_cons_succ])) (⟨f1, f2, rfl, hJ.next k1 ⟨⟨q1, q2⟩, Nat.le_trans hJ.k.below.size h1, Nat.le_trans hJ.k.below.size h2⟩⟩)
    )
  refine FL_ex' (fun f1 => ?_)
  refine FL_ex' (fun f2 => ?_)
  refine fun xG yG wG hG => ?_
  obtain ⟨rfl, hG⟩ := hG
  revert xG yG wG
  show FL _ _ _ _ _ _ _ _ _ _ _ _ _ (J2 Y [.slice none 0 0, .slice none 0 0, .slice none 0 0] [.slice none 0 0, .slice none 0 0, .slice none 0 0] (fun u => (Own u f1 l (List.replicate l 0) ∧ Own u f2 l (List.replicate l 0)) ∧ Y.heap.size ≤ f1 ∧ Y.heap.size ≤ f2))
  (try simp only [Act.put, List.getElem_toArray, List.getElem_cons_succ, List.getElem_cons_zero, List.setIfInBounds_toArray, List.set_cons_zero, List.set_cons_succ])
  refine FL_step (c := 7) (I' := fun v x y u => ∃ g1 g2, v = .agg #[.slice (some ⟨gw, 0, none⟩) l l, .slice (some ⟨g1, 0, none⟩) l l, .slice (some ⟨g2, 0, none⟩) l l] ∧ J2 Y [.slice none 0 0, .slice none 0 0, .slice none 0 0] [.slice none 0 0, .slice none 0 0, .slice none 0 0] (fun u => (Own u f1 l (List.replicate l 0) ∧ Own u f2 l (List.replicate l 0)) ∧ (Own u g1 l (List.replicate l 0) ∧ Own u g2 l (List.replicate l 0)) ∧ g1 ≠ g2 ∧ Y.heap.size ≤ g1 ∧ Y.heap.size ≤ g2 ∧ Y.heap.size ≤ f1 ∧ Y.heap.size ≤ f2 ∧ f1 < g1 ∧ f1 < g2 ∧ f2 < g1 ∧ f2 < g2) x y u) rfl (by kernel_rfl) rfl rfl (j2_flt alw_c alw_c (fun _ _ k h => ⟨⟨h.1.1.kept k, h.1.2.kept k⟩, h.2⟩) (fun u k => HS.out u k) rfl rfl ⟨rfl, rfl, rfl⟩ ⟨rfl, rfl, rfl⟩) (fun v x y w h => by obtain ⟨g1, g2, -, h⟩ := h; exact HS.out w h.k) (fun xF yF uF hJ K hK9 => ?_) (fun v2 => ?_)
  · rcases xF with _ | xF <;> rcases yF with _ | yF
    all_goals (
      (try simp only [fpt, Act.put, List.getElem_toArray, List.getElem_cons_succ, List.getElem_cons_zero, List.setIfInBounds_toArray, List.set_cons_zero, List.set_cons_succ])
      go_simp
      go_wp2_with fail
      refine (KC.out _ _ _).mono ?_
      rintro e u1 ⟨g1, g2, rfl, q0, q3, q4, q1, q2, k1⟩
      exact hK9.out _ _ _ (by first | rfl | (simp only [fpt, Act.put, List.getElem_toArray, List.getElem_cons_succ, List.getElem_cons_zero, List.setIfInBounds_toArray, List.set_cons_zero, List.set_cons_succ])) (⟨g1, g2, rfl, hJ.next k1 ⟨⟨hJ.v.1.1.kept k1, hJ.v.1.2.kept k1⟩, ⟨q1, q2⟩, q0, Nat.le_trans hJ.k.below.size q3, Nat.le_trans hJ.k.below.size q4, hJ.v.2.1, hJ.v.2.2, Nat.lt_of_lt_of_le hJ.v.1.1.lt q3, Nat.lt_of_lt_of_le hJ.v.1.1.lt q4, Nat.lt_of_lt_of_le hJ.v.1.2.lt q3, Nat.lt_of_lt_of_le hJ.v.1.2.lt q4⟩⟩)
    )
  refine FL_ex' (fun g1 => ?_)
  refine FL_ex' (fun g2 => ?_)
  refine fun xG yG wG hG => ?_
  obtain ⟨rfl, hG⟩ := hG
  revert xG yG wG
  show FL _ _ _ _ _ _ _ _ _ _ _ _ _ (J2 Y [.slice none 0 0, .slice none 0 0, .slice none 0 0] [.slice none 0 0, .slice none 0 0, .slice none 0 0] (fun u => (Own u f1 l (List.replicate l 0) ∧ Own u f2 l (List.replicate l 0)) ∧ (Own u g1 l (List.replicate l 0) ∧ Own u g2 l (List.replicate l 0)) ∧ g1 ≠ g2 ∧ Y.heap.size ≤ g1 ∧ Y.heap.size ≤ g2 ∧ Y.heap.size ≤ f1 ∧ Y.heap.size ≤ f2 ∧ f1 < g1 ∧ f1 < g2 ∧ f2 < g1 ∧ f2 < g2))
  (try simp only [Act.put, List.getElem_toArray, List.getElem_cons_succ, List.getElem_cons_zero, List.setIfInBounds_toArray, List.set_cons_zero, List.set_cons_succ])
  refine FL_end (by kernel_rfl) rfl rfl (j2_flt alw_c alw_c (fun _ _ k h => ⟨⟨h.1.1.kept k, h.1.2.kept k⟩, ⟨h.2.1.1.kept k, h.2.1.2.kept k⟩, h.2.2⟩) (fun u k => HS.out u k) rfl rfl ⟨rfl, rfl, rfl⟩ ⟨rfl, rfl, rfl⟩) (fun xF yF uF hJ => ?_)
  obtain ⟨B12, rfl, ob1, bb1⟩ := hJ.n1 _ rfl
  obtain ⟨B13, rfl, ob2, bb2⟩ := hJ.n2 _ rfl
  have nB : B12 ≠ B13 := fun e => hJ.d _ _ rfl rfl (by rw [e])
  have kU := hJ.k
  obtain ⟨⟨q1, q2⟩, ⟨q3, q4⟩, h12, hg1, hg2, hf1, hf2, f11, f12, f21, f22⟩ := hJ.v
  clear hJ
  (try simp only [Act.put, List.getElem_toArray, List.getElem_cons_succ, List.getElem_cons_zero, List.setIfInBounds_toArray, List.set_cons_zero, List.set_cons_succ])
  have nq1bb1 : f1 ≠ B12 := own_ne q1 (by simp) bb1 (i := 0) rfl (fun z h => by cases h)
  have nq2bb1 : f2 ≠ B12 := own_ne q2 (by simp) bb1 (i := 0) rfl (fun z h => by cases h)
  have nq3bb1 : g1 ≠ B12 := own_ne q3 (by simp) bb1 (i := 0) rfl (fun z h => by cases h)
  have nq4bb1 : g2 ≠ B12 := own_ne q4 (by simp) bb1 (i := 0) rfl (fun z h => by cases h)
  have nq1bb2 : f1 ≠ B13 := own_ne q1 (by simp) bb2 (i := 0) rfl (fun z h => by cases h)
  have nq2bb2 : f2 ≠ B13 := own_ne q2 (by simp) bb2 (i := 0) rfl (fun z h => by cases h)
  have nq3bb2 : g1 ≠ B13 := own_ne q3 (by simp) bb2 (i := 0) rfl (fun z h => by cases h)
  have nq4bb2 : g2 ≠ B13 := own_ne q4 (by simp) bb2 (i := 0) rfl (fun z h => by cases h)
  have k12 := kU
  have e0 := bb1.c 0 _ rfl
  have e1 := bb1.c 1 _ rfl
  have e2 := bb1.c 2 _ rfl
  have ef := bb1.fz
  obtain ⟨Z1, hZ1⟩ : ∃ Y, Y = (((uF.setCell ⟨B12, 0, none⟩ (.slice (some ⟨bw, ow, none⟩) l k)).setCell ⟨B12, 1, none⟩ (.slice (some ⟨f1, 0, none⟩) l l)).setCell ⟨B12, 2, none⟩ (.slice (some ⟨f2, 0, none⟩) l l)) := ⟨_, rfl⟩
  have kZ1 : Kept Y Z1 := by rw [hZ1]; exact (((kU.setCell ob1 _).setCell ob1 _).setCell ob1 _)
  have b12 : Bk Z1 B12 [.slice (some ⟨bw, ow, none⟩) l k, .slice (some ⟨f1, 0, none⟩) l l, .slice (some ⟨f2, 0, none⟩) l l] := by rw [hZ1]; exact (((bb1.set 0 _).set 1 _).set 2 _)
  have b13 : Bk Z1 B13 [.slice none 0 0, .slice none 0 0, .slice none 0 0] := by rw [hZ1]; exact (((bb2.far (Ne.symm nB) _).far (Ne.symm nB) _).far (Ne.symm nB) _)
  have rq1 : Own Z1 f1 l (List.replicate l 0) := by rw [hZ1]; exact (((q1.setOther nq1bb1 _).setOther nq1bb1 _).setOther nq1bb1 _)
  have rq2 : Own Z1 f2 l (List.replicate l 0) := by rw [hZ1]; exact (((q2.setOther nq2bb1 _).setOther nq2bb1 _).setOther nq2bb1 _)
  have rq3 : Own Z1 g1 l (List.replicate l 0) := by rw [hZ1]; exact (((q3.setOther nq3bb1 _).setOther nq3bb1 _).setOther nq3bb1 _)
  have rq4 : Own Z1 g2 l (List.replicate l 0) := by rw [hZ1]; exact (((q4.setOther nq4bb1 _).setOther nq4bb1 _).setOther nq4bb1 _)
  refine wpAnyD_step (i := 10) (by kernel_rfl) rfl (fun K hK9 => ?_)
  go_simp
  rw [← hZ1]
  refine hK9.out _ _ (HS.out _ kZ1) (fun hH2 => ?_)
  clear hK9 K
  (try simp only [Act.put, List.getElem_toArray, List.getElem_cons_succ, List.getElem_cons_zero, List.setIfInBounds_toArray, List.set_cons_zero, List.set_cons_succ])
  clear hZ1 ef e0 e1 e2
  clear hH2
  have e0 := b13.c 0 _ rfl
  have e1 := b13.c 1 _ rfl
  have e2 := b13.c 2 _ rfl
  have ef := b13.fz
  obtain ⟨Z, hZ⟩ : ∃ Y, Y = (((Z1.setCell ⟨B13, 0, none⟩ (.slice (some ⟨gw, 0, none⟩) l l)).setCell ⟨B13, 1, none⟩ (.slice (some ⟨g1, 0, none⟩) l l)).setCell ⟨B13, 2, none⟩ (.slice (some ⟨g2, 0, none⟩) l l)) := ⟨_, rfl⟩
  have kZ : Kept Y Z := by rw [hZ]; exact (((kZ1.setCell ob2 _).setCell ob2 _).setCell ob2 _)
  have c13 : Bk Z B13 [.slice (some ⟨gw, 0, none⟩) l l, .slice (some ⟨g1, 0, none⟩) l l, .slice (some ⟨g2, 0, none⟩) l l] := by rw [hZ]; exact (((b13.set 0 _).set 1 _).set 2 _)
  have c12 : Bk Z B12 [.slice (some ⟨bw, ow, none⟩) l k, .slice (some ⟨f1, 0, none⟩) l l, .slice (some ⟨f2, 0, none⟩) l l] := by rw [hZ]; exact (((b12.far nB _).far nB _).far nB _)
  have tq1 : Own Z f1 l (List.replicate l 0) := by rw [hZ]; exact (((rq1.setOther nq1bb2 _).setOther nq1bb2 _).setOther nq1bb2 _)
  have tq2 : Own Z f2 l (List.replicate l 0) := by rw [hZ]; exact (((rq2.setOther nq2bb2 _).setOther nq2bb2 _).setOther nq2bb2 _)
  have tq3 : Own Z g1 l (List.replicate l 0) := by rw [hZ]; exact (((rq3.setOther nq3bb2 _).setOther nq3bb2 _).setOther nq3bb2 _)
  have tq4 : Own Z g2 l (List.replicate l 0) := by rw [hZ]; exact (((rq4.setOther nq4bb2 _).setOther nq4bb2 _).setOther nq4bb2 _)
  refine wpAnyD_step (i := 11) (by kernel_rfl) rfl (fun K hK9 => ?_)
  go_simp
  rw [← hZ]
  refine hK9.out _ _ (HS.out _ kZ) (fun hH2 => ?_)
  clear hK9 K
  (try simp only [Act.put, List.getElem_toArray, List.getElem_cons_succ, List.getElem_cons_zero, List.setIfInBounds_toArray, List.set_cons_zero, List.set_cons_succ])
  clear hZ ef e0 e1 e2
  refine wpAnyD_done (by kernel_rfl) ?_ _
  (try simp only [Act.put, List.getElem_toArray, List.getElem_cons_succ, List.getElem_cons_zero, List.setIfInBounds_toArray, List.set_cons_zero, List.set_cons_succ])
  have ow' := oY.lt
  have hYs := kY.below.size
  have hD : Hid (gw ≠ g1 ∧ gw ≠ g2 ∧ g1 ≠ g2 ∧ w.heap.size ≤ gw ∧ w.heap.size ≤ g1 ∧ w.heap.size ≤ g2 ∧ X.heap.size ≤ gw ∧ X.heap.size ≤ g1 ∧ X.heap.size ≤ g2) := (show _ ∧ _ ∧ _ ∧ _ ∧ _ ∧ _ ∧ _ ∧ _ ∧ _ from by have := hK.below.size; exact ⟨by omega, by omega, h12, by omega, by omega, by omega, by omega, by omega, by omega⟩)
  have hE : Hid (B12 ∉ [gw, g1, g2] ∧ B13 ∉ [gw, g1, g2] ∧ f1 ∉ [gw, g1, g2] ∧ f2 ∉ [gw, g1, g2] ∧ B10 ∉ [gw, g1, g2] ∧ B3 ∉ [gw, g1, g2] ∧ B6 ∉ [gw, g1, g2]) := (show _ ∧ _ ∧ _ ∧ _ ∧ _ ∧ _ ∧ _ from by have h3 := b3.lt; have h6 := b6.lt; have h10 := bY.lt; have hn := nY.out; have a1 := nq3bb1; have a2 := nq4bb1; have a3 := nq3bb2; have a4 := nq4bb2; have hx := hK.below.size; refine ⟨?_, ?_, ?_, ?_, ?_, ?_, ?_⟩ <;> simp only [List.mem_cons, List.not_mem_nil, or_false] <;> omega)
  have ZK : Kept w Z := (hK.trans kY).trans kZ
  have oZ := oY.kept kZ
  have b3Z := b3Y.kept kZ
  have b6Z := (b6.kept kY).kept kZ
  have b10 := bY.kept kZ
  have hR6 := o6
  clear hHeld hH2 nq1bb1 nq2bb1 nq3bb1 nq4bb1 nq1bb2 nq2bb2 nq3bb2 nq4bb2 nB kU q1 q2 q3 q4 h12 hg1 hg2 hf1 hf2 f11 f12 f21 f22 bb1 bb2 b12 b13 rq1 rq2 rq3 rq4 k12 kZ1 ow' hYs HS KC b3 b6 b3Y bY oY nY ob1 ob2 kY hK
  go_upto_region 3 with fail
  have HS : Hid (∀ u, Kept Z u → Kept Z u ∧ u.cell? ⟨B3, 0, none⟩ = some (.int .i64 0) ∧ u.cell? ⟨B3, 1, none⟩ = some (.int .i64 0) ∧ u.cell? ⟨B3, 2, none⟩ = some (.int .i64 0) ∧ u.cell? ⟨B3, 3, none⟩ = some (.int .i64 0) ∧ u.cell? ⟨B3, 4, none⟩ = some (.int .i64 0) ∧ u.cell? ⟨B3, 5, none⟩ = some (.int .i64 0) ∧ u.cell? ⟨B3, 6, none⟩ = some (.int .i64 0) ∧ u.cell? ⟨B3, 7, none⟩ = some (.int .i64 rb) ∧ u.cell? ⟨B3, 8, none⟩ = some (.int .i64 (R : Int)) ∧ u.cell? ⟨B3, 9, none⟩ = some (.int .i64 (C : Int)) ∧ u.cell? ⟨B3, 10, none⟩ = some (.int .i64 n) ∧ u.cell? ⟨B3, 11, none⟩ = some (.slice (some ⟨bw, ow, none⟩) l k) ∧ u.cell? ⟨B3, 12, none⟩ = some (.int .i64 (R : Int)) ∧ u.cell? ⟨B3, 13, none⟩ = some (.int .i64 (C : Int)) ∧ u.cell? ⟨B3, 14, none⟩ = some (.int .i64 n) ∧ u.cell? ⟨B3, 15, none⟩ = some (.slice (some ⟨bg, og, none⟩) l k') ∧ u.cell? ⟨B3, 16, none⟩ = some (.slice none 0 0)) := fun u q => ⟨q, (b3Z.kept q).c 0 _ rfl, (b3Z.kept q).c 1 _ rfl, (b3Z.kept q).c 2 _ rfl, (b3Z.kept q).c 3 _ rfl, (b3Z.kept q).c 4 _ rfl, (b3Z.kept q).c 5 _ rfl, (b3Z.kept q).c 6 _ rfl, (b3Z.kept q).c 7 _ rfl, (b3Z.kept q).c 8 _ rfl, (b3Z.kept q).c 9 _ rfl, (b3Z.kept q).c 10 _ rfl, (b3Z.kept q).c 11 _ rfl, (b3Z.kept q).c 12 _ rfl, (b3Z.kept q).c 13 _ rfl, (b3Z.kept q).c 14 _ rfl, (b3Z.kept q).c 15 _ rfl, (b3Z.kept q).c 16 _ rfl⟩
  refine wp_region_late [] (fun u => Kept Z u ∧ u.cell? ⟨B3, 0, none⟩ = some (.int .i64 0) ∧ u.cell? ⟨B3, 1, none⟩ = some (.int .i64 0) ∧ u.cell? ⟨B3, 2, none⟩ = some (.int .i64 0) ∧ u.cell? ⟨B3, 3, none⟩ = some (.int .i64 0) ∧ u.cell? ⟨B3, 4, none⟩ = some (.int .i64 0) ∧ u.cell? ⟨B3, 5, none⟩ = some (.int .i64 0) ∧ u.cell? ⟨B3, 6, none⟩ = some (.int .i64 0) ∧ u.cell? ⟨B3, 7, none⟩ = some (.int .i64 rb) ∧ u.cell? ⟨B3, 8, none⟩ = some (.int .i64 (R : Int)) ∧ u.cell? ⟨B3, 9, none⟩ = some (.int .i64 (C : Int)) ∧ u.cell? ⟨B3, 10, none⟩ = some (.int .i64 n) ∧ u.cell? ⟨B3, 11, none⟩ = some (.slice (some ⟨bw, ow, none⟩) l k) ∧ u.cell? ⟨B3, 12, none⟩ = some (.int .i64 (R : Int)) ∧ u.cell? ⟨B3, 13, none⟩ = some (.int .i64 (C : Int)) ∧ u.cell? ⟨B3, 14, none⟩ = some (.int .i64 n) ∧ u.cell? ⟨B3, 15, none⟩ = some (.slice (some ⟨bg, og, none⟩) l k') ∧ u.cell? ⟨B3, 16, none⟩ = some (.slice none 0 0)) (by kernel_rfl) (HS.out _ (Kept.refl Z).drew) (fun hHeld => ?_)
  refine wpAnyD_take (i := 0) (v := ?_) rfl (by kernel_rfl) (by kernel_rfl) (by kernel_rfl) (by kernel_rfl) (fun _ _ _ h => h) (Or.inl ⟨by rfl, ?hyd0⟩) hHeld ?_
  case hyd0 => (intro w hSw; (try dsimp only at hSw); go_simp; try (with_reducible rfl))
  (try simp only [Act.put, List.getElem_toArray, List.getElem_cons_succ, List.getElem_cons_zero, List.setIfInBounds_toArray, List.set_cons_zero, List.set_cons_succ])
  refine wpAnyD_take (i := 1) (v := ?_) rfl (by kernel_rfl) (by kernel_rfl) (by kernel_rfl) (by kernel_rfl) (fun _ _ _ h => h) (Or.inl ⟨by rfl, ?hyd1⟩) hHeld ?_
  case hyd1 => (intro w hSw; (try dsimp only at hSw); go_simp; try (with_reducible rfl))
  (try simp only [Act.put, List.getElem_toArray, List.getElem_cons_succ, List.getElem_cons_zero, List.setIfInBounds_toArray, List.set_cons_zero, List.set_cons_succ])
  refine wpAnyD_take (i := 3) (v := ?_) rfl (by kernel_rfl) (by kernel_rfl) (by kernel_rfl) (by kernel_rfl) (fun _ _ _ h => h) (Or.inl ⟨by rfl, ?hyd3⟩) hHeld ?_
  case hyd3 => (intro w hSw; (try dsimp only at hSw); go_simp; try (with_reducible rfl))
  (try simp only [Act.put, List.getElem_toArray, List.getElem_cons_succ, List.getElem_cons_zero, List.setIfInBounds_toArray, List.set_cons_zero, List.set_cons_succ])
  refine wpAnyD_take (i := 4) (v := ?_) rfl (by kernel_rfl) (by kernel_rfl) (by kernel_rfl) (by kernel_rfl) (fun _ _ _ h => h) (Or.inl ⟨by rfl, ?hyd4⟩) hHeld ?_
  case hyd4 => (intro w hSw; (try dsimp only at hSw); go_simp; try (with_reducible rfl))
  (try simp only [Act.put, List.getElem_toArray, List.getElem_cons_succ, List.getElem_cons_zero, List.setIfInBounds_toArray, List.set_cons_zero, List.set_cons_succ])
  refine wpAnyD_take (i := 5) (v := ?_) rfl (by kernel_rfl) (by kernel_rfl) (by kernel_rfl) (by kernel_rfl) (fun _ _ _ h => h) (Or.inl ⟨by rfl, ?hyd5⟩) hHeld ?_
  case hyd5 => (intro w hSw; (try dsimp only at hSw); go_simp; try (with_reducible rfl))
  (try simp only [Act.put, List.getElem_toArray, List.getElem_cons_succ, List.getElem_cons_zero, List.setIfInBounds_toArray, List.set_cons_zero, List.set_cons_succ])
  refine F1_in (i1 := 7) (d1 := 14) (I := JB Z [.float .f64 0, .float .f64 0, .float .f64 0, .float .f64 0, .float .f64 0, .float .f64 0, .float .f64 0, .float .f64 0] (fun _ => True)) (JB.start hHeld.1 trivial) ?_
  refine F1_step (c := 2) (I' := fun v x u => v = .agg #[.float .f64 fr, .float .f64 0, .float .f64 0, .float .f64 0, .float .f64 0, .float .f64 0, .float .f64 0, .float .f64 0] ∧ JB Z [.float .f64 0, .float .f64 0, .float .f64 0, .float .f64 0, .float .f64 0, .float .f64 0, .float .f64 0, .float .f64 0] (fun _ => True) x u) rfl (by kernel_rfl) rfl rfl (jb_flt alw_p64 (fun _ _ _ h => h) (fun u k => HS.out u k) rfl ⟨rfl, rfl, rfl⟩) (fun v x w h => HS.out w h.2.k) (fun xF uF hJ K hK9 => ?_) (fun v2 => ?_)
  · rcases xF with _ | xF
    all_goals (
      (try simp only [fpt, Act.put, List.getElem_toArray, List.getElem_cons_succ, List.getElem_cons_zero, List.setIfInBounds_toArray, List.set_cons_zero, List.set_cons_succ])
      go_simp
      go_wp2_with fail
      refine (KP.out _).mono ?_
      rintro e u1 ⟨rfl, k1⟩
      exact hK9.out _ _ _ (by first | rfl | (simp only [fpt, Act.put, List.getElem_toArray, List.getElem_cons_succ, List.getElem_cons_zero, List.setIfInBounds_toArray, List.set_cons_zero, List.set_cons_succ])) (⟨rfl, hJ.next k1 trivial⟩)
    )
  refine fun xG wG hG => ?_
  obtain ⟨rfl, hG⟩ := hG
  revert xG wG
  show F1 _ _ _ _ _ _ _ _ _ _ _ (JB Z [.float .f64 0, .float .f64 0, .float .f64 0, .float .f64 0, .float .f64 0, .float .f64 0, .float .f64 0, .float .f64 0] (fun _ => True))
  (try simp only [Act.put, List.getElem_toArray, List.getElem_cons_succ, List.getElem_cons_zero, List.setIfInBounds_toArray, List.set_cons_zero, List.set_cons_succ])
  refine F1_step (c := 6) (I' := fun v x u => v = .func (.func 58) #[] #[] ∧ JB Z [.float .f64 0, .float .f64 0, .float .f64 0, .float .f64 0, .float .f64 0, .float .f64 0, .float .f64 0, .float .f64 0] (fun _ => True) x u) rfl (by kernel_rfl) rfl rfl (jb_flt alw_p64 (fun _ _ _ h => h) (fun u k => HS.out u k) rfl ⟨rfl, rfl, rfl⟩) (fun v x w h => HS.out w h.2.k) (fun xF uF hJ K hK9 => ?_) (fun v2 => ?_)
  · rcases xF with _ | xF
    all_goals (
      (try simp only [fpt, Act.put, List.getElem_toArray, List.getElem_cons_succ, List.getElem_cons_zero, List.setIfInBounds_toArray, List.set_cons_zero, List.set_cons_succ])
      go_simp
      go_wp2_with fail
      refine (KR.out _).mono ?_
      rintro e u1 ⟨rfl, k1⟩
      exact hK9.out _ _ _ (by first | rfl | (simp only [fpt, Act.put, List.getElem_toArray, List.getElem_cons_succ, List.getElem_cons_zero, List.setIfInBounds_toArray, List.set_cons_zero, List.set_cons_succ])) (⟨rfl, hJ.next k1 trivial⟩)
    )
  refine fun xG wG hG => ?_
  obtain ⟨rfl, hG⟩ := hG
  revert xG wG
  show F1 _ _ _ _ _ _ _ _ _ _ _ (JB Z [.float .f64 0, .float .f64 0, .float .f64 0, .float .f64 0, .float .f64 0, .float .f64 0, .float .f64 0, .float .f64 0] (fun _ => True))
  (try simp only [Act.put, List.getElem_toArray, List.getElem_cons_succ, List.getElem_cons_zero, List.setIfInBounds_toArray, List.set_cons_zero, List.set_cons_succ])
  refine F1_end (.inr (by kernel_rfl)) (jb_flt alw_p64 (fun _ _ _ h => h) (fun u k => HS.out u k) rfl ⟨rfl, rfl, rfl⟩) (fun xF uF hJ => ?_)
  obtain ⟨B14, rfl, ob, bb⟩ := hJ.n _ rfl
  have kU := hJ.k
  clear hJ
  have hSF := stf .f64
  (try simp only [Act.put, List.getElem_toArray, List.getElem_cons_succ, List.getElem_cons_zero, List.setIfInBounds_toArray, List.set_cons_zero, List.set_cons_succ])
  have e0 := bb.c 0 _ rfl
  have e1 := bb.c 1 _ rfl
  have e2 := bb.c 2 _ rfl
  have e3 := bb.c 3 _ rfl
  have e4 := bb.c 4 _ rfl
  have e5 := bb.c 5 _ rfl
  have e6 := bb.c 6 _ rfl
  have e7 := bb.c 7 _ rfl
  have ef := bb.fz
  obtain ⟨V, hV⟩ : ∃ Y, Y = ((((((((uF.setCell ⟨B14, 0, none⟩ (.float .f64 fr)).setCell ⟨B14, 1, none⟩ (.float .f64 0)).setCell ⟨B14, 2, none⟩ (.float .f64 0)).setCell ⟨B14, 3, none⟩ (.float .f64 0)).setCell ⟨B14, 4, none⟩ (.float .f64 0)).setCell ⟨B14, 5, none⟩ (.float .f64 0)).setCell ⟨B14, 6, none⟩ (.float .f64 0)).setCell ⟨B14, 7, none⟩ (.float .f64 0)) := ⟨_, rfl⟩
  have kV : Kept Z V := by rw [hV]; exact ((((((((kU.setCell ob _).setCell ob _).setCell ob _).setCell ob _).setCell ob _).setCell ob _).setCell ob _).setCell ob _)
  have b14 : Bk V B14 [.float .f64 fr, .float .f64 0, .float .f64 0, .float .f64 0, .float .f64 0, .float .f64 0, .float .f64 0, .float .f64 0] := by rw [hV]; exact ((((((((bb.set 0 _).set 1 _).set 2 _).set 3 _).set 4 _).set 5 _).set 6 _).set 7 _)
  refine wpAnyD_step (i := 8) (by kernel_rfl) rfl (fun K hK9 => ?_)
  go_simp
  rw [← hV]
  refine hK9.out _ _ (HS.out _ kV) (fun hH2 => ?_)
  clear hK9 K
  (try simp only [Act.put, List.getElem_toArray, List.getElem_cons_succ, List.getElem_cons_zero, List.setIfInBounds_toArray, List.set_cons_zero, List.set_cons_succ])
  clear hV ef e0 e1 e2 e3 e4 e5 e6 e7
  refine wpAnyD_take (i := 9) (v := ?_) rfl (by kernel_rfl) (by kernel_rfl) (by kernel_rfl) (by kernel_rfl) (fun _ _ _ h => h) (Or.inl ⟨by rfl, ?hye9⟩) hH2 ?_
  case hye9 => (intro w hSw; (try dsimp only at hSw); go_simp; try (with_reducible rfl))
  (try simp only [Act.put, List.getElem_toArray, List.getElem_cons_succ, List.getElem_cons_zero, List.setIfInBounds_toArray, List.set_cons_zero, List.set_cons_succ])
  refine wpAnyD_done (by kernel_rfl) ?_ _
  (try simp only [Act.put, List.getElem_toArray, List.getElem_cons_succ, List.getElem_cons_zero, List.setIfInBounds_toArray, List.set_cons_zero, List.set_cons_succ])
  have bl := b14.lt
  have hob := ob
  have hn14 : Hid (B14 ∉ [gw, g1, g2]) := (show B14 ∉ [gw, g1, g2] from by have h1 := oZ.lt; have h2 := tq3.lt; have h3 := tq4.lt; simp only [List.mem_cons, List.not_mem_nil, or_false]; omega)
  have wV : Kept w V := ZK.trans kV
  have m12 := c12.kept kV
  have m13 := c13.kept kV
  have m3 := b3Z.kept kV
  have m6 := b6Z.kept kV
  have m10 := b10.kept kV
  have oW := oZ.kept kV
  have u1 := tq1.kept kV
  have u2 := tq2.kept kV
  have u3 := tq3.kept kV
  have u4 := tq4.kept kV
  clear hHeld hH2 bb kU HS KP KR bl ob c12 c13 b3Z b6Z b10 oZ tq1 tq2 tq3 tq4 kV ZK kZ
  have z0 := m12.c 0 _ rfl
  go_wp2_with fail
  clear z0
  have H12 := hid m12
  have H13 := hid m13
  have H3 := hid m3
  have H6 := hid m6
  have H10 := hid m10
  have H14 := hid b14
  have U1 := hid u1
  have U2 := hid u2
  clear m12 m13 m3 m6 m10 b14 u1 u2
  go_loopw [46] (fun iv wr => ∃ i : Nat, i ≤ l ∧ iv = .int .i64 i ∧ Kept w wr ∧ Gs [gw, g1, g2] V wr ∧ Own wr gw l (stl l (fun i => of64 (q i)) i) ∧ Own wr g1 l (List.replicate l 0) ∧ Own wr g2 l (List.replicate l 0)) (fun iv _ => l - (intOf iv).toNat)
  case atStart => exact ⟨0, Nat.zero_le _, rfl, wV, Gs.refl _ V, by rw [stl_zero]; exact oW, u3, u4⟩
  case round =>
    clear oW u3 u4
    obtain ⟨i, hil, rfl, wr_, hG, o1, o2, o3⟩ := hrel
    by_cases hi : i < l
    · skip
      have h12 := (H12.out).gs hG hE.out.1
      have h3 := (H3.out).gs hG hE.out.2.2.2.2.2.1
      have v1 := (U1.out).gs hG hE.out.2.2.1
      have v2 := (U2.out).gs hG hE.out.2.2.2.1
      have rgw := HRW.out _ wr_ i hi
      have rgg := HRG.out _ wr_ i hi
      have hpi := HP.out i hi
      have hqi := HQ.out i hi
      have KA2 : Hid (∀ fg u, Calls Try.prog 37 #[.agg #[.float .f64 (q i), .float .f64 fg, .float .f64 0, .float .f64 0]] u fun e w' => e = .returned (.int .i64 0) ∧ Kept u w') := fun fg u => KA.out i fg u hi
      obtain ⟨xw, hxw⟩ : ∃ x, x = Lw.getD i 0 := ⟨_, rfl⟩
      obtain ⟨xg, hxg⟩ : ∃ x, x = Lg.getD i 0 := ⟨_, rfl⟩
      rw [← hxw] at rgw hqi
      rw [← hxg] at rgg hpi
      have KW : Hid (∀ u, Calls Try.prog 15 #[.int .i64 xw] u fun e w' => e = .returned (.float .f64 (pat64 xw)) ∧ u = w') := fun u => float_any xw u
      have KX : Hid (∀ u, Calls Try.prog 15 #[.int .i64 xg] u fun e w' => e = .returned (.float .f64 (pat64 xg)) ∧ u = w') := fun u => float_any xg u
      have K0 : Hid (∀ u, Calls Try.prog 15 #[.int .i64 0] u fun e w' => e = .returned (.float .f64 0) ∧ u = w') := fun u => by have := float_any 0 u; rw [show pat64 0 = 0 by decide +kernel] at this; exact this
      have KO : Hid (∀ u, Calls Try.prog 10 #[.float .f64 (q i)] u fun e w' => e = .returned (.int .i64 (of64 (q i))) ∧ u = w') := fun u => of64_any (q i) u
      have KO0 : Hid (∀ u, Calls Try.prog 10 #[.float .f64 0] u fun e w' => e = .returned (.int .i64 0) ∧ u = w') := fun u => by have := of64_any 0 u; rw [show of64 0 = 0 by decide +kernel] at this; exact this
      generalize p i = pp at *
      obtain ⟨qq, hqq⟩ : ∃ x, x = q i := ⟨_, rfl⟩
      rw [← hqq] at hqi KA2 KO
      obtain ⟨ov, hov⟩ : ∃ x, x = of64 qq := ⟨_, rfl⟩
      have hst' : Hid ((stl l (fun i => of64 (q i)) i).set i ov = stl l (fun i => of64 (q i)) (i + 1)) := (show (stl l (fun i => of64 (q i)) i).set i ov = stl l (fun i => of64 (q i)) (i + 1) from by rw [hov, hqq]; exact stl_set l (fun i => of64 (q i)) i hi)
      rw [← hov] at KO
      clear hov hqq hxw hxg
      obtain ⟨fw, hfw⟩ : ∃ x, x = pat64 xw := ⟨_, rfl⟩
      obtain ⟨fg, hfg⟩ : ∃ x, x = pat64 xg := ⟨_, rfl⟩
      rw [← hfw] at KW hqi
      rw [← hfg] at KX hpi
      clear hfw hfg
      have KG : Hid (∀ u, Calls Try.prog 36 #[.agg #[.float .f64 fr, .float .f64 0, .float .f64 0, .float .f64 0, .float .f64 0, .float .f64 0, .float .f64 0, .float .f64 0], .agg #[.float .f64 fw, .float .f64 fg, .float .f64 0, .float .f64 0]] u fun e w' => e = .returned (.float .f64 fg) ∧ Kept u w') := fun u => grad_64 fr fw fg u
      have KL : Hid (∀ u, Calls Try.prog 58 #[.agg #[.float .f64 fr, .float .f64 0, .float .f64 0, .float .f64 0, .float .f64 0, .float .f64 0, .float .f64 0, .float .f64 0], .agg #[.float .f64 fw, .float .f64 fg, .float .f64 0, .float .f64 0]] u fun e w' => e = .returned (.agg #[.float .f64 qq, .float .f64 fg, .float .f64 0, .float .f64 0]) ∧ Kept u w') := fun u => plain_64 fr fw fg pp qq hpi hqi u
      clear hpi hqi
      go_upto_region 7 with fail
      have e00 : (List.replicate l (0 : Int)).getD i 0 = 0 := by simp [List.getD_eq_getElem?_getD, hi]
      have y1 := v1.cell i (by simpa using hi)
      have y2 := v2.cell i (by simpa using hi)
      rw [e00] at y1 y2
      have w1 := v1.lt
      have w2 := v2.lt
      have bwl := World.block_lt_of_cell? _ _ rgw
      have bgl := World.block_lt_of_cell? _ _ rgg
      have HS : Hid (∀ u, Kept wr u → Kept wr u ∧ u.cell? ⟨B12, 0, none⟩ = some (.slice (some ⟨bw, ow, none⟩) l k) ∧ u.cell? ⟨B12, 1, none⟩ = some (.slice (some ⟨f1, 0, none⟩) l l) ∧ u.cell? ⟨B12, 2, none⟩ = some (.slice (some ⟨f2, 0, none⟩) l l) ∧ u.cell? ⟨B3, 15, none⟩ = some (.slice (some ⟨bg, og, none⟩) l k') ∧ u.cell? ⟨bw, ow + i, none⟩ = some (.int .i64 xw) ∧ u.cell? ⟨bg, og + i, none⟩ = some (.int .i64 xg) ∧ u.cell? ⟨f1, i, none⟩ = some (.int .i64 0) ∧ u.cell? ⟨f2, i, none⟩ = some (.int .i64 0)) := fun u q => ⟨q, (h12.kept q).c 0 _ rfl, (h12.kept q).c 1 _ rfl, (h12.kept q).c 2 _ rfl, (h3.kept q).c 15 _ rfl, (q.below.cell (p := ⟨bw, ow + i, none⟩) bwl).trans rgw, (q.below.cell (p := ⟨bg, og + i, none⟩) bgl).trans rgg, (q.below.cell (p := ⟨f1, i, none⟩) w1).trans y1, (q.below.cell (p := ⟨f2, i, none⟩) w2).trans y2⟩
      clear y1 y2 w1 w2 bwl bgl rgw rgg v1 v2 e00
      refine wp_region_late [] (fun u => Kept wr u ∧ u.cell? ⟨B12, 0, none⟩ = some (.slice (some ⟨bw, ow, none⟩) l k) ∧ u.cell? ⟨B12, 1, none⟩ = some (.slice (some ⟨f1, 0, none⟩) l l) ∧ u.cell? ⟨B12, 2, none⟩ = some (.slice (some ⟨f2, 0, none⟩) l l) ∧ u.cell? ⟨B3, 15, none⟩ = some (.slice (some ⟨bg, og, none⟩) l k') ∧ u.cell? ⟨bw, ow + i, none⟩ = some (.int .i64 xw) ∧ u.cell? ⟨bg, og + i, none⟩ = some (.int .i64 xg) ∧ u.cell? ⟨f1, i, none⟩ = some (.int .i64 0) ∧ u.cell? ⟨f2, i, none⟩ = some (.int .i64 0)) (by kernel_rfl) (HS.out _ (Kept.refl wr).drew) (fun hHeld => ?_)
      refine wpAnyD_take (i := 0) (v := ?_) rfl (by kernel_rfl) (by kernel_rfl) (by kernel_rfl) (by kernel_rfl) (fun _ _ _ h => h) (Or.inl ⟨by rfl, ?hyf0⟩) hHeld ?_
      case hyf0 => (intro w hSw; (try dsimp only at hSw); go_simp; try (with_reducible rfl))
      (try simp only [Act.put, List.getElem_toArray, List.getElem_cons_succ, List.getElem_cons_zero, List.setIfInBounds_toArray, List.set_cons_zero, List.set_cons_succ])
      refine wpAnyD_take (i := 1) (v := ?_) rfl (by kernel_rfl) (by kernel_rfl) (by kernel_rfl) (by kernel_rfl) (fun _ _ _ h => h) (Or.inl ⟨by rfl, ?hyf1⟩) hHeld ?_
      case hyf1 => (intro w hSw; (try dsimp only at hSw); go_simp; try (with_reducible rfl))
      (try simp only [Act.put, List.getElem_toArray, List.getElem_cons_succ, List.getElem_cons_zero, List.setIfInBounds_toArray, List.set_cons_zero, List.set_cons_succ])
      refine wpAnyD_take (i := 2) (v := ?_) rfl (by kernel_rfl) (by kernel_rfl) (by kernel_rfl) (by kernel_rfl) (fun _ _ _ h => h) (Or.inl ⟨by rfl, ?hyf2⟩) hHeld ?_
      case hyf2 => (intro w hSw; (try dsimp only at hSw); go_simp; try (with_reducible rfl))
      (try simp only [Act.put, List.getElem_toArray, List.getElem_cons_succ, List.getElem_cons_zero, List.setIfInBounds_toArray, List.set_cons_zero, List.set_cons_succ])
      refine wpAnyD_take (i := 3) (v := ?_) rfl (by kernel_rfl) (by kernel_rfl) (by kernel_rfl) (by kernel_rfl) (fun _ _ _ h => h) (Or.inl ⟨by rfl, ?hyf3⟩) hHeld ?_
      case hyf3 => (intro w hSw; (try dsimp only at hSw); go_simp; try (with_reducible rfl))
      (try simp only [Act.put, List.getElem_toArray, List.getElem_cons_succ, List.getElem_cons_zero, List.setIfInBounds_toArray, List.set_cons_zero, List.set_cons_succ])
      refine wpAnyD_take (i := 4) (v := ?_) rfl (by kernel_rfl) (by kernel_rfl) (by kernel_rfl) (by kernel_rfl) (fun _ _ _ h => h) (Or.inl ⟨by rfl, ?hyf4⟩) hHeld ?_
      case hyf4 => (intro w hSw; (try dsimp only at hSw); go_simp; try (with_reducible rfl))
      (try simp only [Act.put, List.getElem_toArray, List.getElem_cons_succ, List.getElem_cons_zero, List.setIfInBounds_toArray, List.set_cons_zero, List.set_cons_succ])
      refine wpAnyD_take (i := 5) (v := ?_) rfl (by kernel_rfl) (by kernel_rfl) (by kernel_rfl) (by kernel_rfl) (fun _ _ _ h => h) (Or.inl ⟨by rfl, ?hyf5⟩) hHeld ?_
      case hyf5 => (intro w hSw; (try dsimp only at hSw); go_simp; try (with_reducible rfl))
      (try simp only [Act.put, List.getElem_toArray, List.getElem_cons_succ, List.getElem_cons_zero, List.setIfInBounds_toArray, List.set_cons_zero, List.set_cons_succ])
      refine wpAnyD_take (i := 7) (v := ?_) rfl (by kernel_rfl) (by kernel_rfl) (by kernel_rfl) (by kernel_rfl) (fun _ _ _ h => h) (Or.inl ⟨by rfl, ?hyf7⟩) hHeld ?_
      case hyf7 => (intro w hSw; (try dsimp only at hSw); go_simp; try (with_reducible rfl))
      (try simp only [Act.put, List.getElem_toArray, List.getElem_cons_succ, List.getElem_cons_zero, List.setIfInBounds_toArray, List.set_cons_zero, List.set_cons_succ])
      refine wpAnyD_take (i := 8) (v := ?_) rfl (by kernel_rfl) (by kernel_rfl) (by kernel_rfl) (by kernel_rfl) (fun _ _ _ h => h) (Or.inl ⟨by rfl, ?hyf8⟩) hHeld ?_
      case hyf8 => (intro w hSw; (try dsimp only at hSw); go_simp; try (with_reducible rfl))
      (try simp only [Act.put, List.getElem_toArray, List.getElem_cons_succ, List.getElem_cons_zero, List.setIfInBounds_toArray, List.set_cons_zero, List.set_cons_succ])
      refine wpAnyD_take (i := 9) (v := ?_) rfl (by kernel_rfl) (by kernel_rfl) (by kernel_rfl) (by kernel_rfl) (fun _ _ _ h => h) (Or.inl ⟨by rfl, ?hyf9⟩) hHeld ?_
      case hyf9 => (intro w hSw; (try dsimp only at hSw); go_simp; try (with_reducible rfl))
      (try simp only [Act.put, List.getElem_toArray, List.getElem_cons_succ, List.getElem_cons_zero, List.setIfInBounds_toArray, List.set_cons_zero, List.set_cons_succ])
      refine wpAnyD_take (i := 10) (v := ?_) rfl (by kernel_rfl) (by kernel_rfl) (by kernel_rfl) (by kernel_rfl) (fun _ _ _ h => h) (Or.inl ⟨by rfl, ?hyf10⟩) hHeld ?_
      case hyf10 => (intro w hSw; (try dsimp only at hSw); go_simp; try (with_reducible rfl))
      (try simp only [Act.put, List.getElem_toArray, List.getElem_cons_succ, List.getElem_cons_zero, List.setIfInBounds_toArray, List.set_cons_zero, List.set_cons_succ])
      refine wpAnyD_take (i := 11) (v := ?_) rfl (by kernel_rfl) (by kernel_rfl) (by kernel_rfl) (by kernel_rfl) (fun _ _ _ h => h) (Or.inl ⟨by rfl, ?hyf11⟩) hHeld ?_
      case hyf11 => (intro w hSw; (try dsimp only at hSw); go_simp; try (with_reducible rfl))
      (try simp only [Act.put, List.getElem_toArray, List.getElem_cons_succ, List.getElem_cons_zero, List.setIfInBounds_toArray, List.set_cons_zero, List.set_cons_succ])
      refine wpAnyD_take (i := 12) (v := ?_) rfl (by kernel_rfl) (by kernel_rfl) (by kernel_rfl) (by kernel_rfl) (fun _ _ _ h => h) (Or.inl ⟨by rfl, ?hyf12⟩) hHeld ?_
      case hyf12 => (intro w hSw; (try dsimp only at hSw); go_simp; try (with_reducible rfl))
      (try simp only [Act.put, List.getElem_toArray, List.getElem_cons_succ, List.getElem_cons_zero, List.setIfInBounds_toArray, List.set_cons_zero, List.set_cons_succ])
      refine wpAnyD_take (i := 13) (v := ?_) rfl (by kernel_rfl) (by kernel_rfl) (by kernel_rfl) (by kernel_rfl) (fun _ _ _ h => h) (Or.inl ⟨by rfl, ?hyf13⟩) hHeld ?_
      case hyf13 => (intro w hSw; (try dsimp only at hSw); go_simp; try (with_reducible rfl))
      (try simp only [Act.put, List.getElem_toArray, List.getElem_cons_succ, List.getElem_cons_zero, List.setIfInBounds_toArray, List.set_cons_zero, List.set_cons_succ])
      refine wpAnyD_take (i := 15) (v := ?_) rfl (by kernel_rfl) (by kernel_rfl) (by kernel_rfl) (by kernel_rfl) (fun _ _ _ h => h) (Or.inl ⟨by rfl, ?hyf15⟩) hHeld ?_
      case hyf15 => (intro w hSw; (try dsimp only at hSw); go_simp; try (with_reducible rfl))
      (try simp only [Act.put, List.getElem_toArray, List.getElem_cons_succ, List.getElem_cons_zero, List.setIfInBounds_toArray, List.set_cons_zero, List.set_cons_succ])
      refine wpAnyD_take (i := 16) (v := ?_) rfl (by kernel_rfl) (by kernel_rfl) (by kernel_rfl) (by kernel_rfl) (fun _ _ _ h => h) (Or.inl ⟨by rfl, ?hyf16⟩) hHeld ?_
      case hyf16 => (intro w hSw; (try dsimp only at hSw); go_simp; try (with_reducible rfl))
      (try simp only [Act.put, List.getElem_toArray, List.getElem_cons_succ, List.getElem_cons_zero, List.setIfInBounds_toArray, List.set_cons_zero, List.set_cons_succ])
      refine wpAnyD_take (i := 17) (v := ?_) rfl (by kernel_rfl) (by kernel_rfl) (by kernel_rfl) (by kernel_rfl) (fun _ _ _ h => h) (Or.inl ⟨by rfl, ?hyf17⟩) hHeld ?_
      case hyf17 => (intro w hSw; (try dsimp only at hSw); go_simp; try (with_reducible rfl))
      (try simp only [Act.put, List.getElem_toArray, List.getElem_cons_succ, List.getElem_cons_zero, List.setIfInBounds_toArray, List.set_cons_zero, List.set_cons_succ])
      refine wpAnyD_take (i := 18) (v := ?_) rfl (by kernel_rfl) (by kernel_rfl) (by kernel_rfl) (by kernel_rfl) (fun _ _ _ h => h) (Or.inl ⟨by rfl, ?hyf18⟩) hHeld ?_
      case hyf18 => (intro w hSw; (try dsimp only at hSw); go_simp; try (with_reducible rfl))
      (try simp only [Act.put, List.getElem_toArray, List.getElem_cons_succ, List.getElem_cons_zero, List.setIfInBounds_toArray, List.set_cons_zero, List.set_cons_succ])
      refine wpAnyD_take (i := 19) (v := ?_) rfl (by kernel_rfl) (by kernel_rfl) (by kernel_rfl) (by kernel_rfl) (fun _ _ _ h => h) (Or.inl ⟨by rfl, ?hyf19⟩) hHeld ?_
      case hyf19 => (intro w hSw; (try dsimp only at hSw); go_simp; try (with_reducible rfl))
      (try simp only [Act.put, List.getElem_toArray, List.getElem_cons_succ, List.getElem_cons_zero, List.setIfInBounds_toArray, List.set_cons_zero, List.set_cons_succ])
      refine wpAnyD_take (i := 20) (v := ?_) rfl (by kernel_rfl) (by kernel_rfl) (by kernel_rfl) (by kernel_rfl) (fun _ _ _ h => h) (Or.inl ⟨by rfl, ?hyf20⟩) hHeld ?_
      case hyf20 => (intro w hSw; (try dsimp only at hSw); go_simp; try (with_reducible rfl))
      (try simp only [Act.put, List.getElem_toArray, List.getElem_cons_succ, List.getElem_cons_zero, List.setIfInBounds_toArray, List.set_cons_zero, List.set_cons_succ])
      refine wpAnyD_take (i := 22) (v := ?_) rfl (by kernel_rfl) (by kernel_rfl) (by kernel_rfl) (by kernel_rfl) (fun _ _ _ h => h) (Or.inl ⟨by rfl, ?hyf22⟩) hHeld ?_
      case hyf22 => (intro w hSw; (try dsimp only at hSw); go_simp; try (with_reducible rfl))
      (try simp only [Act.put, List.getElem_toArray, List.getElem_cons_succ, List.getElem_cons_zero, List.setIfInBounds_toArray, List.set_cons_zero, List.set_cons_succ])
      refine wpAnyD_take (i := 23) (v := ?_) rfl (by kernel_rfl) (by kernel_rfl) (by kernel_rfl) (by kernel_rfl) (fun _ _ _ h => h) (Or.inl ⟨by rfl, ?hyf23⟩) hHeld ?_
      case hyf23 => (intro w hSw; (try dsimp only at hSw); go_simp; try (with_reducible rfl))
      (try simp only [Act.put, List.getElem_toArray, List.getElem_cons_succ, List.getElem_cons_zero, List.setIfInBounds_toArray, List.set_cons_zero, List.set_cons_succ])
      refine wpAnyD_take (i := 24) (v := ?_) rfl (by kernel_rfl) (by kernel_rfl) (by kernel_rfl) (by kernel_rfl) (fun _ _ _ h => h) (Or.inl ⟨by rfl, ?hyf24⟩) hHeld ?_
      case hyf24 => (intro w hSw; (try dsimp only at hSw); go_simp; try (with_reducible rfl))
      (try simp only [Act.put, List.getElem_toArray, List.getElem_cons_succ, List.getElem_cons_zero, List.setIfInBounds_toArray, List.set_cons_zero, List.set_cons_succ])
      refine wpAnyD_take (i := 25) (v := ?_) rfl (by kernel_rfl) (by kernel_rfl) (by kernel_rfl) (by kernel_rfl) (fun _ _ _ h => h) (Or.inl ⟨by rfl, ?hyf25⟩) hHeld ?_
      case hyf25 => (intro w hSw; (try dsimp only at hSw); go_simp; try (with_reducible rfl))
      (try simp only [Act.put, List.getElem_toArray, List.getElem_cons_succ, List.getElem_cons_zero, List.setIfInBounds_toArray, List.set_cons_zero, List.set_cons_succ])
      refine wpAnyD_take (i := 26) (v := ?_) rfl (by kernel_rfl) (by kernel_rfl) (by kernel_rfl) (by kernel_rfl) (fun _ _ _ h => h) (Or.inl ⟨by rfl, ?hyf26⟩) hHeld ?_
      case hyf26 => (intro w hSw; (try dsimp only at hSw); go_simp; try (with_reducible rfl))
      (try simp only [Act.put, List.getElem_toArray, List.getElem_cons_succ, List.getElem_cons_zero, List.setIfInBounds_toArray, List.set_cons_zero, List.set_cons_succ])
      refine wpAnyD_take (i := 27) (v := ?_) rfl (by kernel_rfl) (by kernel_rfl) (by kernel_rfl) (by kernel_rfl) (fun _ _ _ h => h) (Or.inl ⟨by rfl, ?hyf27⟩) hHeld ?_
      case hyf27 => (intro w hSw; (try dsimp only at hSw); go_simp; try (with_reducible rfl))
      (try simp only [Act.put, List.getElem_toArray, List.getElem_cons_succ, List.getElem_cons_zero, List.setIfInBounds_toArray, List.set_cons_zero, List.set_cons_succ])
      refine F1_in (i1 := 30) (d1 := 17) (I := JB wr [.float .f64 0, .float .f64 0, .float .f64 0, .float .f64 0] (fun _ => True)) (JB.start hHeld.1 trivial) ?_
      refine F1_step (c := 6) (I' := fun v x u => v = .float .f64 fw ∧ JB wr [.float .f64 0, .float .f64 0, .float .f64 0, .float .f64 0] (fun _ => True) x u) rfl (by kernel_rfl) rfl rfl (jb_flt alw_e64 (fun _ _ _ h => h) (fun u k => HS.out u k) rfl ⟨rfl, rfl, rfl⟩) (fun v x w h => HS.out w h.2.k) (fun xF uF hJ K hK9 => ?_) (fun v2 => ?_)
      · rcases xF with _ | xF
        all_goals (
          (try simp only [fpt, Act.put, List.getElem_toArray, List.getElem_cons_succ, List.getElem_cons_zero, List.setIfInBounds_toArray, List.set_cons_zero, List.set_cons_succ])
          go_simp
          go_wp2_with fail
          refine (KW.out _).mono ?_
          rintro e u1 ⟨rfl, rfl⟩
          exact hK9.out _ _ _ (by first | rfl | (simp only [fpt, Act.put, List.getElem_toArray, List.getElem_cons_succ, List.getElem_cons_zero, List.setIfInBounds_toArray, List.set_cons_zero, List.set_cons_succ])) (⟨rfl, hJ⟩)
        )
      refine fun xG wG hG => ?_
      obtain ⟨rfl, hG⟩ := hG
      revert xG wG
      show F1 _ _ _ _ _ _ _ _ _ _ _ (JB wr [.float .f64 0, .float .f64 0, .float .f64 0, .float .f64 0] (fun _ => True))
      (try simp only [Act.put, List.getElem_toArray, List.getElem_cons_succ, List.getElem_cons_zero, List.setIfInBounds_toArray, List.set_cons_zero, List.set_cons_succ])
      refine F1_step (c := 14) (I' := fun v x u => v = .float .f64 fg ∧ JB wr [.float .f64 0, .float .f64 0, .float .f64 0, .float .f64 0] (fun _ => True) x u) rfl (by kernel_rfl) rfl rfl (jb_flt alw_e64 (fun _ _ _ h => h) (fun u k => HS.out u k) rfl ⟨rfl, rfl, rfl⟩) (fun v x w h => HS.out w h.2.k) (fun xF uF hJ K hK9 => ?_) (fun v2 => ?_)
      · rcases xF with _ | xF
        all_goals (
          (try simp only [fpt, Act.put, List.getElem_toArray, List.getElem_cons_succ, List.getElem_cons_zero, List.setIfInBounds_toArray, List.set_cons_zero, List.set_cons_succ])
          go_simp
          go_wp2_with fail
          refine (KX.out _).mono ?_
          rintro e u1 ⟨rfl, rfl⟩
          exact hK9.out _ _ _ (by first | rfl | (simp only [fpt, Act.put, List.getElem_toArray, List.getElem_cons_succ, List.getElem_cons_zero, List.setIfInBounds_toArray, List.set_cons_zero, List.set_cons_succ])) (⟨rfl, hJ⟩)
        )
      refine fun xG wG hG => ?_
      obtain ⟨rfl, hG⟩ := hG
      revert xG wG
      show F1 _ _ _ _ _ _ _ _ _ _ _ (JB wr [.float .f64 0, .float .f64 0, .float .f64 0, .float .f64 0] (fun _ => True))
      (try simp only [Act.put, List.getElem_toArray, List.getElem_cons_succ, List.getElem_cons_zero, List.setIfInBounds_toArray, List.set_cons_zero, List.set_cons_succ])
      refine F1_step (c := 21) (I' := fun v x u => v = .float .f64 0 ∧ JB wr [.float .f64 0, .float .f64 0, .float .f64 0, .float .f64 0] (fun _ => True) x u) rfl (by kernel_rfl) rfl rfl (jb_flt alw_e64 (fun _ _ _ h => h) (fun u k => HS.out u k) rfl ⟨rfl, rfl, rfl⟩) (fun v x w h => HS.out w h.2.k) (fun xF uF hJ K hK9 => ?_) (fun v2 => ?_)
      · rcases xF with _ | xF
        all_goals (
          (try simp only [fpt, Act.put, List.getElem_toArray, List.getElem_cons_succ, List.getElem_cons_zero, List.setIfInBounds_toArray, List.set_cons_zero, List.set_cons_succ])
          go_simp
          go_wp2_with fail
          refine (K0.out _).mono ?_
          rintro e u1 ⟨rfl, rfl⟩
          exact hK9.out _ _ _ (by first | rfl | (simp only [fpt, Act.put, List.getElem_toArray, List.getElem_cons_succ, List.getElem_cons_zero, List.setIfInBounds_toArray, List.set_cons_zero, List.set_cons_succ])) (⟨rfl, hJ⟩)
        )
      refine fun xG wG hG => ?_
      obtain ⟨rfl, hG⟩ := hG
      revert xG wG
      show F1 _ _ _ _ _ _ _ _ _ _ _ (JB wr [.float .f64 0, .float .f64 0, .float .f64 0, .float .f64 0] (fun _ => True))
      (try simp only [Act.put, List.getElem_toArray, List.getElem_cons_succ, List.getElem_cons_zero, List.setIfInBounds_toArray, List.set_cons_zero, List.set_cons_succ])
      refine F1_step (c := 28) (I' := fun v x u => v = .float .f64 0 ∧ JB wr [.float .f64 0, .float .f64 0, .float .f64 0, .float .f64 0] (fun _ => True) x u) rfl (by kernel_rfl) rfl rfl (jb_flt alw_e64 (fun _ _ _ h => h) (fun u k => HS.out u k) rfl ⟨rfl, rfl, rfl⟩) (fun v x w h => HS.out w h.2.k) (fun xF uF hJ K hK9 => ?_) (fun v2 => ?_)
      · rcases xF with _ | xF
        all_goals (
          (try simp only [fpt, Act.put, List.getElem_toArray, List.getElem_cons_succ, List.getElem_cons_zero, List.setIfInBounds_toArray, List.set_cons_zero, List.set_cons_succ])
          go_simp
          go_wp2_with fail
          refine (K0.out _).mono ?_
          rintro e u1 ⟨rfl, rfl⟩
          exact hK9.out _ _ _ (by first | rfl | (simp only [fpt, Act.put, List.getElem_toArray, List.getElem_cons_succ, List.getElem_cons_zero, List.setIfInBounds_toArray, List.set_cons_zero, List.set_cons_succ])) (⟨rfl, hJ⟩)
        )
      refine fun xG wG hG => ?_
      obtain ⟨rfl, hG⟩ := hG
      revert xG wG
      show F1 _ _ _ _ _ _ _ _ _ _ _ (JB wr [.float .f64 0, .float .f64 0, .float .f64 0, .float .f64 0] (fun _ => True))
      (try simp only [Act.put, List.getElem_toArray, List.getElem_cons_succ, List.getElem_cons_zero, List.setIfInBounds_toArray, List.set_cons_zero, List.set_cons_succ])
      refine F1_step (c := 29) (I' := fun v x u => v = .agg #[.float .f64 fw, .float .f64 fg, .float .f64 0, .float .f64 0] ∧ JB wr [.float .f64 0, .float .f64 0, .float .f64 0, .float .f64 0] (fun _ => True) x u) rfl (by kernel_rfl) rfl rfl (jb_flt alw_e64 (fun _ _ _ h => h) (fun u k => HS.out u k) rfl ⟨rfl, rfl, rfl⟩) (fun v x w h => HS.out w h.2.k) (fun xF uF hJ K hK9 => ?_) (fun v2 => ?_)
      · rcases xF with _ | xF
        all_goals (
          (try simp only [fpt, Act.put, List.getElem_toArray, List.getElem_cons_succ, List.getElem_cons_zero, List.setIfInBounds_toArray, List.set_cons_zero, List.set_cons_succ])
          go_simp
          exact hK9.out _ _ _ (by first | rfl | (simp only [fpt, Act.put, List.getElem_toArray, List.getElem_cons_succ, List.getElem_cons_zero, List.setIfInBounds_toArray, List.set_cons_zero, List.set_cons_succ])) (⟨rfl, hJ⟩)
        )
      refine fun xG wG hG => ?_
      obtain ⟨rfl, hG⟩ := hG
      revert xG wG
      show F1 _ _ _ _ _ _ _ _ _ _ _ (JB wr [.float .f64 0, .float .f64 0, .float .f64 0, .float .f64 0] (fun _ => True))
      (try simp only [Act.put, List.getElem_toArray, List.getElem_cons_succ, List.getElem_cons_zero, List.setIfInBounds_toArray, List.set_cons_zero, List.set_cons_succ])
      refine F1_end (.inr (by kernel_rfl)) (jb_flt alw_e64 (fun _ _ _ h => h) (fun u k => HS.out u k) rfl ⟨rfl, rfl, rfl⟩) (fun xF uF hJ => ?_)
      obtain ⟨B17, rfl, ob, bb⟩ := hJ.n _ rfl
      have kU := hJ.k
      clear hJ
      (try simp only [Act.put, List.getElem_toArray, List.getElem_cons_succ, List.getElem_cons_zero, List.setIfInBounds_toArray, List.set_cons_zero, List.set_cons_succ])
      have e0 := bb.c 0 _ rfl
      have e1 := bb.c 1 _ rfl
      have e2 := bb.c 2 _ rfl
      have e3 := bb.c 3 _ rfl
      have ef := bb.fz
      obtain ⟨M, hM⟩ : ∃ Y, Y = ((((uF.setCell ⟨B17, 0, none⟩ (.float .f64 fw)).setCell ⟨B17, 1, none⟩ (.float .f64 fg)).setCell ⟨B17, 2, none⟩ (.float .f64 0)).setCell ⟨B17, 3, none⟩ (.float .f64 0)) := ⟨_, rfl⟩
      have kM : Kept wr M := by rw [hM]; exact ((((kU.setCell ob _).setCell ob _).setCell ob _).setCell ob _)
      have b17 : Bk M B17 [.float .f64 fw, .float .f64 fg, .float .f64 0, .float .f64 0] := by rw [hM]; exact ((((bb.set 0 _).set 1 _).set 2 _).set 3 _)
      refine wpAnyD_step (i := 31) (by kernel_rfl) rfl (fun K hK9 => ?_)
      go_simp
      rw [← hM]
      refine hK9.out _ _ (HS.out _ kM) (fun hH2 => ?_)
      clear hK9 K
      (try simp only [Act.put, List.getElem_toArray, List.getElem_cons_succ, List.getElem_cons_zero, List.setIfInBounds_toArray, List.set_cons_zero, List.set_cons_succ])
      clear hM ef e0 e1 e2 e3
      refine wpAnyD_done (by kernel_rfl) ?_ _
      (try simp only [Act.put, List.getElem_toArray, List.getElem_cons_succ, List.getElem_cons_zero, List.setIfInBounds_toArray, List.set_cons_zero, List.set_cons_succ])
      clear hHeld hH2 bb kU HS KW KX K0
      have h14 := (((H14.out).gs hG hn14.out).kept kM)
      have a0 := h14.c 0 _ rfl
      have a1 := h14.c 1 _ rfl
      have a2 := h14.c 2 _ rfl
      have a3 := h14.c 3 _ rfl
      have a4 := h14.c 4 _ rfl
      have a5 := h14.c 5 _ rfl
      have a6 := h14.c 6 _ rfl
      have a7 := h14.c 7 _ rfl
      have c0 := b17.c 0 _ rfl
      have c1 := b17.c 1 _ rfl
      have c2 := b17.c 2 _ rfl
      have c3 := b17.c 3 _ rfl
      go_upto_region 9 with (first | (go_at_call 36; refine (KG.out _).mono ?_; rintro e u8 ⟨rfl, k8⟩; have x1 := (b17.kept k8).c 1 _ rfl; have xf := (b17.kept k8).fz))
      obtain ⟨N, hN⟩ : ∃ N, N = u8.setCell ⟨B17, 1, none⟩ (.float .f64 fg) := ⟨_, rfl⟩
      have kN : Kept M u8 ∧ Kept wr N := by rw [hN]; exact ⟨k8, (kM.trans k8).setCell ob _⟩
      have n17 : Bk N B17 [.float .f64 fw, .float .f64 fg, .float .f64 0, .float .f64 0] := by rw [hN]; exact (b17.kept k8).set 1 _
      have n14 : Bk N B14 [.float .f64 fr, .float .f64 0, .float .f64 0, .float .f64 0, .float .f64 0, .float .f64 0, .float .f64 0, .float .f64 0] := ((H14.out).gs hG hn14.out).kept kN.2
      rw [← hN]
      clear hN x1 xf k8 a0 a1 a2 a3 a4 a5 a6 a7 c0 c1 c2 c3
      have a0 := n14.c 0 _ rfl
      have a1 := n14.c 1 _ rfl
      have a2 := n14.c 2 _ rfl
      have a3 := n14.c 3 _ rfl
      have a4 := n14.c 4 _ rfl
      have a5 := n14.c 5 _ rfl
      have a6 := n14.c 6 _ rfl
      have a7 := n14.c 7 _ rfl
      have c0 := n17.c 0 _ rfl
      have c1 := n17.c 1 _ rfl
      have c2 := n17.c 2 _ rfl
      have c3 := n17.c 3 _ rfl
      go_upto_region 10 with (first | (go_at_call 58; refine (KL.out _).mono ?_; rintro e u9 ⟨rfl, k9⟩; have x0 := (n17.kept k9).c 0 _ rfl; have x1 := (n17.kept k9).c 1 _ rfl; have x2 := (n17.kept k9).c 2 _ rfl; have x3 := (n17.kept k9).c 3 _ rfl; have xf := (n17.kept k9).fz))
      obtain ⟨O, hO⟩ : ∃ N, N = ((((u9.setCell ⟨B17, 0, none⟩ (.float .f64 qq)).setCell ⟨B17, 1, none⟩ (.float .f64 fg)).setCell ⟨B17, 2, none⟩ (.float .f64 0)).setCell ⟨B17, 3, none⟩ (.float .f64 0)) := ⟨_, rfl⟩
      have kO : Kept wr O := by rw [hO]; exact (((((kN.2.trans k9).setCell ob _).setCell ob _).setCell ob _).setCell ob _)
      have p17 : Bk O B17 [.float .f64 qq, .float .f64 fg, .float .f64 0, .float .f64 0] := by rw [hO]; exact (((((n17.kept k9).set 0 _).set 1 _).set 2 _).set 3 _)
      rw [← hO]
      clear hO x0 x1 x2 x3 xf k9 a0 a1 a2 a3 a4 a5 a6 a7 c0 c1 c2 c3
      have c0 := p17.c 0 _ rfl
      have c1 := p17.c 1 _ rfl
      have c2 := p17.c 2 _ rfl
      have c3 := p17.c 3 _ rfl
      go_upto_region 13 with (first | (go_at_call 37; refine (KA2.out _ _).mono ?_; rintro e v9 ⟨rfl, k10⟩))
      clear c0 c1 c2 c3
      have kv := kO.trans k10
      have w17 := p17.kept k10
      have w13 := ((H13.out).gs hG hE.out.2.1).kept kv
      have oa := o1.kept kv
      have ob2 := o2.kept kv
      have oc := o3.kept kv
      have n17' : Hid (B17 ∉ [gw, g1, g2]) := (show B17 ∉ [gw, g1, g2] from by have h1 := o1.lt; have h2 := o2.lt; have h3 := o3.lt; simp only [List.mem_cons, List.not_mem_nil, or_false]; omega)
      have HS : Hid (∀ u, Gs [gw, g1, g2] v9 u → Gs [gw, g1, g2] v9 u ∧ u.cell? ⟨B13, 0, none⟩ = some (.slice (some ⟨gw, 0, none⟩) l l) ∧ u.cell? ⟨B13, 1, none⟩ = some (.slice (some ⟨g1, 0, none⟩) l l) ∧ u.cell? ⟨B13, 2, none⟩ = some (.slice (some ⟨g2, 0, none⟩) l l) ∧ u.cell? ⟨B17, 0, none⟩ = some (.float .f64 qq) ∧ u.cell? ⟨B17, 2, none⟩ = some (.float .f64 0) ∧ u.cell? ⟨B17, 3, none⟩ = some (.float .f64 0)) := fun u q => ⟨q, (w13.gs q hE.out.2.1).c 0 _ rfl, (w13.gs q hE.out.2.1).c 1 _ rfl, (w13.gs q hE.out.2.1).c 2 _ rfl, (w17.gs q n17'.out).c 0 _ rfl, (w17.gs q n17'.out).c 2 _ rfl, (w17.gs q n17'.out).c 3 _ rfl⟩
      refine wp_region_late [] (fun u => Gs [gw, g1, g2] v9 u ∧ u.cell? ⟨B13, 0, none⟩ = some (.slice (some ⟨gw, 0, none⟩) l l) ∧ u.cell? ⟨B13, 1, none⟩ = some (.slice (some ⟨g1, 0, none⟩) l l) ∧ u.cell? ⟨B13, 2, none⟩ = some (.slice (some ⟨g2, 0, none⟩) l l) ∧ u.cell? ⟨B17, 0, none⟩ = some (.float .f64 qq) ∧ u.cell? ⟨B17, 2, none⟩ = some (.float .f64 0) ∧ u.cell? ⟨B17, 3, none⟩ = some (.float .f64 0)) (by kernel_rfl) (HS.out _ ((Kept.refl v9).drew.gs _)) (fun hHeld => ?_)
      refine wpAnyD_take (i := 0) (v := ?_) rfl (by kernel_rfl) (by kernel_rfl) (by kernel_rfl) (by kernel_rfl) (fun _ _ _ h => h) (Or.inl ⟨by rfl, ?hyg0⟩) hHeld ?_
      case hyg0 => (intro w hSw; (try dsimp only at hSw); go_simp; try (with_reducible rfl))
      (try simp only [Act.put, List.getElem_toArray, List.getElem_cons_succ, List.getElem_cons_zero, List.setIfInBounds_toArray, List.set_cons_zero, List.set_cons_succ])
      refine wpAnyD_take (i := 1) (v := ?_) rfl (by kernel_rfl) (by kernel_rfl) (by kernel_rfl) (by kernel_rfl) (fun _ _ _ h => h) (Or.inl ⟨by rfl, ?hyg1⟩) hHeld ?_
      case hyg1 => (intro w hSw; (try dsimp only at hSw); go_simp; try (with_reducible rfl))
      (try simp only [Act.put, List.getElem_toArray, List.getElem_cons_succ, List.getElem_cons_zero, List.setIfInBounds_toArray, List.set_cons_zero, List.set_cons_succ])
      refine wpAnyD_take (i := 2) (v := ?_) rfl (by kernel_rfl) (by kernel_rfl) (by kernel_rfl) (by kernel_rfl) (fun _ _ _ h => h) (Or.inl ⟨by rfl, ?hyg2⟩) hHeld ?_
      case hyg2 => (intro w hSw; (try dsimp only at hSw); go_simp; try (with_reducible rfl))
      (try simp only [Act.put, List.getElem_toArray, List.getElem_cons_succ, List.getElem_cons_zero, List.setIfInBounds_toArray, List.set_cons_zero, List.set_cons_succ])
      refine wpAnyD_take (i := 3) (v := ?_) rfl (by kernel_rfl) (by kernel_rfl) (by kernel_rfl) (by kernel_rfl) (fun _ _ _ h => h) (Or.inl ⟨by rfl, ?hyg3⟩) hHeld ?_
      case hyg3 => (intro w hSw; (try dsimp only at hSw); go_simp; try (with_reducible rfl))
      (try simp only [Act.put, List.getElem_toArray, List.getElem_cons_succ, List.getElem_cons_zero, List.setIfInBounds_toArray, List.set_cons_zero, List.set_cons_succ])
      refine wpAnyD_take (i := 4) (v := ?_) rfl (by kernel_rfl) (by kernel_rfl) (by kernel_rfl) (by kernel_rfl) (fun _ _ _ h => h) (Or.inl ⟨by rfl, ?hyg4⟩) hHeld ?_
      case hyg4 => (intro w hSw; (try dsimp only at hSw); go_simp; try (with_reducible rfl))
      (try simp only [Act.put, List.getElem_toArray, List.getElem_cons_succ, List.getElem_cons_zero, List.setIfInBounds_toArray, List.set_cons_zero, List.set_cons_succ])
      refine wpAnyD_take (i := 5) (v := ?_) rfl (by kernel_rfl) (by kernel_rfl) (by kernel_rfl) (by kernel_rfl) (fun _ _ _ h => h) (Or.inl ⟨by rfl, ?hyg5⟩) hHeld ?_
      case hyg5 => (intro w hSw; (try dsimp only at hSw); go_simp; try (with_reducible rfl))
      (try simp only [Act.put, List.getElem_toArray, List.getElem_cons_succ, List.getElem_cons_zero, List.setIfInBounds_toArray, List.set_cons_zero, List.set_cons_succ])
      refine wpAnyD_take (i := 6) (v := ?_) rfl (by kernel_rfl) (by kernel_rfl) (by kernel_rfl) (by kernel_rfl) (fun _ _ _ h => h) (Or.inl ⟨by rfl, ?hyg6⟩) hHeld ?_
      case hyg6 => (intro w hSw; (try dsimp only at hSw); go_simp; try (with_reducible rfl))
      (try simp only [Act.put, List.getElem_toArray, List.getElem_cons_succ, List.getElem_cons_zero, List.setIfInBounds_toArray, List.set_cons_zero, List.set_cons_succ])
      refine wpAnyD_take (i := 7) (v := ?_) rfl (by kernel_rfl) (by kernel_rfl) (by kernel_rfl) (by kernel_rfl) (fun _ _ _ h => h) (Or.inl ⟨by rfl, ?hyg7⟩) hHeld ?_
      case hyg7 => (intro w hSw; (try dsimp only at hSw); go_simp; try (with_reducible rfl))
      (try simp only [Act.put, List.getElem_toArray, List.getElem_cons_succ, List.getElem_cons_zero, List.setIfInBounds_toArray, List.set_cons_zero, List.set_cons_succ])
      refine wpAnyD_take (i := 8) (v := ?_) rfl (by kernel_rfl) (by kernel_rfl) (by kernel_rfl) (by kernel_rfl) (fun _ _ _ h => h) (Or.inl ⟨by rfl, ?hyg8⟩) hHeld ?_
      case hyg8 => (intro w hSw; (try dsimp only at hSw); go_simp; try (with_reducible rfl))
      (try simp only [Act.put, List.getElem_toArray, List.getElem_cons_succ, List.getElem_cons_zero, List.setIfInBounds_toArray, List.set_cons_zero, List.set_cons_succ])
      refine wpAnyD_take (i := 9) (v := ?_) rfl (by kernel_rfl) (by kernel_rfl) (by kernel_rfl) (by kernel_rfl) (fun _ _ _ h => h) (Or.inl ⟨by rfl, ?hyg9⟩) hHeld ?_
      case hyg9 => (intro w hSw; (try dsimp only at hSw); go_simp; try (with_reducible rfl))
      (try simp only [Act.put, List.getElem_toArray, List.getElem_cons_succ, List.getElem_cons_zero, List.setIfInBounds_toArray, List.set_cons_zero, List.set_cons_succ])
      refine wpAnyD_take (i := 10) (v := ?_) rfl (by kernel_rfl) (by kernel_rfl) (by kernel_rfl) (by kernel_rfl) (fun _ _ _ h => h) (Or.inl ⟨by rfl, ?hyg10⟩) hHeld ?_
      case hyg10 => (intro w hSw; (try dsimp only at hSw); go_simp; try (with_reducible rfl))
      (try simp only [Act.put, List.getElem_toArray, List.getElem_cons_succ, List.getElem_cons_zero, List.setIfInBounds_toArray, List.set_cons_zero, List.set_cons_succ])
      refine wpAnyD_take (i := 11) (v := ?_) rfl (by kernel_rfl) (by kernel_rfl) (by kernel_rfl) (by kernel_rfl) (fun _ _ _ h => h) (Or.inl ⟨by rfl, ?hyg11⟩) hHeld ?_
      case hyg11 => (intro w hSw; (try dsimp only at hSw); go_simp; try (with_reducible rfl))
      (try simp only [Act.put, List.getElem_toArray, List.getElem_cons_succ, List.getElem_cons_zero, List.setIfInBounds_toArray, List.set_cons_zero, List.set_cons_succ])
      refine wpAnyD_take (i := 13) (v := ?_) rfl (by kernel_rfl) (by kernel_rfl) (by kernel_rfl) (by kernel_rfl) (fun _ _ _ h => h) (Or.inl ⟨by rfl, ?hyg13⟩) hHeld ?_
      case hyg13 => (intro w hSw; (try dsimp only at hSw); go_simp; try (with_reducible rfl))
      (try simp only [Act.put, List.getElem_toArray, List.getElem_cons_succ, List.getElem_cons_zero, List.setIfInBounds_toArray, List.set_cons_zero, List.set_cons_succ])
      refine wpAnyD_take (i := 14) (v := ?_) rfl (by kernel_rfl) (by kernel_rfl) (by kernel_rfl) (by kernel_rfl) (fun _ _ _ h => h) (Or.inl ⟨by rfl, ?hyg14⟩) hHeld ?_
      case hyg14 => (intro w hSw; (try dsimp only at hSw); go_simp; try (with_reducible rfl))
      (try simp only [Act.put, List.getElem_toArray, List.getElem_cons_succ, List.getElem_cons_zero, List.setIfInBounds_toArray, List.set_cons_zero, List.set_cons_succ])
      refine wpAnyD_take (i := 15) (v := ?_) rfl (by kernel_rfl) (by kernel_rfl) (by kernel_rfl) (by kernel_rfl) (fun _ _ _ h => h) (Or.inl ⟨by rfl, ?hyg15⟩) hHeld ?_
      case hyg15 => (intro w hSw; (try dsimp only at hSw); go_simp; try (with_reducible rfl))
      (try simp only [Act.put, List.getElem_toArray, List.getElem_cons_succ, List.getElem_cons_zero, List.setIfInBounds_toArray, List.set_cons_zero, List.set_cons_succ])
      refine wpAnyD_take (i := 17) (v := ?_) rfl (by kernel_rfl) (by kernel_rfl) (by kernel_rfl) (by kernel_rfl) (fun _ _ _ h => h) (Or.inl ⟨by rfl, ?hyg17⟩) hHeld ?_
      case hyg17 => (intro w hSw; (try dsimp only at hSw); go_simp; try (with_reducible rfl))
      (try simp only [Act.put, List.getElem_toArray, List.getElem_cons_succ, List.getElem_cons_zero, List.setIfInBounds_toArray, List.set_cons_zero, List.set_cons_succ])
      refine wpAnyD_take (i := 18) (v := ?_) rfl (by kernel_rfl) (by kernel_rfl) (by kernel_rfl) (by kernel_rfl) (fun _ _ _ h => h) (Or.inl ⟨by rfl, ?hyg18⟩) hHeld ?_
      case hyg18 => (intro w hSw; (try dsimp only at hSw); go_simp; try (with_reducible rfl))
      (try simp only [Act.put, List.getElem_toArray, List.getElem_cons_succ, List.getElem_cons_zero, List.setIfInBounds_toArray, List.set_cons_zero, List.set_cons_succ])
      refine wpAnyD_take (i := 19) (v := ?_) rfl (by kernel_rfl) (by kernel_rfl) (by kernel_rfl) (by kernel_rfl) (fun _ _ _ h => h) (Or.inl ⟨by rfl, ?hyg19⟩) hHeld ?_
      case hyg19 => (intro w hSw; (try dsimp only at hSw); go_simp; try (with_reducible rfl))
      (try simp only [Act.put, List.getElem_toArray, List.getElem_cons_succ, List.getElem_cons_zero, List.setIfInBounds_toArray, List.set_cons_zero, List.set_cons_succ])
      refine wpAnyD_step (i := 12) (by kernel_rfl) rfl (fun K hK9 => ?_)
      go_simp
      go_wp2_with fail
      refine (KO.out _).mono ?_
      rintro e ua ⟨rfl, rfl⟩
      refine hK9.out _ _ (hHeld) (fun hHa => ?_)
      clear hK9 K
      (try simp only [Act.put, List.getElem_toArray, List.getElem_cons_succ, List.getElem_cons_zero, List.setIfInBounds_toArray, List.set_cons_zero, List.set_cons_succ])
      refine wpAnyD_step (i := 16) (by kernel_rfl) rfl (fun K hK9 => ?_)
      go_simp
      go_wp2_with fail
      refine (KO0.out _).mono ?_
      rintro e ub ⟨rfl, rfl⟩
      refine hK9.out _ _ (hHa) (fun hHb => ?_)
      clear hK9 K
      (try simp only [Act.put, List.getElem_toArray, List.getElem_cons_succ, List.getElem_cons_zero, List.setIfInBounds_toArray, List.set_cons_zero, List.set_cons_succ])
      refine wpAnyD_step (i := 20) (by kernel_rfl) rfl (fun K hK9 => ?_)
      go_simp
      go_wp2_with fail
      refine (KO0.out _).mono ?_
      rintro e uc ⟨rfl, rfl⟩
      refine hK9.out _ _ (hHb) (fun hHc => ?_)
      clear hK9 K
      (try simp only [Act.put, List.getElem_toArray, List.getElem_cons_succ, List.getElem_cons_zero, List.setIfInBounds_toArray, List.set_cons_zero, List.set_cons_succ])
      refine wpAnyD_take (i := 21) (v := ?_) rfl (by kernel_rfl) (by kernel_rfl) (by kernel_rfl) (by kernel_rfl) (fun _ _ _ h => h) (Or.inl ⟨by rfl, ?hyh21⟩) hHc ?_
      case hyh21 => (intro w hSw; (try dsimp only at hSw); go_simp; try (with_reducible rfl))
      (try simp only [Act.put, List.getElem_toArray, List.getElem_cons_succ, List.getElem_cons_zero, List.setIfInBounds_toArray, List.set_cons_zero, List.set_cons_succ])
      have eD : Kept v9 v9.drew := (Kept.refl v9).drew
      have P0 := oa.kept eD
      have P1 := ob2.kept eD
      have P2 := oc.kept eD
      have GD : Gs [gw, g1, g2] v9 v9.drew := eD.gs _
      have hz0 : Hid ((List.replicate l (0 : Int)).set i 0 = List.replicate l 0) := (show (List.replicate l (0 : Int)).set i 0 = List.replicate l 0 from by apply List.ext_getElem <;> simp [List.getElem_set])
      clear oa ob2 oc eD
      generalize v9.drew = vd at *
      have cg := P0.cell i (by rw [stl_len]; exact hi)
      have fg' := P0.free i
      obtain ⟨Z0', hZ0'⟩ : ∃ Y, Y = (vd).setCell ⟨gw, i, none⟩ (.int .i64 ov) := ⟨_, rfl⟩
      have G0 : Gs [gw, g1, g2] v9 Z0' := by rw [hZ0']; exact GD.setCell (.inl (by simp)) _
      have Q0 : Own Z0' gw l (stl l (fun i => of64 (q i)) (i + 1)) := by rw [hZ0', ← hst'.out]; exact P0.set i ov
      have Q1 := P1.setOther (p := ⟨gw, i, none⟩) (Ne.symm hD.out.1) (.int .i64 ov)
      rw [← hZ0'] at Q1
      have Q2 := P2.setOther (p := ⟨gw, i, none⟩) (Ne.symm hD.out.2.1) (.int .i64 ov)
      rw [← hZ0'] at Q2
      clear P0 P1 P2
      refine wpAnyD_step (i := 22) (by kernel_rfl) rfl (fun K hK9 => ?_)
      go_simp
      rw [← hZ0']
      refine hK9.out _ _ (HS.out _ G0) (fun hHx0 => ?_)
      clear hK9 K
      (try simp only [Act.put, List.getElem_toArray, List.getElem_cons_succ, List.getElem_cons_zero, List.setIfInBounds_toArray, List.set_cons_zero, List.set_cons_succ])
      clear cg fg' hZ0'
      have P0 := Q0
      have P1 := Q1
      have P2 := Q2
      clear Q0 Q1 Q2
      refine wpAnyD_take (i := 23) (v := ?_) rfl (by kernel_rfl) (by kernel_rfl) (by kernel_rfl) (by kernel_rfl) (fun _ _ _ h => h) (Or.inl ⟨by rfl, ?hyt123⟩) hHx0 ?_
      case hyt123 => (intro w hSw; (try dsimp only at hSw); go_simp; try (with_reducible rfl))
      (try simp only [Act.put, List.getElem_toArray, List.getElem_cons_succ, List.getElem_cons_zero, List.setIfInBounds_toArray, List.set_cons_zero, List.set_cons_succ])
      have cg := P1.cell i (by simpa using hi)
      have fg' := P1.free i
      obtain ⟨Z1', hZ1'⟩ : ∃ Y, Y = (Z0').setCell ⟨g1, i, none⟩ (.int .i64 0) := ⟨_, rfl⟩
      have G1 : Gs [gw, g1, g2] v9 Z1' := by rw [hZ1']; exact G0.setCell (.inl (by simp)) _
      have Q0 := P0.setOther (p := ⟨g1, i, none⟩) hD.out.1 (.int .i64 0)
      rw [← hZ1'] at Q0
      have Q1 : Own Z1' g1 l (List.replicate l 0) := by have h := P1.set i 0; rw [hz0.out] at h; rw [hZ1']; exact h
      have Q2 := P2.setOther (p := ⟨g1, i, none⟩) (Ne.symm hD.out.2.2.1) (.int .i64 0)
      rw [← hZ1'] at Q2
      clear P0 P1 P2
      refine wpAnyD_step (i := 24) (by kernel_rfl) rfl (fun K hK9 => ?_)
      go_simp
      rw [← hZ1']
      refine hK9.out _ _ (HS.out _ G1) (fun hHx1 => ?_)
      clear hK9 K
      (try simp only [Act.put, List.getElem_toArray, List.getElem_cons_succ, List.getElem_cons_zero, List.setIfInBounds_toArray, List.set_cons_zero, List.set_cons_succ])
      clear cg fg' hZ1'
      have P0 := Q0
      have P1 := Q1
      have P2 := Q2
      clear Q0 Q1 Q2
      refine wpAnyD_take (i := 25) (v := ?_) rfl (by kernel_rfl) (by kernel_rfl) (by kernel_rfl) (by kernel_rfl) (fun _ _ _ h => h) (Or.inl ⟨by rfl, ?hyt225⟩) hHx1 ?_
      case hyt225 => (intro w hSw; (try dsimp only at hSw); go_simp; try (with_reducible rfl))
      (try simp only [Act.put, List.getElem_toArray, List.getElem_cons_succ, List.getElem_cons_zero, List.setIfInBounds_toArray, List.set_cons_zero, List.set_cons_succ])
      have cg := P2.cell i (by simpa using hi)
      have fg' := P2.free i
      obtain ⟨Z2', hZ2'⟩ : ∃ Y, Y = (Z1').setCell ⟨g2, i, none⟩ (.int .i64 0) := ⟨_, rfl⟩
      have G2 : Gs [gw, g1, g2] v9 Z2' := by rw [hZ2']; exact G1.setCell (.inl (by simp)) _
      have Q0 := P0.setOther (p := ⟨g2, i, none⟩) hD.out.2.1 (.int .i64 0)
      rw [← hZ2'] at Q0
      have Q1 := P1.setOther (p := ⟨g2, i, none⟩) hD.out.2.2.1 (.int .i64 0)
      rw [← hZ2'] at Q1
      have Q2 : Own Z2' g2 l (List.replicate l 0) := by have h := P2.set i 0; rw [hz0.out] at h; rw [hZ2']; exact h
      clear P0 P1 P2
      refine wpAnyD_step (i := 26) (by kernel_rfl) rfl (fun K hK9 => ?_)
      go_simp
      rw [← hZ2']
      refine hK9.out _ _ (HS.out _ G2) (fun hHx2 => ?_)
      clear hK9 K
      (try simp only [Act.put, List.getElem_toArray, List.getElem_cons_succ, List.getElem_cons_zero, List.setIfInBounds_toArray, List.set_cons_zero, List.set_cons_succ])
      clear cg fg' hZ2'
      have P0 := Q0
      have P1 := Q1
      have P2 := Q2
      clear Q0 Q1 Q2
      refine wpAnyD_done (by kernel_rfl) ?_ _
      (try simp only [Act.put, List.getElem_toArray, List.getElem_cons_succ, List.getElem_cons_zero, List.setIfInBounds_toArray, List.set_cons_zero, List.set_cons_succ])
      clear hHeld hHa hHb hHc hHx0 hHx1 hHx2 HS
      go_wp2_with fail
      go_roundw
      case rel => exact ⟨i + 1, by omega, by go_num, (wr_.trans kv).gsn (fun j hj => by simp only [List.mem_cons, List.not_mem_nil, or_false] at hj; have := hD.out; omega) G2, (hG.trans (kv.gs _)).trans G2, P0, P1, P2⟩
      case measure => simp [intOf]; omega
    · obtain rfl : i = l := by omega
      have h3 := (H3.out).gs hG hE.out.2.2.2.2.2.1
      have h10 := (H10.out).gs hG hE.out.2.2.2.2.1
      have h6 := (H6.out).gs hG hE.out.2.2.2.2.2.2
      have z0 := h3.c 0 _ rfl
      have a0 := h10.c 0 _ rfl
      have e0 := h6.c 0 _ rfl
      have a1 := h10.c 1 _ rfl
      have e1 := h6.c 1 _ rfl
      have a2 := h10.c 2 _ rfl
      have e2 := h6.c 2 _ rfl
      have a3 := h10.c 3 _ rfl
      have e3 := h6.c 3 _ rfl
      have ef := h6.fz
      have n6 : Hid (gw ≠ B6) := (show gw ≠ B6 from fun e => hE.out.2.2.2.2.2.2 (by simp [e]))
      clear h3 h10 h6
      go_wp2_with fail
      exact bodyPost_ret (v := .tuple #[.agg #[.int .i64 (R : Int), .int .i64 (C : Int), .int .i64 n, .slice (some ⟨gw, 0, none⟩) i i], .slice none 0 0, .int .i64 0, .int .i64 0]) (by simp [results, Try.results14, go_sem, e0, e1, e2, e3]) rfl ⟨gw, rfl, hD.out.2.2.2.1, (((o1.setOther n6.out _).setOther n6.out _).setOther n6.out _).setOther n6.out _, (((wr_.setCell o6.out _).setCell o6.out _).setCell o6.out _).setCell o6.out _⟩
end Go.Proofs.Ytojhhimmfnccjaa
