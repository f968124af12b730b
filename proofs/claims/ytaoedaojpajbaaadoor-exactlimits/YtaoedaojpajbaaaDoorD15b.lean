/- The walk of exact's sum of two terms. -/
import Derived.Test.YtaoedaojpajbaaaDoorD15
namespace Go.Proofs.YtaoedaojpajbaaaDoor
open Go.ChangeShapes Go.WideShapes Go.ChangeAt Go.RowKit
set_option linter.unusedVariables false
set_option linter.unusedSimpArgs false

set_option maxHeartbeats 4000000 in
set_option maxRecDepth 100000 in
theorem sum_NE (w : World) (T : Nat) (hTw : T < w.heap.size)
    (n1 : Bool) (a1 : Option Addr) (l1 c1 : Nat) (x1 t1 : Int) (hx1 : -1048576 ≤ x1 ∧ x1 ≤ 1048576) (ht1 : -1048576 ≤ t1 ∧ t1 ≤ 1200000)
    (hl1 : 0 < l1) (hl1b : l1 < 1000000) (KT1 : Hid (∀ u, Kept w u → Calls Tryd.prog 91 #[.agg #[.bool n1, .slice a1 l1 c1, .int .i64 x1]] u fun e w' => e = .returned (.int .i64 t1) ∧ Kept u w'))
    (n2 : Bool) (a2 : Option Addr) (l2 c2 : Nat) (x2 t2 : Int) (hx2 : -1048576 ≤ x2 ∧ x2 ≤ 1048576) (ht2 : -1048576 ≤ t2 ∧ t2 ≤ 1200000)
    (hl2 : l2 = 0)
    (R n : Nat) (hR : max 0 (t1 - x1) = (R : Int)) (hR2 : R ≤ 60001) (hn : (R : Int) / 30 + 2 = (n : Int))
    (C1 C2 : List Int)
    (KL1 : Hid (∀ u g, Kept w u → w.heap.size ≤ g → Own u g n (List.replicate n 0) → Calls Tryd.prog 92 #[.slice (some ⟨g, 0, none⟩) n n, .agg #[.bool n1, .slice a1 l1 c1, .int .i64 x1], .int .i64 0] u fun e w' => e = .returned (.tuple #[]) ∧ Own w' g n (C1) ∧ Grw g u w'))
    (hC2 : C2 = C1)
    (Res : Option Nm) (KS : Hid (∀ u0 u g, Kept w u0 → Kept u0 u → u0.heap.size ≤ g → Own u g n C2 → Calls Tryd.prog 93 #[.slice (some ⟨g, 0, none⟩) n n, .int .i64 x1] u fun e w' => ToldR Res u0 w' e ∧ Kept u0 w'))
    (d0 : w.cell? ⟨T, 0, none⟩ = some (.bool n1)) (d1 : w.cell? ⟨T, 1, none⟩ = some (.slice a1 l1 c1)) (d2 : w.cell? ⟨T, 2, none⟩ = some (.int .i64 x1))
    (d3 : w.cell? ⟨T, 3, none⟩ = some (.bool n2)) (d4 : w.cell? ⟨T, 4, none⟩ = some (.slice a2 l2 c2)) (d5 : w.cell? ⟨T, 5, none⟩ = some (.int .i64 x2))
    : Calls Tryd.prog 53 #[.slice (some ⟨T, 0, none⟩) 2 2] w fun e w' => ToldR Res w w' e ∧ Kept w w' := by
  have G1 : Hid (∀ u, Kept w u → u.cell? ⟨T, 0, none⟩ = some (.bool n1) ∧ u.cell? ⟨T, 1, none⟩ = some (.slice a1 l1 c1) ∧ u.cell? ⟨T, 2, none⟩ = some (.int .i64 x1)) := fun u k => ⟨(k.below.cell (p := ⟨T, 0, none⟩) hTw).trans d0, (k.below.cell (p := ⟨T, 1, none⟩) hTw).trans d1, (k.below.cell (p := ⟨T, 2, none⟩) hTw).trans d2⟩
  have G2 : Hid (∀ u, Kept w u → u.cell? ⟨T, 3, none⟩ = some (.bool n2) ∧ u.cell? ⟨T, 4, none⟩ = some (.slice a2 l2 c2) ∧ u.cell? ⟨T, 5, none⟩ = some (.int .i64 x2)) := fun u k => ⟨(k.below.cell (p := ⟨T, 3, none⟩) hTw).trans d3, (k.below.cell (p := ⟨T, 4, none⟩) hTw).trans d4, (k.below.cell (p := ⟨T, 5, none⟩) hTw).trans d5⟩
  clear d0 d1 d2 d3 d4 d5
  subst hl2
  have hK0 : Kept w (numW w) := (Kept.refl w).alloc _ _
  obtain ⟨s0, s1, s2⟩ := G1.out _ hK0
  have hmn1 : min 1048576 x1 = x1 := by omega
  have hmx1 : max (-1048576) t1 = t1 := by omega
  have hn3 : n < 3000 := by omega
  have HW := make_run n (by omega)
  go_enter Tryd.func53, Tryd.ntmps53
  go_wp2
  refine wp_loop_rounds 3 ?_
  rw [rounds_succ]
  have hM0 : Kept (numW w) (numW w) := Kept.refl _
  go_wp2_with fail
  have kb1 : Kept (numW w) ((numW w).alloc (.cells #[.bool n1, .slice a1 l1 c1, .int .i64 x1] 31)) := hM0.alloc _ _
  have HS1 : Hid (∀ u, Kept ((numW w).alloc (.cells #[.bool n1, .slice a1 l1 c1, .int .i64 x1] 31)) u → Kept (numW w) u ∧ u.cell? ⟨w.heap.size + 1, 0, none⟩ = some (.bool n1) ∧ u.cell? ⟨w.heap.size + 1, 1, none⟩ = some (.slice a1 l1 c1) ∧ u.cell? ⟨w.heap.size + 1, 2, none⟩ = some (.int .i64 x1)) := fun u k => ⟨kb1.trans k, (by have h := laid_cell k 0; (try simp only [World.size_alloc] at h); exact h.trans (by simp [go_sem])), (by have h := laid_cell k 1; (try simp only [World.size_alloc] at h); exact h.trans (by simp [go_sem])), (by have h := laid_cell k 2; (try simp only [World.size_alloc] at h); exact h.trans (by simp [go_sem]))⟩
  refine wp_region_held_drew (S := fun u => Kept (numW w) u ∧ u.cell? ⟨w.heap.size + 1, 0, none⟩ = some (.bool n1) ∧ u.cell? ⟨w.heap.size + 1, 1, none⟩ = some (.slice a1 l1 c1) ∧ u.cell? ⟨w.heap.size + 1, 2, none⟩ = some (.int .i64 x1)) (by kernel_rfl) (HS1.out _ (Kept.refl _).drew) (fun hHeld => ?_)
  refine wpAnyH_take (i := 0) (v := ?_) rfl (by kernel_rfl) (by kernel_rfl) (by kernel_rfl) (fun _ _ _ h => h) (Or.inl ⟨by rfl, ?hyr10⟩) (by assumption) ?_
  case hyr10 => (intro w hSw; (try dsimp only at hSw); go_simp; try (with_reducible rfl))
  try simp only [Act.put, List.setIfInBounds_toArray, List.set_cons_zero, List.set_cons_succ]
  refine wpAnyH_take (i := 1) (v := ?_) rfl (by kernel_rfl) (by kernel_rfl) (by kernel_rfl) (fun _ _ _ h => h) (Or.inl ⟨by rfl, ?hyr11⟩) (by assumption) ?_
  case hyr11 => (intro w hSw; (try dsimp only at hSw); go_simp; try (with_reducible rfl))
  try simp only [Act.put, List.setIfInBounds_toArray, List.set_cons_zero, List.set_cons_succ]
  refine wpAnyH_take (i := 2) (v := ?_) rfl (by kernel_rfl) (by kernel_rfl) (by kernel_rfl) (fun _ _ _ h => h) (Or.inl ⟨by rfl, ?hyr12⟩) (by assumption) ?_
  case hyr12 => (intro w hSw; (try dsimp only at hSw); go_simp; try (with_reducible rfl))
  try simp only [Act.put, List.setIfInBounds_toArray, List.set_cons_zero, List.set_cons_succ]
  refine wpAnyH_take (i := 3) (v := ?_) rfl (by kernel_rfl) (by kernel_rfl) (by kernel_rfl) (fun _ _ _ h => h) (Or.inl ⟨by rfl, ?hyr13⟩) (by assumption) ?_
  case hyr13 => (intro w hSw; (try dsimp only at hSw); go_simp; try (with_reducible rfl))
  try simp only [Act.put, List.setIfInBounds_toArray, List.set_cons_zero, List.set_cons_succ]
  refine wpAnyH_take (i := 4) (v := ?_) rfl (by kernel_rfl) (by kernel_rfl) (by kernel_rfl) (fun _ _ _ h => h) (Or.inl ⟨by rfl, ?hyr14⟩) (by assumption) ?_
  case hyr14 => (intro w hSw; (try dsimp only at hSw); go_simp; try (with_reducible rfl))
  try simp only [Act.put, List.setIfInBounds_toArray, List.set_cons_zero, List.set_cons_succ]
  refine wpAnyH_take (i := 5) (v := ?_) rfl (by kernel_rfl) (by kernel_rfl) (by kernel_rfl) (fun _ _ _ h => h) (Or.inl ⟨by rfl, ?hyr15⟩) (by assumption) ?_
  case hyr15 => (intro w hSw; (try dsimp only at hSw); go_simp; try (with_reducible rfl))
  try simp only [Act.put, List.setIfInBounds_toArray, List.set_cons_zero, List.set_cons_succ]
  refine wpAnyH_ready (rs := [6]) (by kernel_rfl) (by simp) ?_
  refine AllReadyH.cons rfl (fun K hK9 => ?_) AllReadyH.nil
  go_simp
  go_wp2_with (first | (go_at_call 91; refine (KT1.out _ (hK0.trans kb1.drew)).mono ?_; rintro e u1 ⟨rfl, ku1⟩; have e0 := HS1.out _ ((Kept.refl _).drew.trans ku1)))
  refine hK9.out _ _ e0 (fun hHeld2 => ?_)
  clear hK9 K hHeld
  refine wpAnyH_take (i := 7) (v := ?_) rfl (by kernel_rfl) (by kernel_rfl) (by kernel_rfl) (fun _ _ _ h => h) (Or.inl ⟨by rfl, ?hys17⟩) (by assumption) ?_
  case hys17 => (intro w hSw; (try dsimp only at hSw); go_simp; try (with_reducible rfl))
  try simp only [Act.put, List.setIfInBounds_toArray, List.set_cons_zero, List.set_cons_succ]
  refine wpAnyH_take (i := 8) (v := ?_) rfl (by kernel_rfl) (by kernel_rfl) (by kernel_rfl) (fun _ _ _ h => h) (Or.inl ⟨by rfl, ?hys18⟩) (by assumption) ?_
  case hys18 => (intro w hSw; (try dsimp only at hSw); go_simp; try (with_reducible rfl))
  try simp only [Act.put, List.setIfInBounds_toArray, List.set_cons_zero, List.set_cons_succ]
  refine wpAnyH_take (i := 9) (v := ?_) rfl (by kernel_rfl) (by kernel_rfl) (by kernel_rfl) (fun _ _ _ h => h) (Or.inl ⟨by rfl, ?hys19⟩) (by assumption) ?_
  case hys19 => (intro w hSw; (try dsimp only at hSw); go_simp; try (with_reducible rfl))
  try simp only [Act.put, List.setIfInBounds_toArray, List.set_cons_zero, List.set_cons_succ]
  refine wpAnyH_done (by kernel_rfl) ?_ _
  clear hHeld2 e0
  have m1 : Kept (numW w) u1 := kb1.drew.trans ku1
  go_wp2_with fail
  obtain ⟨r0, r1, r2⟩ := G2.out _ (hK0.trans m1)
  rw [rounds_succ]
  go_wp2_with fail
  have m2 : Kept (numW w) (u1.alloc (.cells #[.bool n2, .slice a2 0 c2, .int .i64 x2] 31)) := m1.alloc _ _
  generalize hU2 : u1.alloc (.cells #[.bool n2, .slice a2 0 c2, .int .i64 x2] 31) = u2 at *
  have OM := own_made n (by omega) u2
  have mV : Kept (numW w) (u2.alloc (.cells (madeCells #[.int .i64 0] n) 3)) := m2.alloc _ _
  have hgg : (numW w).heap.size ≤ u2.heap.size := by have hq := m2.below.size; simp only [World.size_alloc] at hq ⊢; omega
  obtain ⟨v0, v1, v2⟩ := G1.out _ (hK0.trans mV)
  rw [rounds_succ]
  go_wp2
  refine wp_loop_rounds 3 ?_
  rw [rounds_succ]
  (try simp only [World.size_alloc] at OM)
  go_wp2_with fail
  refine (KL1.out _ _ (hK0.trans (mV.alloc _ _)) (by have hq := hgg; simp only [World.size_alloc] at hq; omega) (OM.kept ((Kept.refl _).alloc _ _))).mono ?_
  rintro e z1 ⟨rfl, oz1, gz1⟩
  have mz1 : Kept (numW w) z1 := (mV.alloc _ _).grw hgg gz1
  go_wp2_with fail
  clear v0 v1 v2
  obtain ⟨v0, v1, v2⟩ := G2.out _ (hK0.trans mz1)
  rw [rounds_succ]
  go_wp2_with fail
  refine (lay_nil _ _ _ _ _ _ _ _ _).mono ?_
  rintro e z2 ⟨rfl, gz2⟩
  have mz2 : Kept (numW w) z2 := (mz1.alloc _ _).trans gz2
  have oz2 := (oz1.kept ((Kept.refl _).alloc _ _)).kept gz2
  rw [← hC2] at oz2
  go_wp2_with fail
  rw [rounds_succ]
  go_wp2_with fail
  refine (KS.out (numW w) _ _ hK0 mz2 hgg oz2).mono ?_
  rintro e z5 ⟨hres, k5⟩
  cases Res with
  | none =>
    have hres2 : e = .panicked gaveUp := hres
    subst hres2
    go_wp2
    exact ⟨rfl, rfl, hK0.trans k5⟩
  | some r =>
    obtain ⟨v, rfl, hN⟩ := hres
    obtain ⟨f0, f1, f2, f3⟩ := num_cells k5
    obtain ⟨vn, va, vl, vc, vx, rfl⟩ := hN.shape
    go_wp2
    have := num_done hN k5 (.bool vn) (.slice va vl vc) (.int .i64 vx)
    exact bodyPost_ret (v := .agg #[.bool vn, .slice va vl vc, .int .i64 vx]) (by simp [results, Tryd.results53, go_sem, f0, f1, f2]) rfl ⟨⟨_, rfl, this.1⟩, this.2⟩

end Go.Proofs.YtaoedaojpajbaaaDoor
