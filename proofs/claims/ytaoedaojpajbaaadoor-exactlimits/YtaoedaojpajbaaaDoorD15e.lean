/- The walk of exact's sum of two terms. -/
import Derived.Test.YtaoedaojpajbaaaDoorD15
namespace Go.Proofs.YtaoedaojpajbaaaDoor
open Go.ChangeShapes Go.WideShapes Go.ChangeAt Go.RowKit
set_option linter.unusedVariables false
set_option linter.unusedSimpArgs false

set_option maxHeartbeats 4000000 in
set_option maxRecDepth 100000 in
theorem sum_far (w : World) (T : Nat) (hTw : T < w.heap.size)
    (n1 : Bool) (a1 : Option Addr) (l1 c1 : Nat) (x1 t1 : Int) (hx1 : -1048576 ≤ x1 ∧ x1 ≤ 1048576) (ht1 : -1048576 ≤ t1 ∧ t1 ≤ 1200000)
    (hl1 : 0 < l1) (hl1b : l1 < 1000000) (KT1 : Hid (∀ u, Kept w u → Calls Tryd.prog 91 #[.agg #[.bool n1, .slice a1 l1 c1, .int .i64 x1]] u fun e w' => e = .returned (.int .i64 t1) ∧ Kept u w'))
    (n2 : Bool) (a2 : Option Addr) (l2 c2 : Nat) (x2 t2 : Int) (hx2 : -1048576 ≤ x2 ∧ x2 ≤ 1048576) (ht2 : -1048576 ≤ t2 ∧ t2 ≤ 1200000)
    (hl2 : 0 < l2) (hl2b : l2 < 1000000) (KT2 : Hid (∀ u, Kept w u → Calls Tryd.prog 91 #[.agg #[.bool n2, .slice a2 l2 c2, .int .i64 x2]] u fun e w' => e = .returned (.int .i64 t2) ∧ Kept u w'))
    (lo hi : Int) (hlo : min x1 x2 = lo) (hhi : max t1 t2 = hi)
    (R : Nat) (hR : max 0 (hi - lo) = (R : Int)) (hR2 : 60001 < R)
    (d0 : w.cell? ⟨T, 0, none⟩ = some (.bool n1)) (d1 : w.cell? ⟨T, 1, none⟩ = some (.slice a1 l1 c1)) (d2 : w.cell? ⟨T, 2, none⟩ = some (.int .i64 x1))
    (d3 : w.cell? ⟨T, 3, none⟩ = some (.bool n2)) (d4 : w.cell? ⟨T, 4, none⟩ = some (.slice a2 l2 c2)) (d5 : w.cell? ⟨T, 5, none⟩ = some (.int .i64 x2))
    : Calls Tryd.prog 53 #[.slice (some ⟨T, 0, none⟩) 2 2] w fun e w' => e = .panicked gaveUp ∧ Kept w w' := by
  have G1 : Hid (∀ u, Kept w u → u.cell? ⟨T, 0, none⟩ = some (.bool n1) ∧ u.cell? ⟨T, 1, none⟩ = some (.slice a1 l1 c1) ∧ u.cell? ⟨T, 2, none⟩ = some (.int .i64 x1)) := fun u k => ⟨(k.below.cell (p := ⟨T, 0, none⟩) hTw).trans d0, (k.below.cell (p := ⟨T, 1, none⟩) hTw).trans d1, (k.below.cell (p := ⟨T, 2, none⟩) hTw).trans d2⟩
  have G2 : Hid (∀ u, Kept w u → u.cell? ⟨T, 3, none⟩ = some (.bool n2) ∧ u.cell? ⟨T, 4, none⟩ = some (.slice a2 l2 c2) ∧ u.cell? ⟨T, 5, none⟩ = some (.int .i64 x2)) := fun u k => ⟨(k.below.cell (p := ⟨T, 3, none⟩) hTw).trans d3, (k.below.cell (p := ⟨T, 4, none⟩) hTw).trans d4, (k.below.cell (p := ⟨T, 5, none⟩) hTw).trans d5⟩
  clear d0 d1 d2 d3 d4 d5
  have hK0 : Kept w (numW w) := (Kept.refl w).alloc _ _
  obtain ⟨s0, s1, s2⟩ := G1.out _ hK0
  have hmn1 : min 1048576 x1 = x1 := by omega
  have hmx1 : max (-1048576) t1 = t1 := by omega
  go_enter Tryd.func53, Tryd.ntmps53
  go_wp2
  refine wp_loop_rounds 3 ?_
  rw [rounds_succ]
  have hM0 : Kept (numW w) (numW w) := Kept.refl _
  go_wp2_with fail
  have kb1 : Kept (numW w) ((numW w).alloc (.cells #[.bool n1, .slice a1 l1 c1, .int .i64 x1] 31)) := hM0.alloc _ _
  have HS1 : Hid (∀ u, Kept ((numW w).alloc (.cells #[.bool n1, .slice a1 l1 c1, .int .i64 x1] 31)) u → Kept (numW w) u ∧ u.cell? ⟨w.heap.size + 1, 0, none⟩ = some (.bool n1) ∧ u.cell? ⟨w.heap.size + 1, 1, none⟩ = some (.slice a1 l1 c1) ∧ u.cell? ⟨w.heap.size + 1, 2, none⟩ = some (.int .i64 x1)) := fun u k => ⟨kb1.trans k, (by have h := laid_cell k 0; (try simp only [World.size_alloc] at h); exact h.trans (by simp [go_sem])), (by have h := laid_cell k 1; (try simp only [World.size_alloc] at h); exact h.trans (by simp [go_sem])), (by have h := laid_cell k 2; (try simp only [World.size_alloc] at h); exact h.trans (by simp [go_sem]))⟩
  refine wp_region_held_drew (S := fun u => Kept (numW w) u ∧ u.cell? ⟨w.heap.size + 1, 0, none⟩ = some (.bool n1) ∧ u.cell? ⟨w.heap.size + 1, 1, none⟩ = some (.slice a1 l1 c1) ∧ u.cell? ⟨w.heap.size + 1, 2, none⟩ = some (.int .i64 x1)) (by kernel_rfl) (HS1.out _ (Kept.refl _).drew) (fun hHeld => ?_)
  refine wpAnyH_take (i := 0) (v := ?_) rfl (by kernel_rfl) (by kernel_rfl) (by kernel_rfl) (fun _ _ _ h => h) (Or.inl ⟨by rfl, ?hyr10⟩) (by assumption) ?_
  case hyr10 => (intro w hSw; (try dsimp only at hSw); go_simp; try (with_reducible rfl))
  try simp only [Act.put, List.setIfInBounds_toArray, List.set_cons_zero, List.set_cons_succ]
  refine wpAnyH_take (i := 1) (v := ?_) rfl (by kernel_rfl) (by kernel_rfl) (by kernel_rfl) (fun _ _ _ h => h) (Or.inl ⟨by rfl, ?hyr11⟩) (by assumption) ?_
  case hyr11 => (intro w hSw; (try dsimp only at hSw); go_simp; try (with_reducible rfl))
  try simp only [Act.put, List.setIfInBounds_toArray, List.set_cons_zero, List.set_cons_succ]
  refine wpAnyH_take (i := 2) (v := ?_) rfl (by kernel_rfl) (by kernel_rfl) (by kernel_rfl) (fun _ _ _ h => h) (Or.inl ⟨by rfl, ?hyr12⟩) (by assumption) ?_
  case hyr12 => (intro w hSw; (try dsimp only at hSw); go_simp; try (with_reducible rfl))
  try simp only [Act.put, List.setIfInBounds_toArray, List.set_cons_zero, List.set_cons_succ]
  refine wpAnyH_take (i := 3) (v := ?_) rfl (by kernel_rfl) (by kernel_rfl) (by kernel_rfl) (fun _ _ _ h => h) (Or.inl ⟨by rfl, ?hyr13⟩) (by assumption) ?_
  case hyr13 => (intro w hSw; (try dsimp only at hSw); go_simp; try (with_reducible rfl))
  try simp only [Act.put, List.setIfInBounds_toArray, List.set_cons_zero, List.set_cons_succ]
  refine wpAnyH_take (i := 4) (v := ?_) rfl (by kernel_rfl) (by kernel_rfl) (by kernel_rfl) (fun _ _ _ h => h) (Or.inl ⟨by rfl, ?hyr14⟩) (by assumption) ?_
  case hyr14 => (intro w hSw; (try dsimp only at hSw); go_simp; try (with_reducible rfl))
  try simp only [Act.put, List.setIfInBounds_toArray, List.set_cons_zero, List.set_cons_succ]
  refine wpAnyH_take (i := 5) (v := ?_) rfl (by kernel_rfl) (by kernel_rfl) (by kernel_rfl) (fun _ _ _ h => h) (Or.inl ⟨by rfl, ?hyr15⟩) (by assumption) ?_
  case hyr15 => (intro w hSw; (try dsimp only at hSw); go_simp; try (with_reducible rfl))
  try simp only [Act.put, List.setIfInBounds_toArray, List.set_cons_zero, List.set_cons_succ]
  refine wpAnyH_ready (rs := [6]) (by kernel_rfl) (by simp) ?_
  refine AllReadyH.cons rfl (fun K hK9 => ?_) AllReadyH.nil
  go_simp
  go_wp2_with (first | (go_at_call 91; refine (KT1.out _ (hK0.trans kb1.drew)).mono ?_; rintro e u1 ⟨rfl, ku1⟩; have e0 := HS1.out _ ((Kept.refl _).drew.trans ku1)))
  refine hK9.out _ _ e0 (fun hHeld2 => ?_)
  clear hK9 K hHeld
  refine wpAnyH_take (i := 7) (v := ?_) rfl (by kernel_rfl) (by kernel_rfl) (by kernel_rfl) (fun _ _ _ h => h) (Or.inl ⟨by rfl, ?hys17⟩) (by assumption) ?_
  case hys17 => (intro w hSw; (try dsimp only at hSw); go_simp; try (with_reducible rfl))
  try simp only [Act.put, List.setIfInBounds_toArray, List.set_cons_zero, List.set_cons_succ]
  refine wpAnyH_take (i := 8) (v := ?_) rfl (by kernel_rfl) (by kernel_rfl) (by kernel_rfl) (fun _ _ _ h => h) (Or.inl ⟨by rfl, ?hys18⟩) (by assumption) ?_
  case hys18 => (intro w hSw; (try dsimp only at hSw); go_simp; try (with_reducible rfl))
  try simp only [Act.put, List.setIfInBounds_toArray, List.set_cons_zero, List.set_cons_succ]
  refine wpAnyH_take (i := 9) (v := ?_) rfl (by kernel_rfl) (by kernel_rfl) (by kernel_rfl) (fun _ _ _ h => h) (Or.inl ⟨by rfl, ?hys19⟩) (by assumption) ?_
  case hys19 => (intro w hSw; (try dsimp only at hSw); go_simp; try (with_reducible rfl))
  try simp only [Act.put, List.setIfInBounds_toArray, List.set_cons_zero, List.set_cons_succ]
  refine wpAnyH_done (by kernel_rfl) ?_ _
  clear hHeld2 e0
  have m1 : Kept (numW w) u1 := kb1.drew.trans ku1
  go_wp2_with fail
  obtain ⟨r0, r1, r2⟩ := G2.out _ (hK0.trans m1)
  rw [rounds_succ]
  go_wp2_with fail
  have kb2 : Kept (numW w) (u1.alloc (.cells #[.bool n2, .slice a2 l2 c2, .int .i64 x2] 31)) := m1.alloc _ _
  have HS2 : Hid (∀ u, Kept (u1.alloc (.cells #[.bool n2, .slice a2 l2 c2, .int .i64 x2] 31)) u → Kept (numW w) u ∧ u.cell? ⟨u1.heap.size, 0, none⟩ = some (.bool n2) ∧ u.cell? ⟨u1.heap.size, 1, none⟩ = some (.slice a2 l2 c2) ∧ u.cell? ⟨u1.heap.size, 2, none⟩ = some (.int .i64 x2)) := fun u k => ⟨kb2.trans k, (by have h := laid_cell k 0; (try simp only [World.size_alloc] at h); exact h.trans (by simp [go_sem])), (by have h := laid_cell k 1; (try simp only [World.size_alloc] at h); exact h.trans (by simp [go_sem])), (by have h := laid_cell k 2; (try simp only [World.size_alloc] at h); exact h.trans (by simp [go_sem]))⟩
  refine wp_region_held_drew (S := fun u => Kept (numW w) u ∧ u.cell? ⟨u1.heap.size, 0, none⟩ = some (.bool n2) ∧ u.cell? ⟨u1.heap.size, 1, none⟩ = some (.slice a2 l2 c2) ∧ u.cell? ⟨u1.heap.size, 2, none⟩ = some (.int .i64 x2)) (by kernel_rfl) (HS2.out _ (Kept.refl _).drew) (fun hHeld => ?_)
  refine wpAnyH_take (i := 0) (v := ?_) rfl (by kernel_rfl) (by kernel_rfl) (by kernel_rfl) (fun _ _ _ h => h) (Or.inl ⟨by rfl, ?hyr20⟩) (by assumption) ?_
  case hyr20 => (intro w hSw; (try dsimp only at hSw); go_simp; try (with_reducible rfl))
  try simp only [Act.put, List.setIfInBounds_toArray, List.set_cons_zero, List.set_cons_succ]
  refine wpAnyH_take (i := 1) (v := ?_) rfl (by kernel_rfl) (by kernel_rfl) (by kernel_rfl) (fun _ _ _ h => h) (Or.inl ⟨by rfl, ?hyr21⟩) (by assumption) ?_
  case hyr21 => (intro w hSw; (try dsimp only at hSw); go_simp; try (with_reducible rfl))
  try simp only [Act.put, List.setIfInBounds_toArray, List.set_cons_zero, List.set_cons_succ]
  refine wpAnyH_take (i := 2) (v := ?_) rfl (by kernel_rfl) (by kernel_rfl) (by kernel_rfl) (fun _ _ _ h => h) (Or.inl ⟨by rfl, ?hyr22⟩) (by assumption) ?_
  case hyr22 => (intro w hSw; (try dsimp only at hSw); go_simp; try (with_reducible rfl))
  try simp only [Act.put, List.setIfInBounds_toArray, List.set_cons_zero, List.set_cons_succ]
  refine wpAnyH_take (i := 3) (v := ?_) rfl (by kernel_rfl) (by kernel_rfl) (by kernel_rfl) (fun _ _ _ h => h) (Or.inl ⟨by rfl, ?hyr23⟩) (by assumption) ?_
  case hyr23 => (intro w hSw; (try dsimp only at hSw); go_simp; try (with_reducible rfl))
  try simp only [Act.put, List.setIfInBounds_toArray, List.set_cons_zero, List.set_cons_succ]
  refine wpAnyH_take (i := 4) (v := ?_) rfl (by kernel_rfl) (by kernel_rfl) (by kernel_rfl) (fun _ _ _ h => h) (Or.inl ⟨by rfl, ?hyr24⟩) (by assumption) ?_
  case hyr24 => (intro w hSw; (try dsimp only at hSw); go_simp; try (with_reducible rfl))
  try simp only [Act.put, List.setIfInBounds_toArray, List.set_cons_zero, List.set_cons_succ]
  refine wpAnyH_take (i := 5) (v := ?_) rfl (by kernel_rfl) (by kernel_rfl) (by kernel_rfl) (fun _ _ _ h => h) (Or.inl ⟨by rfl, ?hyr25⟩) (by assumption) ?_
  case hyr25 => (intro w hSw; (try dsimp only at hSw); go_simp; try (with_reducible rfl))
  try simp only [Act.put, List.setIfInBounds_toArray, List.set_cons_zero, List.set_cons_succ]
  refine wpAnyH_ready (rs := [6]) (by kernel_rfl) (by simp) ?_
  refine AllReadyH.cons rfl (fun K hK9 => ?_) AllReadyH.nil
  go_simp
  go_wp2_with (first | (go_at_call 91; refine (KT2.out _ (hK0.trans kb2.drew)).mono ?_; rintro e u2 ⟨rfl, ku2⟩; have e0 := HS2.out _ ((Kept.refl _).drew.trans ku2)))
  refine hK9.out _ _ e0 (fun hHeld2 => ?_)
  clear hK9 K hHeld
  refine wpAnyH_take (i := 7) (v := ?_) rfl (by kernel_rfl) (by kernel_rfl) (by kernel_rfl) (fun _ _ _ h => h) (Or.inl ⟨by rfl, ?hys27⟩) (by assumption) ?_
  case hys27 => (intro w hSw; (try dsimp only at hSw); go_simp; try (with_reducible rfl))
  try simp only [Act.put, List.setIfInBounds_toArray, List.set_cons_zero, List.set_cons_succ]
  refine wpAnyH_take (i := 8) (v := ?_) rfl (by kernel_rfl) (by kernel_rfl) (by kernel_rfl) (fun _ _ _ h => h) (Or.inl ⟨by rfl, ?hys28⟩) (by assumption) ?_
  case hys28 => (intro w hSw; (try dsimp only at hSw); go_simp; try (with_reducible rfl))
  try simp only [Act.put, List.setIfInBounds_toArray, List.set_cons_zero, List.set_cons_succ]
  refine wpAnyH_take (i := 9) (v := ?_) rfl (by kernel_rfl) (by kernel_rfl) (by kernel_rfl) (fun _ _ _ h => h) (Or.inl ⟨by rfl, ?hys29⟩) (by assumption) ?_
  case hys29 => (intro w hSw; (try dsimp only at hSw); go_simp; try (with_reducible rfl))
  try simp only [Act.put, List.setIfInBounds_toArray, List.set_cons_zero, List.set_cons_succ]
  refine wpAnyH_done (by kernel_rfl) ?_ _
  clear hHeld2 e0
  have m2 : Kept (numW w) u2 := kb2.drew.trans ku2
  go_wp2_with fail
  rw [rounds_succ]
  go_wp2
  exact ⟨rfl, rfl, hK0.trans m2⟩

end Go.Proofs.YtaoedaojpajbaaaDoor
