/- The walk of exact's orderOfSizes. -/
import Derived.Test.YtjdehcndejejcaaDoorS5
namespace Go.Proofs.YtjdehcndejejcaaDoor
open Go.ChangeShapes Go.WideShapes Go.ChangeAt Go.RowKit
set_option linter.unusedVariables false
set_option linter.unusedSimpArgs false

set_option maxHeartbeats 4000000 in
set_option maxRecDepth 100000 in
theorem order_walk (n1 n2 : Bool) (a1 a2 : Option Addr) (l1 c1 l2 c2 m : Nat) (x1 x2 T1 T2 R : Int) (b1 b2 : Nat) (d1 d2 : Nat → Int) (hm : max (l1 : Int) (l2 : Int) = (m : Int)) (hb1 : b1 ≤ 60000) (hb2 : b2 ≤ 60000) (hm2 : m ≤ 2000) (w : World)
    (KT1 : Hid (∀ u, Kept w u → Calls Tryd.prog 72 #[.agg #[.bool n1, .slice a1 l1 c1, .int .i64 x1]] u fun e w' => e = .returned (.int .i64 T1) ∧ Kept u w')) (KT2 : Hid (∀ u, Kept w u → Calls Tryd.prog 72 #[.agg #[.bool n2, .slice a2 l2 c2, .int .i64 x2]] u fun e w' => e = .returned (.int .i64 T2) ∧ Kept u w'))
    (K1 : Hid (∀ u, Kept w u → Calls Tryd.prog 76 #[.slice a1 l1 c1] u fun e w' => e = .returned (.int .i64 (b1 : Int)) ∧ Kept u w')) (K2 : Hid (∀ u, Kept w u → Calls Tryd.prog 76 #[.slice a2 l2 c2] u fun e w' => e = .returned (.int .i64 (b2 : Int)) ∧ Kept u w'))
    (P1 : Hid (∀ u, Kept w u → ∀ k : Nat, k < m → Calls Tryd.prog 78 #[.slice a1 l1 c1, .int .i64 ((b1 : Int) - ((k : Int) + 1) * 30)] u fun e w' => e = .returned (.int .i64 (d1 k)) ∧ Kept u w'))
    (P2 : Hid (∀ u, Kept w u → ∀ k : Nat, k < m → Calls Tryd.prog 78 #[.slice a2 l2 c2, .int .i64 ((b2 : Int) - ((k : Int) + 1) * 30)] u fun e w' => e = .returned (.int .i64 (d2 k)) ∧ Kept u w'))
    (R1 : Hid (T1 ≠ T2 → cz T1 T2 = R)) (R2 : Hid (T1 = T2 → (∀ k, k < m → d1 k = d2 k) → R = 0)) (R3 : Hid (T1 = T2 → ∀ k, k < m → (∀ j, j < k → d1 j = d2 j) → d1 k ≠ d2 k → cz (d1 k) (d2 k) = R)) :
    Calls Tryd.prog 48 #[.agg #[.bool n1, .slice a1 l1 c1, .int .i64 x1], .agg #[.bool n2, .slice a2 l2 c2, .int .i64 x2]] w fun e w' => e = .returned (.int .i64 R) ∧ Kept w w' := by
  obtain ⟨W, hW⟩ : ∃ W, W = ((w.alloc (.cells #[.bool n1, .slice a1 l1 c1, .int .i64 x1] 31)).alloc (.cells #[.bool n2, .slice a2 l2 c2, .int .i64 x2] 31)) := ⟨_, rfl⟩
  have hK : Kept w W := by rw [hW]; exact ((Kept.refl w).alloc _ _).alloc _ _
  have hWs : W.heap.size = w.heap.size + 2 := by rw [hW]; simp
  have HS : Hid (∀ u, Kept W u → Kept W u ∧ ((u.cell? ⟨w.heap.size, 0, none⟩ = some (.bool n1) ∧ u.cell? ⟨w.heap.size, 1, none⟩ = some (.slice a1 l1 c1)) ∧ u.cell? ⟨w.heap.size, 2, none⟩ = some (.int .i64 x1)) ∧ (u.cell? ⟨w.heap.size + 1, 0, none⟩ = some (.bool n2) ∧ u.cell? ⟨w.heap.size + 1, 1, none⟩ = some (.slice a2 l2 c2)) ∧ u.cell? ⟨w.heap.size + 1, 2, none⟩ = some (.int .i64 x2)) := fun u k => ⟨k, ⟨⟨((k.below.cell (p := ⟨w.heap.size, 0, none⟩) (by show w.heap.size < W.heap.size; omega)).trans (by rw [hW]; simp [go_sem])), ((k.below.cell (p := ⟨w.heap.size, 1, none⟩) (by show w.heap.size < W.heap.size; omega)).trans (by rw [hW]; simp [go_sem]))⟩, ((k.below.cell (p := ⟨w.heap.size, 2, none⟩) (by show w.heap.size < W.heap.size; omega)).trans (by rw [hW]; simp [go_sem]))⟩, ⟨((k.below.cell (p := ⟨w.heap.size + 1, 0, none⟩) (by show w.heap.size + 1 < W.heap.size; omega)).trans (by rw [hW]; simp [go_sem])), ((k.below.cell (p := ⟨w.heap.size + 1, 1, none⟩) (by show w.heap.size + 1 < W.heap.size; omega)).trans (by rw [hW]; simp [go_sem]))⟩, ((k.below.cell (p := ⟨w.heap.size + 1, 2, none⟩) (by show w.heap.size + 1 < W.heap.size; omega)).trans (by rw [hW]; simp [go_sem]))⟩
  have CC : ∀ x y w, Calls Tryd.prog 47 #[.int .i64 x, .int .i64 y] w fun e w' => e = .returned (.int .i64 (cz x y)) ∧ w = w' := compare_cz
  go_enter Tryd.func48, Tryd.ntmps48
  go_wp2_with fail
  rw [← hW]
  clear hW
  have k0 : Kept W W.drew := (Kept.refl W).drew
  have e0 := HS.out _ k0
  refine wp_region_held_drew (S := fun u => Kept W u ∧ ((u.cell? ⟨w.heap.size, 0, none⟩ = some (.bool n1) ∧ u.cell? ⟨w.heap.size, 1, none⟩ = some (.slice a1 l1 c1)) ∧ u.cell? ⟨w.heap.size, 2, none⟩ = some (.int .i64 x1)) ∧ (u.cell? ⟨w.heap.size + 1, 0, none⟩ = some (.bool n2) ∧ u.cell? ⟨w.heap.size + 1, 1, none⟩ = some (.slice a2 l2 c2)) ∧ u.cell? ⟨w.heap.size + 1, 2, none⟩ = some (.int .i64 x2)) (by kernel_rfl) e0 (fun hHeld0 => ?_)
  refine wpAnyH_take (i := 0) (v := ?_) rfl (by kernel_rfl) (by kernel_rfl) (by kernel_rfl) (fun _ _ _ h => h) (Or.inl ⟨by rfl, ?hya0⟩) (by assumption) ?_
  case hya0 => (intro w hSw; (try dsimp only at hSw); go_simp; try (with_reducible rfl))
  simp only [Act.put, List.getElem_toArray, List.getElem_cons_succ, List.getElem_cons_zero, List.setIfInBounds_toArray, List.set_cons_zero, List.set_cons_succ]
  refine wpAnyH_take (i := 2) (v := ?_) rfl (by kernel_rfl) (by kernel_rfl) (by kernel_rfl) (fun _ _ _ h => h) (Or.inl ⟨by rfl, ?hya2⟩) (by assumption) ?_
  case hya2 => (intro w hSw; (try dsimp only at hSw); go_simp; try (with_reducible rfl))
  simp only [Act.put, List.getElem_toArray, List.getElem_cons_succ, List.getElem_cons_zero, List.setIfInBounds_toArray, List.set_cons_zero, List.set_cons_succ]
  refine wpAnyH_ready (rs := [1]) (by kernel_rfl) (by simp) ?_
  refine AllReadyH.cons rfl (fun K hK9 => ?_) AllReadyH.nil
  go_simp
  go_wp2_with fail
  refine (KT1.out _ (hK.trans k0)).mono ?_
  rintro e u1 ⟨rfl, q1⟩
  have k1 := k0.trans q1
  have e1 := HS.out _ k1
  refine hK9.out _ _ e1 (fun hHeld1 => ?_)
  clear hK9 K
  refine wpAnyH_ready (rs := [3]) (by kernel_rfl) (by simp) ?_
  refine AllReadyH.cons rfl (fun K hK9 => ?_) AllReadyH.nil
  go_simp
  go_wp2_with fail
  refine (KT2.out _ (hK.trans k1)).mono ?_
  rintro e u2 ⟨rfl, q2⟩
  have k2 := k1.trans q2
  have e2 := HS.out _ k2
  refine hK9.out _ _ e2 (fun hHeld2 => ?_)
  clear hK9 K
  refine wpAnyH_take (i := 4) (v := ?_) rfl (by kernel_rfl) (by kernel_rfl) (by kernel_rfl) (fun _ _ _ h => h) (Or.inl ⟨by rfl, ?hyb4⟩) (by assumption) ?_
  case hyb4 => (intro w hSw; (try dsimp only at hSw); go_simp; try (with_reducible rfl))
  simp only [Act.put, List.getElem_toArray, List.getElem_cons_succ, List.getElem_cons_zero, List.setIfInBounds_toArray, List.set_cons_zero, List.set_cons_succ]
  refine wpAnyH_done (by kernel_rfl) ?_ _
  clear hHeld0 hHeld1 hHeld2 e0 e1
  by_cases hT : T1 = T2
  · subst hT
    clear KT1 KT2 R1
    go_wp2_with fail
    have k3 := k2.drew
    have e3 := HS.out _ k3
    refine wp_region_held_drew (S := fun u => Kept W u ∧ ((u.cell? ⟨w.heap.size, 0, none⟩ = some (.bool n1) ∧ u.cell? ⟨w.heap.size, 1, none⟩ = some (.slice a1 l1 c1)) ∧ u.cell? ⟨w.heap.size, 2, none⟩ = some (.int .i64 x1)) ∧ (u.cell? ⟨w.heap.size + 1, 0, none⟩ = some (.bool n2) ∧ u.cell? ⟨w.heap.size + 1, 1, none⟩ = some (.slice a2 l2 c2)) ∧ u.cell? ⟨w.heap.size + 1, 2, none⟩ = some (.int .i64 x2)) (by kernel_rfl) e3 (fun hHeld0 => ?_)
    refine wpAnyH_take (i := 0) (v := ?_) rfl (by kernel_rfl) (by kernel_rfl) (by kernel_rfl) (fun _ _ _ h => h) (Or.inl ⟨by rfl, ?hyc0⟩) (by assumption) ?_
    case hyc0 => (intro w hSw; (try dsimp only at hSw); go_simp; try (with_reducible rfl))
    simp only [Act.put, List.getElem_toArray, List.getElem_cons_succ, List.getElem_cons_zero, List.setIfInBounds_toArray, List.set_cons_zero, List.set_cons_succ]
    refine wpAnyH_take (i := 1) (v := ?_) rfl (by kernel_rfl) (by kernel_rfl) (by kernel_rfl) (fun _ _ _ h => h) (Or.inl ⟨by rfl, ?hyc1⟩) (by assumption) ?_
    case hyc1 => (intro w hSw; (try dsimp only at hSw); go_simp; try (with_reducible rfl))
    simp only [Act.put, List.getElem_toArray, List.getElem_cons_succ, List.getElem_cons_zero, List.setIfInBounds_toArray, List.set_cons_zero, List.set_cons_succ]
    refine wpAnyH_take (i := 3) (v := ?_) rfl (by kernel_rfl) (by kernel_rfl) (by kernel_rfl) (fun _ _ _ h => h) (Or.inl ⟨by rfl, ?hyc3⟩) (by assumption) ?_
    case hyc3 => (intro w hSw; (try dsimp only at hSw); go_simp; try (with_reducible rfl))
    simp only [Act.put, List.getElem_toArray, List.getElem_cons_succ, List.getElem_cons_zero, List.setIfInBounds_toArray, List.set_cons_zero, List.set_cons_succ]
    refine wpAnyH_take (i := 4) (v := ?_) rfl (by kernel_rfl) (by kernel_rfl) (by kernel_rfl) (fun _ _ _ h => h) (Or.inl ⟨by rfl, ?hyc4⟩) (by assumption) ?_
    case hyc4 => (intro w hSw; (try dsimp only at hSw); go_simp; try (with_reducible rfl))
    simp only [Act.put, List.getElem_toArray, List.getElem_cons_succ, List.getElem_cons_zero, List.setIfInBounds_toArray, List.set_cons_zero, List.set_cons_succ]
    refine wpAnyH_ready (rs := [2]) (by kernel_rfl) (by simp) ?_
    refine AllReadyH.cons rfl (fun K hK9 => ?_) AllReadyH.nil
    go_simp
    go_wp2_with fail
    refine (K1.out _ (hK.trans k3)).mono ?_
    rintro e u4 ⟨rfl, q4⟩
    have k4 := k3.trans q4
    have e4 := HS.out _ k4
    refine hK9.out _ _ e4 (fun hHeld4 => ?_)
    clear hK9 K
    refine wpAnyH_ready (rs := [5]) (by kernel_rfl) (by simp) ?_
    refine AllReadyH.cons rfl (fun K hK9 => ?_) AllReadyH.nil
    go_simp
    go_wp2_with fail
    refine (K2.out _ (hK.trans k4)).mono ?_
    rintro e u5 ⟨rfl, q5⟩
    have k5 := k4.trans q5
    have e5 := HS.out _ k5
    refine hK9.out _ _ e5 (fun hHeld5 => ?_)
    clear hK9 K
    refine wpAnyH_take (i := 6) (v := ?_) rfl (by kernel_rfl) (by kernel_rfl) (by kernel_rfl) (fun _ _ _ h => h) (Or.inl ⟨by rfl, ?hyd6⟩) (by assumption) ?_
    case hyd6 => (intro w hSw; (try dsimp only at hSw); go_simp; try (with_reducible rfl))
    simp only [Act.put, List.getElem_toArray, List.getElem_cons_succ, List.getElem_cons_zero, List.setIfInBounds_toArray, List.set_cons_zero, List.set_cons_succ]
    refine wpAnyH_take (i := 7) (v := ?_) rfl (by kernel_rfl) (by kernel_rfl) (by kernel_rfl) (fun _ _ _ h => h) (Or.inl ⟨by rfl, ?hyd7⟩) (by assumption) ?_
    case hyd7 => (intro w hSw; (try dsimp only at hSw); go_simp; try (with_reducible rfl))
    simp only [Act.put, List.getElem_toArray, List.getElem_cons_succ, List.getElem_cons_zero, List.setIfInBounds_toArray, List.set_cons_zero, List.set_cons_succ]
    refine wpAnyH_done (by kernel_rfl) ?_ _
    clear e3 e4 hHeld0 hHeld4 hHeld5
    go_wp2_with fail
    go_loopw [33] (fun i wr => ∃ k : Nat, k ≤ m ∧ i = .int .i64 k ∧ Kept W wr ∧ ∀ j, j < k → d1 j = d2 j) (fun i _ => m - (intOf i).toNat)
    case atStart => exact ⟨0, Nat.zero_le _, rfl, k5, fun j hj => by omega⟩
    case round =>
      obtain ⟨k, hk, rfl, hKr, hd⟩ := hrel
      have HD : Hid (∀ j, j < k → d1 j = d2 j) := hd
      have hc := HS.out _ hKr
      have z1 : IntKind.i64.wrap ((k : Int) + 1) = (k : Int) + 1 := by rw [wrap_i64]; omega
      have z2 : IntKind.i64.wrap (((k : Int) + 1) * 30) = ((k : Int) + 1) * 30 := by rw [wrap_i64]; omega
      have z3 : IntKind.i64.wrap ((b1 : Int) - ((k : Int) + 1) * 30) = (b1 : Int) - ((k : Int) + 1) * 30 := by rw [wrap_i64]; omega
      have z4 : IntKind.i64.wrap ((b2 : Int) - ((k : Int) + 1) * 30) = (b2 : Int) - ((k : Int) + 1) * 30 := by rw [wrap_i64]; omega
      by_cases hkm : k < m
      · clear hd
        go_wp2_with fail
        have k6 := hKr.drew
        have e6 := HS.out _ k6
        refine wp_region_held_drew (S := fun u => Kept W u ∧ ((u.cell? ⟨w.heap.size, 0, none⟩ = some (.bool n1) ∧ u.cell? ⟨w.heap.size, 1, none⟩ = some (.slice a1 l1 c1)) ∧ u.cell? ⟨w.heap.size, 2, none⟩ = some (.int .i64 x1)) ∧ (u.cell? ⟨w.heap.size + 1, 0, none⟩ = some (.bool n2) ∧ u.cell? ⟨w.heap.size + 1, 1, none⟩ = some (.slice a2 l2 c2)) ∧ u.cell? ⟨w.heap.size + 1, 2, none⟩ = some (.int .i64 x2)) (by kernel_rfl) e6 (fun hHeld0 => ?_)
        refine wpAnyH_take (i := 0) (v := ?_) rfl (by kernel_rfl) (by kernel_rfl) (by kernel_rfl) (fun _ _ _ h => h) (Or.inl ⟨by rfl, ?hye0⟩) (by assumption) ?_
        case hye0 => (intro w hSw; (try dsimp only at hSw); go_simp; try (with_reducible rfl))
        simp only [Act.put, List.getElem_toArray, List.getElem_cons_succ, List.getElem_cons_zero, List.setIfInBounds_toArray, List.set_cons_zero, List.set_cons_succ]
        refine wpAnyH_take (i := 1) (v := ?_) rfl (by kernel_rfl) (by kernel_rfl) (by kernel_rfl) (fun _ _ _ h => h) (Or.inl ⟨by rfl, ?hye1⟩) (by assumption) ?_
        case hye1 => (intro w hSw; (try dsimp only at hSw); go_simp; try (with_reducible rfl))
        simp only [Act.put, List.getElem_toArray, List.getElem_cons_succ, List.getElem_cons_zero, List.setIfInBounds_toArray, List.set_cons_zero, List.set_cons_succ]
        refine wpAnyH_take (i := 2) (v := ?_) rfl (by kernel_rfl) (by kernel_rfl) (by kernel_rfl) (fun _ _ _ h => h) (Or.inl ⟨by rfl, ?hye2⟩) (by assumption) ?_
        case hye2 => (intro w hSw; (try dsimp only at hSw); go_simp; try (with_reducible rfl))
        simp only [Act.put, List.getElem_toArray, List.getElem_cons_succ, List.getElem_cons_zero, List.setIfInBounds_toArray, List.set_cons_zero, List.set_cons_succ]
        refine wpAnyH_take (i := 3) (v := ?_) rfl (by kernel_rfl) (by kernel_rfl) (by kernel_rfl) (fun _ _ _ h => h) (Or.inl ⟨by rfl, ?hye3⟩) (by assumption) ?_
        case hye3 => (intro w hSw; (try dsimp only at hSw); go_simp; try (with_reducible rfl))
        simp only [Act.put, List.getElem_toArray, List.getElem_cons_succ, List.getElem_cons_zero, List.setIfInBounds_toArray, List.set_cons_zero, List.set_cons_succ]
        refine wpAnyH_take (i := 4) (v := ?_) rfl (by kernel_rfl) (by kernel_rfl) (by kernel_rfl) (fun _ _ _ h => h) (Or.inl ⟨by rfl, ?hye4⟩) (by assumption) ?_
        case hye4 => (intro w hSw; (try dsimp only at hSw); go_simp; try (with_reducible rfl))
        simp only [Act.put, List.getElem_toArray, List.getElem_cons_succ, List.getElem_cons_zero, List.setIfInBounds_toArray, List.set_cons_zero, List.set_cons_succ]
        refine wpAnyH_take (i := 6) (v := ?_) rfl (by kernel_rfl) (by kernel_rfl) (by kernel_rfl) (fun _ _ _ h => h) (Or.inl ⟨by rfl, ?hye6⟩) (by assumption) ?_
        case hye6 => (intro w hSw; (try dsimp only at hSw); go_simp; try (with_reducible rfl))
        simp only [Act.put, List.getElem_toArray, List.getElem_cons_succ, List.getElem_cons_zero, List.setIfInBounds_toArray, List.set_cons_zero, List.set_cons_succ]
        refine wpAnyH_take (i := 7) (v := ?_) rfl (by kernel_rfl) (by kernel_rfl) (by kernel_rfl) (fun _ _ _ h => h) (Or.inl ⟨by rfl, ?hye7⟩) (by assumption) ?_
        case hye7 => (intro w hSw; (try dsimp only at hSw); go_simp; try (with_reducible rfl))
        simp only [Act.put, List.getElem_toArray, List.getElem_cons_succ, List.getElem_cons_zero, List.setIfInBounds_toArray, List.set_cons_zero, List.set_cons_succ]
        refine wpAnyH_take (i := 8) (v := ?_) rfl (by kernel_rfl) (by kernel_rfl) (by kernel_rfl) (fun _ _ _ h => h) (Or.inl ⟨by rfl, ?hye8⟩) (by assumption) ?_
        case hye8 => (intro w hSw; (try dsimp only at hSw); go_simp; try (with_reducible rfl))
        simp only [Act.put, List.getElem_toArray, List.getElem_cons_succ, List.getElem_cons_zero, List.setIfInBounds_toArray, List.set_cons_zero, List.set_cons_succ]
        refine wpAnyH_take (i := 9) (v := ?_) rfl (by kernel_rfl) (by kernel_rfl) (by kernel_rfl) (fun _ _ _ h => h) (Or.inl ⟨by rfl, ?hye9⟩) (by assumption) ?_
        case hye9 => (intro w hSw; (try dsimp only at hSw); go_simp; try (with_reducible rfl))
        simp only [Act.put, List.getElem_toArray, List.getElem_cons_succ, List.getElem_cons_zero, List.setIfInBounds_toArray, List.set_cons_zero, List.set_cons_succ]
        refine wpAnyH_take (i := 10) (v := ?_) rfl (by kernel_rfl) (by kernel_rfl) (by kernel_rfl) (fun _ _ _ h => h) (Or.inl ⟨by rfl, ?hye10⟩) (by assumption) ?_
        case hye10 => (intro w hSw; (try dsimp only at hSw); go_simp; try (with_reducible rfl))
        simp only [Act.put, List.getElem_toArray, List.getElem_cons_succ, List.getElem_cons_zero, List.setIfInBounds_toArray, List.set_cons_zero, List.set_cons_succ]
        refine wpAnyH_ready (rs := [5]) (by kernel_rfl) (by simp) ?_
        refine AllReadyH.cons rfl (fun K hK9 => ?_) AllReadyH.nil
        go_simp
        go_wp2_with fail
        refine (P1.out _ (hK.trans k6) k hkm).mono ?_
        rintro e u7 ⟨rfl, q7⟩
        have k7 := k6.trans q7
        have e7 := HS.out _ k7
        refine hK9.out _ _ e7 (fun hHeld7 => ?_)
        clear hK9 K
        refine wpAnyH_ready (rs := [11]) (by kernel_rfl) (by simp) ?_
        refine AllReadyH.cons rfl (fun K hK9 => ?_) AllReadyH.nil
        go_simp
        go_wp2_with fail
        refine (P2.out _ (hK.trans k7) k hkm).mono ?_
        rintro e u8 ⟨rfl, q8⟩
        have k8 := k7.trans q8
        have e8 := HS.out _ k8
        refine hK9.out _ _ e8 (fun hHeld8 => ?_)
        clear hK9 K
        refine wpAnyH_ready (rs := [12]) (by kernel_rfl) (by simp) ?_
        refine AllReadyH.cons rfl (fun K hK9 => ?_) AllReadyH.nil
        go_simp
        go_wp2_with fail
        refine (CC _ _ _).mono ?_
        rintro e u9 ⟨rfl, rfl⟩
        refine hK9.out _ _ e8 (fun hHeld9 => ?_)
        clear hK9 K
        refine wpAnyH_take (i := 13) (v := ?_) rfl (by kernel_rfl) (by kernel_rfl) (by kernel_rfl) (fun _ _ _ h => h) (Or.inl ⟨by rfl, ?hyf13⟩) (by assumption) ?_
        case hyf13 => (intro w hSw; (try dsimp only at hSw); go_simp; try (with_reducible rfl))
        simp only [Act.put, List.getElem_toArray, List.getElem_cons_succ, List.getElem_cons_zero, List.setIfInBounds_toArray, List.set_cons_zero, List.set_cons_succ]
        refine wpAnyH_done (by kernel_rfl) ?_ _
        clear e6 e7 hHeld0 hHeld7 hHeld8 hHeld9
        by_cases hdd : d1 k = d2 k
        · rw [cz_eq hdd]
          go_wp2
          go_roundw
          case rel => exact ⟨k + 1, by omega, by go_num, k8, fun j hj => by
            rcases Nat.lt_or_ge j k with g | g
            · exact HD.out j g
            · rw [show j = k by omega]; exact hdd⟩
          case measure => simp [intOf]; omega
        · have hR := R3.out (by first | rfl | trivial) k hkm HD.out hdd
          have hne : ¬ cz (d1 k) (d2 k) = 0 := by unfold cz; split <;> (try split) <;> omega
          rw [hR] at hne ⊢
          go_wp2
          all_goals (go_ret; exact ⟨rfl, hK.trans k8⟩)
      · obtain rfl : k = m := by omega
        have hR := R2.out (by first | rfl | trivial) hd
        subst hR
        go_wp2
        all_goals (go_ret; exact ⟨rfl, hK.trans hKr⟩)
  · have hR := R1.out hT
    clear R1 R2 R3 P1 P2 K1 K2
    go_wp2_with fail
    have k3 := k2.drew
    have e3 := HS.out _ k3
    refine wp_region_held_drew (S := fun u => Kept W u ∧ ((u.cell? ⟨w.heap.size, 0, none⟩ = some (.bool n1) ∧ u.cell? ⟨w.heap.size, 1, none⟩ = some (.slice a1 l1 c1)) ∧ u.cell? ⟨w.heap.size, 2, none⟩ = some (.int .i64 x1)) ∧ (u.cell? ⟨w.heap.size + 1, 0, none⟩ = some (.bool n2) ∧ u.cell? ⟨w.heap.size + 1, 1, none⟩ = some (.slice a2 l2 c2)) ∧ u.cell? ⟨w.heap.size + 1, 2, none⟩ = some (.int .i64 x2)) (by kernel_rfl) e3 (fun hHeld0 => ?_)
    refine wpAnyH_take (i := 0) (v := ?_) rfl (by kernel_rfl) (by kernel_rfl) (by kernel_rfl) (fun _ _ _ h => h) (Or.inl ⟨by rfl, ?hyg0⟩) (by assumption) ?_
    case hyg0 => (intro w hSw; (try dsimp only at hSw); go_simp; try (with_reducible rfl))
    simp only [Act.put, List.getElem_toArray, List.getElem_cons_succ, List.getElem_cons_zero, List.setIfInBounds_toArray, List.set_cons_zero, List.set_cons_succ]
    refine wpAnyH_take (i := 2) (v := ?_) rfl (by kernel_rfl) (by kernel_rfl) (by kernel_rfl) (fun _ _ _ h => h) (Or.inl ⟨by rfl, ?hyg2⟩) (by assumption) ?_
    case hyg2 => (intro w hSw; (try dsimp only at hSw); go_simp; try (with_reducible rfl))
    simp only [Act.put, List.getElem_toArray, List.getElem_cons_succ, List.getElem_cons_zero, List.setIfInBounds_toArray, List.set_cons_zero, List.set_cons_succ]
    refine wpAnyH_ready (rs := [1]) (by kernel_rfl) (by simp) ?_
    refine AllReadyH.cons rfl (fun K hK9 => ?_) AllReadyH.nil
    go_simp
    go_wp2_with fail
    refine (KT1.out _ (hK.trans k3)).mono ?_
    rintro e u4 ⟨rfl, q4⟩
    have k4 := k3.trans q4
    have e4 := HS.out _ k4
    refine hK9.out _ _ e4 (fun hHeld4 => ?_)
    clear hK9 K
    refine wpAnyH_ready (rs := [3]) (by kernel_rfl) (by simp) ?_
    refine AllReadyH.cons rfl (fun K hK9 => ?_) AllReadyH.nil
    go_simp
    go_wp2_with fail
    refine (KT2.out _ (hK.trans k4)).mono ?_
    rintro e u5 ⟨rfl, q5⟩
    have k5 := k4.trans q5
    have e5 := HS.out _ k5
    refine hK9.out _ _ e5 (fun hHeld5 => ?_)
    clear hK9 K
    refine wpAnyH_ready (rs := [4]) (by kernel_rfl) (by simp) ?_
    refine AllReadyH.cons rfl (fun K hK9 => ?_) AllReadyH.nil
    go_simp
    go_wp2_with fail
    refine (CC _ _ _).mono ?_
    rintro e u9 ⟨rfl, rfl⟩
    refine hK9.out _ _ e5 (fun hHeld9 => ?_)
    clear hK9 K
    refine wpAnyH_take (i := 5) (v := ?_) rfl (by kernel_rfl) (by kernel_rfl) (by kernel_rfl) (fun _ _ _ h => h) (Or.inl ⟨by rfl, ?hyh5⟩) (by assumption) ?_
    case hyh5 => (intro w hSw; (try dsimp only at hSw); go_simp; try (with_reducible rfl))
    simp only [Act.put, List.getElem_toArray, List.getElem_cons_succ, List.getElem_cons_zero, List.setIfInBounds_toArray, List.set_cons_zero, List.set_cons_succ]
    refine wpAnyH_done (by kernel_rfl) ?_ _
    clear hHeld0 hHeld4 hHeld5 hHeld9
    rw [hR]
    go_wp2
    all_goals (go_ret; exact ⟨rfl, hK.trans k5⟩)
end Go.Proofs.YtjdehcndejejcaaDoor
