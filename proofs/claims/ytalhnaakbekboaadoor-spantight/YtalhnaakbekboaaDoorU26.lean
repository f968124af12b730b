/- The walks of exact's Mul where the product is too long, and of Cmp of numbers with two signs. -/
import Derived.Test.YtalhnaakbekboaaDoorU24
import Derived.Test.YtalhnaakbekboaaDoorU25
namespace Go.Proofs.YtalhnaakbekboaaDoor
open Go.ChangeShapes Go.WideShapes Go.ChangeAt Go.RowKit
set_option linter.unusedVariables false
set_option linter.unusedSimpArgs false

set_option maxHeartbeats 2000000 in
set_option maxRecDepth 100000 in
theorem product_far (n1 n2 : Bool) (a1 a2 : Option Addr) (l1 c1 l2 c2 : Nat) (x1 x2 : Int) (b1 b2 : Nat) (hx1 : -1048576 ≤ x1 ∧ x1 ≤ 1048576) (hx2 : -1048576 ≤ x2 ∧ x2 ≤ 1048576) (hb1 : b1 ≤ 60000) (hb2 : b2 ≤ 60000) (hno : 60000 < (b1 : Int) + b2 - 1 ∨ x1 + x2 < -1048576 ∨ 1048576 < x1 + x2) (w : World)
    (K1 : Hid (∀ u, Kept w u → Calls Tryd.prog 60 #[.slice a1 l1 c1] u fun e w' => e = .returned (.int .i64 (b1 : Int)) ∧ u = w')) (K2 : Hid (∀ u, Kept w u → Calls Tryd.prog 60 #[.slice a2 l2 c2] u fun e w' => e = .returned (.int .i64 (b2 : Int)) ∧ u = w')) :
    Calls Tryd.prog 29 #[.agg #[.bool n1, .slice a1 l1 c1, .int .i64 x1], .agg #[.bool n2, .slice a2 l2 c2, .int .i64 x2]] w fun e w' => e = .panicked gaveUp ∧ Kept w w' := by
  have hK : Kept w (((w.alloc (.cells #[.bool n1, .slice a1 l1 c1, .int .i64 x1] 26)).alloc (.cells #[.bool n2, .slice a2 l2 c2, .int .i64 x2] 26)).alloc nilNum) := (((Kept.refl w).alloc _ _).alloc _ _).alloc _ _
  have z1 : IntKind.i64.wrap ((b1 : Int) + (b2 : Int)) = (b1 : Int) + (b2 : Int) := by rw [wrap_i64]; omega
  have z2 : IntKind.i64.wrap ((b1 : Int) + (b2 : Int) - 1) = (b1 : Int) + (b2 : Int) - 1 := by rw [wrap_i64]; omega
  have z3 : IntKind.i64.wrap (x1 + x2) = x1 + x2 := by rw [wrap_i64]; omega
  have hS : ∀ u, Kept (((w.alloc (.cells #[.bool n1, .slice a1 l1 c1, .int .i64 x1] 26)).alloc (.cells #[.bool n2, .slice a2 l2 c2, .int .i64 x2] 26)).alloc nilNum) u → (u.cell? ⟨w.heap.size, 1, none⟩ = some (.slice a1 l1 c1) ∧ u.cell? ⟨w.heap.size, 2, none⟩ = some (.int .i64 x1)) ∧ u.cell? ⟨w.heap.size + 1, 1, none⟩ = some (.slice a2 l2 c2) ∧ u.cell? ⟨w.heap.size + 1, 2, none⟩ = some (.int .i64 x2) := fun u k => ⟨⟨(k.below.cell (p := ⟨w.heap.size, 1, none⟩) (by simp <;> omega)).trans (by simp [go_sem]), (k.below.cell (p := ⟨w.heap.size, 2, none⟩) (by simp <;> omega)).trans (by simp [go_sem])⟩, (k.below.cell (p := ⟨w.heap.size + 1, 1, none⟩) (by simp <;> omega)).trans (by simp [go_sem]), (k.below.cell (p := ⟨w.heap.size + 1, 2, none⟩) (by simp <;> omega)).trans (by simp [go_sem])⟩
  have HS := hS _ (Kept.refl _).drew
  have HSS : Hid (∀ u, Kept (((w.alloc (.cells #[.bool n1, .slice a1 l1 c1, .int .i64 x1] 26)).alloc (.cells #[.bool n2, .slice a2 l2 c2, .int .i64 x2] 26)).alloc nilNum) u → (u.cell? ⟨w.heap.size, 1, none⟩ = some (.slice a1 l1 c1) ∧ u.cell? ⟨w.heap.size, 2, none⟩ = some (.int .i64 x1)) ∧ u.cell? ⟨w.heap.size + 1, 1, none⟩ = some (.slice a2 l2 c2) ∧ u.cell? ⟨w.heap.size + 1, 2, none⟩ = some (.int .i64 x2)) := hS
  clear hS
  go_enter Tryd.func29, Tryd.ntmps29
  go_wp2_with fail
  refine wp_region_held_drew (S := fun u => (u.cell? ⟨w.heap.size, 1, none⟩ = some (.slice a1 l1 c1) ∧ u.cell? ⟨w.heap.size, 2, none⟩ = some (.int .i64 x1)) ∧ u.cell? ⟨w.heap.size + 1, 1, none⟩ = some (.slice a2 l2 c2) ∧ u.cell? ⟨w.heap.size + 1, 2, none⟩ = some (.int .i64 x2)) (by kernel_rfl) HS (fun hHeld => ?_)
  refine wpAnyH_take (i := 0) (v := ?_) rfl (by kernel_rfl) (by kernel_rfl) (by kernel_rfl) (fun _ _ _ h => h) (Or.inl ⟨by rfl, ?hya0⟩) (by assumption) ?_
  case hya0 => (intro w hSw; (try dsimp only at hSw); go_simp; try (with_reducible rfl))
  simp only [Act.put, List.getElem_toArray, List.getElem_cons_succ, List.getElem_cons_zero, List.setIfInBounds_toArray, List.set_cons_zero, List.set_cons_succ]
  refine wpAnyH_take (i := 1) (v := ?_) rfl (by kernel_rfl) (by kernel_rfl) (by kernel_rfl) (fun _ _ _ h => h) (Or.inl ⟨by rfl, ?hya1⟩) (by assumption) ?_
  case hya1 => (intro w hSw; (try dsimp only at hSw); go_simp; try (with_reducible rfl))
  simp only [Act.put, List.getElem_toArray, List.getElem_cons_succ, List.getElem_cons_zero, List.setIfInBounds_toArray, List.set_cons_zero, List.set_cons_succ]
  refine wpAnyH_take (i := 3) (v := ?_) rfl (by kernel_rfl) (by kernel_rfl) (by kernel_rfl) (fun _ _ _ h => h) (Or.inl ⟨by rfl, ?hya3⟩) (by assumption) ?_
  case hya3 => (intro w hSw; (try dsimp only at hSw); go_simp; try (with_reducible rfl))
  simp only [Act.put, List.getElem_toArray, List.getElem_cons_succ, List.getElem_cons_zero, List.setIfInBounds_toArray, List.set_cons_zero, List.set_cons_succ]
  refine wpAnyH_take (i := 4) (v := ?_) rfl (by kernel_rfl) (by kernel_rfl) (by kernel_rfl) (fun _ _ _ h => h) (Or.inl ⟨by rfl, ?hya4⟩) (by assumption) ?_
  case hya4 => (intro w hSw; (try dsimp only at hSw); go_simp; try (with_reducible rfl))
  simp only [Act.put, List.getElem_toArray, List.getElem_cons_succ, List.getElem_cons_zero, List.setIfInBounds_toArray, List.set_cons_zero, List.set_cons_succ]
  refine wpAnyH_take (i := 8) (v := ?_) rfl (by kernel_rfl) (by kernel_rfl) (by kernel_rfl) (fun _ _ _ h => h) (Or.inl ⟨by rfl, ?hya8⟩) (by assumption) ?_
  case hya8 => (intro w hSw; (try dsimp only at hSw); go_simp; try (with_reducible rfl))
  simp only [Act.put, List.getElem_toArray, List.getElem_cons_succ, List.getElem_cons_zero, List.setIfInBounds_toArray, List.set_cons_zero, List.set_cons_succ]
  refine wpAnyH_take (i := 9) (v := ?_) rfl (by kernel_rfl) (by kernel_rfl) (by kernel_rfl) (fun _ _ _ h => h) (Or.inl ⟨by rfl, ?hya9⟩) (by assumption) ?_
  case hya9 => (intro w hSw; (try dsimp only at hSw); go_simp; try (with_reducible rfl))
  simp only [Act.put, List.getElem_toArray, List.getElem_cons_succ, List.getElem_cons_zero, List.setIfInBounds_toArray, List.set_cons_zero, List.set_cons_succ]
  refine wpAnyH_take (i := 10) (v := ?_) rfl (by kernel_rfl) (by kernel_rfl) (by kernel_rfl) (fun _ _ _ h => h) (Or.inl ⟨by rfl, ?hya10⟩) (by assumption) ?_
  case hya10 => (intro w hSw; (try dsimp only at hSw); go_simp; try (with_reducible rfl))
  simp only [Act.put, List.getElem_toArray, List.getElem_cons_succ, List.getElem_cons_zero, List.setIfInBounds_toArray, List.set_cons_zero, List.set_cons_succ]
  refine wpAnyH_take (i := 11) (v := ?_) rfl (by kernel_rfl) (by kernel_rfl) (by kernel_rfl) (fun _ _ _ h => h) (Or.inl ⟨by rfl, ?hya11⟩) (by assumption) ?_
  case hya11 => (intro w hSw; (try dsimp only at hSw); go_simp; try (with_reducible rfl))
  simp only [Act.put, List.getElem_toArray, List.getElem_cons_succ, List.getElem_cons_zero, List.setIfInBounds_toArray, List.set_cons_zero, List.set_cons_succ]
  refine wpAnyH_take (i := 12) (v := ?_) rfl (by kernel_rfl) (by kernel_rfl) (by kernel_rfl) (fun _ _ _ h => h) (Or.inl ⟨by rfl, ?hya12⟩) (by assumption) ?_
  case hya12 => (intro w hSw; (try dsimp only at hSw); go_simp; try (with_reducible rfl))
  simp only [Act.put, List.getElem_toArray, List.getElem_cons_succ, List.getElem_cons_zero, List.setIfInBounds_toArray, List.set_cons_zero, List.set_cons_succ]
  refine wpAnyH_ready (rs := [2]) (by kernel_rfl) (by simp) ?_
  refine AllReadyH.cons rfl (fun K hK9 => ?_) AllReadyH.nil
  go_simp
  go_wp2_with fail
  refine (K1.out _ hK.drew).mono ?_
  rintro e u1 ⟨rfl, rfl⟩
  refine hK9.out _ _ HS (fun hHeld2 => ?_)
  clear hK9 K
  refine wpAnyH_ready (rs := [5]) (by kernel_rfl) (by simp) ?_
  refine AllReadyH.cons rfl (fun K hK9 => ?_) AllReadyH.nil
  go_simp
  go_wp2_with fail
  refine (K2.out _ hK.drew).mono ?_
  rintro e u1 ⟨rfl, rfl⟩
  refine hK9.out _ _ HS (fun hHeld3 => ?_)
  clear hK9 K
  refine wpAnyH_take (i := 6) (v := ?_) rfl (by kernel_rfl) (by kernel_rfl) (by kernel_rfl) (fun _ _ _ h => h) (Or.inl ⟨by rfl, ?hyb6⟩) (by assumption) ?_
  case hyb6 => (intro w hSw; (try dsimp only at hSw); go_simp; try (with_reducible rfl))
  simp only [Act.put, List.getElem_toArray, List.getElem_cons_succ, List.getElem_cons_zero, List.setIfInBounds_toArray, List.set_cons_zero, List.set_cons_succ]
  refine wpAnyH_take (i := 7) (v := ?_) rfl (by kernel_rfl) (by kernel_rfl) (by kernel_rfl) (fun _ _ _ h => h) (Or.inl ⟨by rfl, ?hyb7⟩) (by assumption) ?_
  case hyb7 => (intro w hSw; (try dsimp only at hSw); go_simp; try (with_reducible rfl))
  simp only [Act.put, List.getElem_toArray, List.getElem_cons_succ, List.getElem_cons_zero, List.setIfInBounds_toArray, List.set_cons_zero, List.set_cons_succ]
  refine wpAnyH_ready (rs := [13]) (by kernel_rfl) (by simp) ?_
  refine AllReadyH.cons rfl (fun K hK9 => ?_) AllReadyH.nil
  go_simp
  go_wp2_with fail
  refine (fit_no _ _ hno _).mono ?_
  rintro e u1 ⟨rfl, rfl⟩
  exact ⟨rfl, rfl, hK.drew⟩

set_option maxHeartbeats 1000000 in
set_option maxRecDepth 100000 in
theorem mul_in_no (w : World) (n1 : Bool) (L1 : List Int) (x1 : Int) (hne1 : L1 ≠ []) (hv1 : vld ⟨n1, L1, x1⟩ = true) (a1 : Option Addr) (c1 : Nat) (n2 : Bool) (L2 : List Int) (x2 : Int) (hne2 : L2 ≠ []) (hv2 : vld ⟨n2, L2, x2⟩ = true) (a2 : Option Addr) (c2 : Nat)  (h1 : Sl w (.slice a1 L1.length c1) L1) (h2 : Sl w (.slice a2 L2.length c2) L2) (hno : 60000 < (bl (nv L1) : Int) + (bl (nv L2) : Int) - 1 ∨ x1 + x2 < -1048576 ∨ 1048576 < x1 + x2) (p q : Nat) (hp : p < w.heap.size) (hq : q < w.heap.size)  (cp0 : w.cell? ⟨p, 0, none⟩ = some (.bool n1)) (cp1 : w.cell? ⟨p, 1, none⟩ = some (.slice a1 L1.length c1)) (cp2 : w.cell? ⟨p, 2, none⟩ = some (.int .i64 x1)) (cq0 : w.cell? ⟨q, 0, none⟩ = some (.bool n2)) (cq1 : w.cell? ⟨q, 1, none⟩ = some (.slice a2 L2.length c2)) (cq2 : w.cell? ⟨q, 2, none⟩ = some (.int .i64 x2)) : Calls Tryd.prog 28 #[.pointer (some ⟨p, 0, none⟩), .pointer (some ⟨q, 0, none⟩)] w fun e w' => e = .panicked gaveUp ∧ Kept w w' := by
  have hK : Kept w (numW w) := (Kept.refl w).alloc _ _
  obtain ⟨p1, p2, p3, p4, p5, p6⟩ := vld_some n1 L1 x1 hne1 hv1
  obtain ⟨q1, q2, q3, q4, q5, q6⟩ := vld_some n2 L2 x2 hne2 hv2
  have b1 := len_bl L1 p2 hne1 p3
  have b2 := len_bl L2 q2 hne2 q3
  have KP : Hid (Calls Tryd.prog 29 #[.agg #[.bool n1, .slice a1 L1.length c1, .int .i64 x1], .agg #[.bool n2, .slice a2 L2.length c2, .int .i64 x2]] (numW w) fun e w' => e = .panicked gaveUp ∧ Kept (numW w) w') := product_far n1 n2 a1 a2 L1.length c1 L2.length c2 x1 x2 _ _ ⟨p5, p6⟩ ⟨q5, q6⟩ (by omega) (by omega) hno (numW w) (fun u k => length_any L1 ⟨p2, fun _ => p3⟩ (by omega) _ u ((h1.kept hK).kept k)) (fun u k => length_any L2 ⟨q2, fun _ => q3⟩ (by omega) _ u ((h2.kept hK).kept k))
  have ep0 : (numW w).cell? ⟨p, 0, none⟩ = some (.bool n1) := (hK.below.cell (p := ⟨p, 0, none⟩) hp).trans cp0
  have ep1 : (numW w).cell? ⟨p, 1, none⟩ = some (.slice a1 L1.length c1) := (hK.below.cell (p := ⟨p, 1, none⟩) hp).trans cp1
  have ep2 : (numW w).cell? ⟨p, 2, none⟩ = some (.int .i64 x1) := (hK.below.cell (p := ⟨p, 2, none⟩) hp).trans cp2
  have eq0 : (numW w).cell? ⟨q, 0, none⟩ = some (.bool n2) := (hK.below.cell (p := ⟨q, 0, none⟩) hq).trans cq0
  have eq1 : (numW w).cell? ⟨q, 1, none⟩ = some (.slice a2 L2.length c2) := (hK.below.cell (p := ⟨q, 1, none⟩) hq).trans cq1
  have eq2 : (numW w).cell? ⟨q, 2, none⟩ = some (.int .i64 x2) := (hK.below.cell (p := ⟨q, 2, none⟩) hq).trans cq2
  clear h1 h2 hv1 hv2 hne1 hne2 cp0 cp1 cp2 cq0 cq1 cq2 b1 b2 hno p1 p2 p3 p4 q1 q2 q3 q4
  generalize L1.length = l1 at *
  generalize L2.length = l2 at *
  go_enter Tryd.func28, Tryd.ntmps28
  go_wp2_with (first | (go_at_call 29; refine KP.out.mono ?_; rintro e w1 ⟨rfl, hk1⟩))
  exact ⟨rfl, rfl, hK.trans hk1⟩

set_option maxHeartbeats 1000000 in
set_option maxRecDepth 100000 in
theorem mul_no (w : World) (n1 : Bool) (L1 : List Int) (x1 : Int) (hne1 : L1 ≠ []) (hv1 : vld ⟨n1, L1, x1⟩ = true) (a1 : Option Addr) (c1 : Nat) (n2 : Bool) (L2 : List Int) (x2 : Int) (hne2 : L2 ≠ []) (hv2 : vld ⟨n2, L2, x2⟩ = true) (a2 : Option Addr) (c2 : Nat)  (h1 : Sl w (.slice a1 L1.length c1) L1) (h2 : Sl w (.slice a2 L2.length c2) L2)  (hno : 60000 < (bl (nv L1) : Int) + (bl (nv L2) : Int) - 1 ∨ x1 + x2 < -1048576 ∨ 1048576 < x1 + x2) : Calls Tryd.prog 9 #[.agg #[.bool n1, .slice a1 L1.length c1, .int .i64 x1], .agg #[.bool n2, .slice a2 L2.length c2, .int .i64 x2]] w fun e w' => e = .returned (.tuple #[zeroNum, .int .i64 2]) ∧ Kept w w' := by
  have hW := addW_kept w #[.bool n1, .slice a1 L1.length c1, .int .i64 x1] #[.bool n2, .slice a2 L2.length c2, .int .i64 x2] (pairC n1 (.slice a1 L1.length c1) x1 n2 (.slice a2 L2.length c2) x2)
  have hd1 := vld_dg _ _ _ hv1
  have hd2 := vld_dg _ _ _ hv2
  have KV : Hid (∀ w', Kept (addW w #[.bool n1, .slice a1 L1.length c1, .int .i64 x1] #[.bool n2, .slice a2 L2.length c2, .int .i64 x2] (pairC n1 (.slice a1 L1.length c1) x1 n2 (.slice a2 L2.length c2) x2)) w' → Calls Tryd.prog 54 #[.slice (some ⟨w.heap.size + 3, 0, none⟩) 2 2] w' fun e w'' => e = .returned (.bool true) ∧ Kept w' w'') := fun u k => by
    have hb : w.heap.size + 3 < (addW w #[.bool n1, .slice a1 L1.length c1, .int .i64 x1] #[.bool n2, .slice a2 L2.length c2, .int .i64 x2] (pairC n1 (.slice a1 L1.length c1) x1 n2 (.slice a2 L2.length c2) x2)).heap.size := by simp
    have := allValid_2 u (w.heap.size + 3) 2 n1 n2 a1 a2 L1.length c1 L2.length c2 x1 x2 true true (Nat.lt_of_lt_of_le hb k.below.size) ((k.below.cell (p := ⟨w.heap.size + 3, 0, none⟩) hb).trans (by simp [go_sem])) ((k.below.cell (p := ⟨w.heap.size + 3, 1, none⟩) hb).trans (by simp [go_sem])) ((k.below.cell (p := ⟨w.heap.size + 3, 2, none⟩) hb).trans (by simp [go_sem])) ((k.below.cell (p := ⟨w.heap.size + 3, 3, none⟩) hb).trans (by simp [go_sem])) ((k.below.cell (p := ⟨w.heap.size + 3, 4, none⟩) hb).trans (by simp [go_sem])) ((k.below.cell (p := ⟨w.heap.size + 3, 5, none⟩) hb).trans (by simp [go_sem])) (fun v kv => ?_) (fun v kv => ?_)
    · exact this
    · have := xvalid_any ⟨n1, L1, x1⟩ hd1.2.rg (by dsimp only; omega) (.agg #[.bool n1, .slice a1 L1.length c1, .int .i64 x1]) v ⟨_, rfl, ((h1.kept hW).kept k).kept kv⟩
      rw [hv1] at this
      exact this
    · have := xvalid_any ⟨n2, L2, x2⟩ hd2.2.rg (by dsimp only; omega) (.agg #[.bool n2, .slice a2 L2.length c2, .int .i64 x2]) v ⟨_, rfl, ((h2.kept hW).kept k).kept kv⟩
      rw [hv2] at this
      exact this
  have KT : Hid (Calls Tryd.prog 25 #[.func (.func 28) #[] #[.pointer (some ⟨w.heap.size, 0, none⟩), .pointer (some ⟨w.heap.size + 1, 0, none⟩)], .slice (some ⟨w.heap.size + 3, 0, none⟩) 2 2] (addW w #[.bool n1, .slice a1 L1.length c1, .int .i64 x1] #[.bool n2, .slice a2 L2.length c2, .int .i64 x2] (pairC n1 (.slice a1 L1.length c1) x1 n2 (.slice a2 L2.length c2) x2)) fun e w' => e = .returned (.tuple #[zeroNum, .int .i64 2]) ∧ Kept (addW w #[.bool n1, .slice a1 L1.length c1, .int .i64 x1] #[.bool n2, .slice a2 L2.length c2, .int .i64 x2] (pairC n1 (.slice a1 L1.length c1) x1 n2 (.slice a2 L2.length c2) x2)) w') := by
    refine told_no 28 _ (fun w => call_of Tryd.func28 (by kernel_rfl) (by kernel_rfl) _ w) _  _ KV (fun u k => ?_)
    have hs := k.below.size
    simp only [addW, World.size_alloc] at hs
    exact mul_in_no u n1 L1 x1 hne1 hv1 a1 c1 n2 L2 x2 hne2 hv2 a2 c2 ((h1.kept hW).kept k) ((h2.kept hW).kept k)  hno _ _ (by omega) (by omega) ((k.below.cell (p := ⟨w.heap.size, 0, none⟩) (by simp <;> omega)).trans (by simp [go_sem])) ((k.below.cell (p := ⟨w.heap.size, 1, none⟩) (by simp <;> omega)).trans (by simp [go_sem])) ((k.below.cell (p := ⟨w.heap.size, 2, none⟩) (by simp <;> omega)).trans (by simp [go_sem])) ((k.below.cell (p := ⟨w.heap.size + 1, 0, none⟩) (by simp <;> omega)).trans (by simp [go_sem])) ((k.below.cell (p := ⟨w.heap.size + 1, 1, none⟩) (by simp <;> omega)).trans (by simp [go_sem])) ((k.below.cell (p := ⟨w.heap.size + 1, 2, none⟩) (by simp <;> omega)).trans (by simp [go_sem]))
  have hmf : ∀ (fn : Fn) (first cap : Array Value) (w : World), (Instr.makeFunc fn first cap).run Tryd.prog w = .ok (.func fn first cap) w := fun _ _ _ _ => rfl
  clear h1 h2 hno hv1 hv2 hne1 hne2 KV hd1 hd2
  generalize L1.length = l1 at *
  generalize L2.length = l2 at *
  go_enter Tryd.func9, Tryd.ntmps9
  go_wp2_with (first | (go_at_call 25; refine KT.out.mono ?_; rintro e w1 ⟨rfl, hk1⟩; obtain ⟨f0, f1, f2, f3⟩ := res_cells (w.heap.size + 2) (by simp <;> omega) hk1 (by simp [go_sem]) (by simp [go_sem]) (by simp [go_sem]) (fun o => by simp [go_sem])))
  refine bodyPost_ret (v := .tuple #[zeroNum, .int .i64 2]) (by simp [results, Tryd.results9, go_sem, f0, f1, f2]) rfl ⟨rfl, res_kept (w.heap.size + 2) (by omega) hW hk1 _ _ _⟩

set_option maxHeartbeats 1000000 in
theorem compare_gt (a b : Int) (h : b < a) (w : World) : Calls Tryd.prog 112 #[.int .i64 a, .int .i64 b] w fun e w' => e = .returned (.int .i64 1) ∧ w = w' := by
  have h1 : (a != a) = false := by simp
  have h2 : (b != b) = false := by simp
  go_enter Tryd.func112, Tryd.ntmps112
  go_wp2
  go_ret
  exact ⟨rfl, rfl⟩

end Go.Proofs.YtalhnaakbekboaaDoor
