/- exact's order, Cmp, product and Mul of any two numbers. -/
import Derived.Test.YtjdehcndejejcaaDoorS4
import Derived.Test.YtjdehcndejejcaaDoorS6
namespace Go.Proofs.YtjdehcndejejcaaDoor
open Go.ChangeShapes Go.WideShapes Go.ChangeAt Go.RowKit
set_option linter.unusedVariables false
set_option linter.unusedSimpArgs false

theorem cz_add (a b s : Int) : cz (s + a) (s + b) = cz a b := by
  unfold cz
  split <;> split <;> (try split) <;> (try split) <;> omega
theorem tf_all (v1 v2 m : Nat) (h1 : bl v1 ≤ 30 * m) (h2 : bl v2 ≤ 30 * m) (k : Nat) (hk : k ≤ m) (hd : ∀ j, j < k → pcz v1 ((bl v1 : Int) - ((j : Int) + 1) * 30) = pcz v2 ((bl v2 : Int) - ((j : Int) + 1) * 30)) : tf v1 m / 2 ^ (30 * (m - k)) = tf v2 m / 2 ^ (30 * (m - k)) := by
  induction k with
  | zero =>
    rw [Nat.sub_zero, Nat.div_eq_of_lt (tf_lt v1 m h1), Nat.div_eq_of_lt (tf_lt v2 m h2)]
  | succ k ih =>
    have := ih (by omega) (fun j hj => hd j (by omega))
    have e := hd k (by omega)
    rw [pcz_tf v1 m k h1 (by omega), pcz_tf v2 m k h2 (by omega)] at e
    have s1 := tf_step (tf v1 m) m k (by omega)
    have s2 := tf_step (tf v2 m) m k (by omega)
    rw [show m - (k + 1) = m - k - 1 by omega]
    omega

theorem order_any (s : Int) (w : World) (n1 : Bool) (L1 : List Int) (x1 : Int) (hv1 : vld ⟨n1, L1, x1⟩ = true) (a1 : Option Addr) (c1 : Nat) (n2 : Bool) (L2 : List Int) (x2 : Int) (hv2 : vld ⟨n2, L2, x2⟩ = true) (a2 : Option Addr) (c2 : Nat) (hne1 : L1 ≠ []) (hne2 : L2 ≠ []) (g1 : s ≤ x1) (g2 : s ≤ x2)  (h1 : Sl w (.slice a1 L1.length c1) L1) (h2 : Sl w (.slice a2 L2.length c2) L2) : Calls Tryd.prog 48 #[.agg #[.bool n1, .slice a1 L1.length c1, .int .i64 x1], .agg #[.bool n2, .slice a2 L2.length c2, .int .i64 x2]] w fun e w' => e = .returned (.int .i64 (cz ((nv L1 * 2 ^ (x1 - s).toNat : Nat) : Int) ((nv L2 * 2 ^ (x2 - s).toNat : Nat) : Int))) ∧ Kept w w' := by
  obtain ⟨p1, p2, p3, p4, p5, p6⟩ := vld_some n1 L1 x1 hne1 hv1
  obtain ⟨q1, q2, q3, q4, q5, q6⟩ := vld_some n2 L2 x2 hne2 hv2
  have b1 := len_bl L1 p2 hne1 p3
  have b2 := len_bl L2 q2 hne2 q3
  have v1 := nv_pos_of n1 L1 x1 hne1 hv1
  have v2 := nv_pos_of n2 L2 x2 hne2 hv2
  obtain ⟨m, hm⟩ : ∃ m, m = max L1.length L2.length := ⟨_, rfl⟩
  have m1 : bl (nv L1) ≤ 30 * m := by omega
  have m2 : bl (nv L2) ≤ 30 * m := by omega
  refine order_walk n1 n2 a1 a2 L1.length c1 L2.length c2 m x1 x2 (x1 + (bl (nv L1) : Int)) (x2 + (bl (nv L2) : Int)) _ (bl (nv L1)) (bl (nv L2)) (fun k => pcz (nv L1) ((bl (nv L1) : Int) - ((k : Int) + 1) * 30)) (fun k => pcz (nv L2) ((bl (nv L2) : Int) - ((k : Int) + 1) * 30)) (by omega) (by omega) (by omega) (by omega) w
    (fun u k => top_any n1 L1 ⟨p2, fun _ => p3⟩ (by omega) a1 c1 x1 p5 p6 u (h1.kept k)) (fun u k => top_any n2 L2 ⟨q2, fun _ => q3⟩ (by omega) a2 c2 x2 q5 q6 u (h2.kept k))
    (fun u k => (length_any L1 ⟨p2, fun _ => p3⟩ (by omega) _ u (h1.kept k)).mono (fun e w' h => ⟨h.1, by rw [h.2]; exact Kept.refl _⟩)) (fun u k => (length_any L2 ⟨q2, fun _ => q3⟩ (by omega) _ u (h2.kept k)).mono (fun e w' h => ⟨h.1, by rw [h.2]; exact Kept.refl _⟩))
    (fun u kk k hk => piece_any L1 p2 _ _ (by omega) (by omega) u (h1.kept kk)) (fun u kk k hk => piece_any L2 q2 _ _ (by omega) (by omega) u (h2.kept kk)) (fun hT => ?_) (fun hT hd => ?_) (fun hT k hk hd hne => ?_)
  · have := cz_top (nv L1) (nv L2) (x1 - s).toNat (x2 - s).toNat (by omega) (by omega) (by omega)
    refine Eq.trans ?_ (Eq.trans (cz_add _ _ s) this)
    congr 1 <;> omega
  · have hF := tf_all (nv L1) (nv L2) m m1 m2 m (Nat.le_refl _) hd
    rw [Nat.sub_self, Nat.mul_zero, Nat.pow_zero, Nat.div_one, Nat.div_one] at hF
    rw [← cz_nat_tf (nv L1) (nv L2) m _ _ m1 m2 (by omega), hF]
    exact cz_eq rfl
  · have hF := tf_all (nv L1) (nv L2) m m1 m2 k (by omega) hd
    rw [← cz_nat_tf (nv L1) (nv L2) m _ _ m1 m2 (by omega)]
    (try dsimp only at hne ⊢)
    rw [pcz_tf _ m k m1 hk, pcz_tf _ m k m2 hk] at hne ⊢
    have s1 := tf_step (tf (nv L1) m) m k hk
    have s2 := tf_step (tf (nv L2) m) m k hk
    generalize tf (nv L1) m / 2 ^ (30 * (m - k - 1)) % 1073741824 = y1 at *
    generalize tf (nv L2) m / 2 ^ (30 * (m - k - 1)) % 1073741824 = y2 at *
    rcases Nat.lt_or_gt_of_ne (show y1 ≠ y2 by omega) with h | h
    · have := lt_of_div (tf (nv L1) m) (tf (nv L2) m) (2 ^ (30 * (m - k - 1))) (by omega)
      rw [cz_lt (by omega), cz_lt (by omega)]
    · have := lt_of_div (tf (nv L2) m) (tf (nv L1) m) (2 ^ (30 * (m - k - 1))) (by omega)
      rw [cz_gt (by omega), cz_gt (by omega)]

set_option maxHeartbeats 1000000 in
theorem order_nil (n1 n2 : Bool) (a1 a2 : Option Addr) (c1 c2 : Nat) (x1 x2 : Int) (he : x1 = x2) (hx1 : -1048576 ≤ x1) (hx2 : x1 ≤ 1048576) (w : World) (h1 : Sl w (.slice a1 0 c1) []) (h2 : Sl w (.slice a2 0 c2) []) : Calls Tryd.prog 48 #[.agg #[.bool n1, .slice a1 0 c1, .int .i64 x1], .agg #[.bool n2, .slice a2 0 c2, .int .i64 x2]] w fun e w' => e = .returned (.int .i64 0) ∧ Kept w w' := by
  subst he
  have t : ∀ (n : Bool) (a : Option Addr) (c : Nat) (u : World), Sl u (.slice a 0 c) [] → Calls Tryd.prog 72 #[.agg #[.bool n, .slice a 0 c, .int .i64 x1]] u fun e w' => e = .returned (.int .i64 x1) ∧ Kept u w' := fun n a c u h => by
    have := top_any n [] ⟨Dg.nil, fun h => absurd rfl h⟩ (by simp) a c x1 hx1 hx2 u h
    simpa [nv, bl] using this
  have l : ∀ (a : Option Addr) (c : Nat) (u : World), Calls Tryd.prog 76 #[.slice a 0 c] u fun e w' => e = .returned (.int .i64 ((0 : Nat) : Int)) ∧ Kept u w' := fun a c u => (length_nil a c u).mono (fun e w' h => ⟨h.1, by rw [h.2]; exact Kept.refl _⟩)
  exact order_walk n1 n2 a1 a2 0 c1 0 c2 0 x1 x1 x1 x1 0 0 0 (fun _ => 0) (fun _ => 0) (by simp) (by omega) (by omega) (by omega) w (fun u k => t _ _ _ u (h1.kept k)) (fun u k => t _ _ _ u (h2.kept k)) (fun u k => l _ _ u) (fun u k => l _ _ u) (fun u kk k hk => absurd hk (by omega)) (fun u kk k hk => absurd hk (by omega)) (fun h => absurd rfl h) (fun _ _ => rfl) (fun _ k hk => absurd hk (by omega))

set_option maxHeartbeats 4000000 in
set_option maxRecDepth 100000 in
theorem cmp_walk (n1 n2 : Bool) (a1 a2 : Option Addr) (l1 c1 l2 c2 : Nat) (x1 x2 G1 G2 O R : Int) (hG1 : G1 = -1 ∨ G1 = 0 ∨ G1 = 1) (hO : O = -1 ∨ O = 0 ∨ O = 1) (w : World)
    (KV : Hid (Calls Tryd.prog 45 #[.slice (some ⟨w.heap.size + 2, 0, none⟩) 2 2] (((w.alloc (.cells #[.bool n1, .slice a1 l1 c1, .int .i64 x1] 31)).alloc (.cells #[.bool n2, .slice a2 l2 c2, .int .i64 x2] 31)).alloc (.cells (pairC n1 (.slice a1 l1 c1) x1 n2 (.slice a2 l2 c2) x2) 31)) fun e w' => e = .returned (.bool true) ∧ Kept (((w.alloc (.cells #[.bool n1, .slice a1 l1 c1, .int .i64 x1] 31)).alloc (.cells #[.bool n2, .slice a2 l2 c2, .int .i64 x2] 31)).alloc (.cells (pairC n1 (.slice a1 l1 c1) x1 n2 (.slice a2 l2 c2) x2) 31)) w'))
    (KS1 : Hid (∀ u, Kept w u → Calls Tryd.prog 46 #[.agg #[.bool n1, .slice a1 l1 c1, .int .i64 x1]] u fun e w' => e = .returned (.int .i64 G1) ∧ Kept u w')) (KS2 : Hid (∀ u, Kept w u → Calls Tryd.prog 46 #[.agg #[.bool n2, .slice a2 l2 c2, .int .i64 x2]] u fun e w' => e = .returned (.int .i64 G2) ∧ Kept u w'))
    (KO : Hid (G1 = G2 → ∀ u, Kept w u → Calls Tryd.prog 48 #[.agg #[.bool n1, .slice a1 l1 c1, .int .i64 x1], .agg #[.bool n2, .slice a2 l2 c2, .int .i64 x2]] u fun e w' => e = .returned (.int .i64 O) ∧ Kept u w')) (R1 : Hid (G1 ≠ G2 → cz G1 G2 = R)) (R2 : Hid (G1 = G2 → G1 * O = R)) :
    Calls Tryd.prog 15 #[.agg #[.bool n1, .slice a1 l1 c1, .int .i64 x1], .agg #[.bool n2, .slice a2 l2 c2, .int .i64 x2]] w fun e w' => e = .returned (.tuple #[.int .i64 R, .int .i64 0]) ∧ Kept w w' := by
  obtain ⟨W, hW⟩ : ∃ W, W = (((w.alloc (.cells #[.bool n1, .slice a1 l1 c1, .int .i64 x1] 31)).alloc (.cells #[.bool n2, .slice a2 l2 c2, .int .i64 x2] 31)).alloc (.cells (pairC n1 (.slice a1 l1 c1) x1 n2 (.slice a2 l2 c2) x2) 31)) := ⟨_, rfl⟩
  have hK : Kept w W := by rw [hW]; exact (((Kept.refl w).alloc _ _).alloc _ _).alloc _ _
  have hWs : W.heap.size = w.heap.size + 3 := by rw [hW]; simp
  have HS : Hid (∀ u, Kept W u → Kept W u ∧ ((u.cell? ⟨w.heap.size, 0, none⟩ = some (.bool n1) ∧ u.cell? ⟨w.heap.size, 1, none⟩ = some (.slice a1 l1 c1)) ∧ u.cell? ⟨w.heap.size, 2, none⟩ = some (.int .i64 x1)) ∧ (u.cell? ⟨w.heap.size + 1, 0, none⟩ = some (.bool n2) ∧ u.cell? ⟨w.heap.size + 1, 1, none⟩ = some (.slice a2 l2 c2)) ∧ u.cell? ⟨w.heap.size + 1, 2, none⟩ = some (.int .i64 x2)) := fun u k => ⟨k, ⟨⟨((k.below.cell (p := ⟨w.heap.size, 0, none⟩) (by show w.heap.size < W.heap.size; omega)).trans (by rw [hW]; simp [go_sem])), ((k.below.cell (p := ⟨w.heap.size, 1, none⟩) (by show w.heap.size < W.heap.size; omega)).trans (by rw [hW]; simp [go_sem]))⟩, ((k.below.cell (p := ⟨w.heap.size, 2, none⟩) (by show w.heap.size < W.heap.size; omega)).trans (by rw [hW]; simp [go_sem]))⟩, ⟨((k.below.cell (p := ⟨w.heap.size + 1, 0, none⟩) (by show w.heap.size + 1 < W.heap.size; omega)).trans (by rw [hW]; simp [go_sem])), ((k.below.cell (p := ⟨w.heap.size + 1, 1, none⟩) (by show w.heap.size + 1 < W.heap.size; omega)).trans (by rw [hW]; simp [go_sem]))⟩, ((k.below.cell (p := ⟨w.heap.size + 1, 2, none⟩) (by show w.heap.size + 1 < W.heap.size; omega)).trans (by rw [hW]; simp [go_sem]))⟩
  have CC : ∀ x y w, Calls Tryd.prog 47 #[.int .i64 x, .int .i64 y] w fun e w' => e = .returned (.int .i64 (cz x y)) ∧ w = w' := compare_cz
  rw [← hW] at KV
  go_enter Tryd.func15, Tryd.ntmps15
  go_wp2_with fail
  rw [← hW]
  refine KV.out.mono ?_
  rintro e w1 ⟨rfl, hk1⟩
  clear hW KV
  go_wp2_with fail
  have k1 := hk1.drew
  have e1 := HS.out _ k1
  refine wp_region_held_drew (S := fun u => Kept W u ∧ ((u.cell? ⟨w.heap.size, 0, none⟩ = some (.bool n1) ∧ u.cell? ⟨w.heap.size, 1, none⟩ = some (.slice a1 l1 c1)) ∧ u.cell? ⟨w.heap.size, 2, none⟩ = some (.int .i64 x1)) ∧ (u.cell? ⟨w.heap.size + 1, 0, none⟩ = some (.bool n2) ∧ u.cell? ⟨w.heap.size + 1, 1, none⟩ = some (.slice a2 l2 c2)) ∧ u.cell? ⟨w.heap.size + 1, 2, none⟩ = some (.int .i64 x2)) (by kernel_rfl) e1 (fun hHeld0 => ?_)
  refine wpAnyH_take (i := 0) (v := ?_) rfl (by kernel_rfl) (by kernel_rfl) (by kernel_rfl) (fun _ _ _ h => h) (Or.inl ⟨by rfl, ?hya0⟩) (by assumption) ?_
  case hya0 => (intro w hSw; (try dsimp only at hSw); go_simp; try (with_reducible rfl))
  simp only [Act.put, List.getElem_toArray, List.getElem_cons_succ, List.getElem_cons_zero, List.setIfInBounds_toArray, List.set_cons_zero, List.set_cons_succ]
  refine wpAnyH_take (i := 2) (v := ?_) rfl (by kernel_rfl) (by kernel_rfl) (by kernel_rfl) (fun _ _ _ h => h) (Or.inl ⟨by rfl, ?hya2⟩) (by assumption) ?_
  case hya2 => (intro w hSw; (try dsimp only at hSw); go_simp; try (with_reducible rfl))
  simp only [Act.put, List.getElem_toArray, List.getElem_cons_succ, List.getElem_cons_zero, List.setIfInBounds_toArray, List.set_cons_zero, List.set_cons_succ]
  refine wpAnyH_ready (rs := [1]) (by kernel_rfl) (by simp) ?_
  refine AllReadyH.cons rfl (fun K hK9 => ?_) AllReadyH.nil
  go_simp
  go_wp2_with fail
  refine (KS1.out _ (hK.trans k1)).mono ?_
  rintro e u2 ⟨rfl, q2⟩
  have k2 := k1.trans q2
  have e2 := HS.out _ k2
  refine hK9.out _ _ e2 (fun hHeld2 => ?_)
  clear hK9 K
  refine wpAnyH_ready (rs := [3]) (by kernel_rfl) (by simp) ?_
  refine AllReadyH.cons rfl (fun K hK9 => ?_) AllReadyH.nil
  go_simp
  go_wp2_with fail
  refine (KS2.out _ (hK.trans k2)).mono ?_
  rintro e u3 ⟨rfl, q3⟩
  have k3 := k2.trans q3
  have e3 := HS.out _ k3
  refine hK9.out _ _ e3 (fun hHeld3 => ?_)
  clear hK9 K
  refine wpAnyH_take (i := 4) (v := ?_) rfl (by kernel_rfl) (by kernel_rfl) (by kernel_rfl) (fun _ _ _ h => h) (Or.inl ⟨by rfl, ?hyb4⟩) (by assumption) ?_
  case hyb4 => (intro w hSw; (try dsimp only at hSw); go_simp; try (with_reducible rfl))
  simp only [Act.put, List.getElem_toArray, List.getElem_cons_succ, List.getElem_cons_zero, List.setIfInBounds_toArray, List.set_cons_zero, List.set_cons_succ]
  refine wpAnyH_done (by kernel_rfl) ?_ _
  clear hHeld0 hHeld2 hHeld3 e1 e2
  by_cases hGG : G1 = G2
  · subst hGG
    have hR := R2.out rfl
    clear R1 R2 KS2
    go_wp2_with fail
    have k4 := k3.drew
    have e4 := HS.out _ k4
    refine wp_region_held_drew (S := fun u => Kept W u ∧ ((u.cell? ⟨w.heap.size, 0, none⟩ = some (.bool n1) ∧ u.cell? ⟨w.heap.size, 1, none⟩ = some (.slice a1 l1 c1)) ∧ u.cell? ⟨w.heap.size, 2, none⟩ = some (.int .i64 x1)) ∧ (u.cell? ⟨w.heap.size + 1, 0, none⟩ = some (.bool n2) ∧ u.cell? ⟨w.heap.size + 1, 1, none⟩ = some (.slice a2 l2 c2)) ∧ u.cell? ⟨w.heap.size + 1, 2, none⟩ = some (.int .i64 x2)) (by kernel_rfl) e4 (fun hHeld0 => ?_)
    refine wpAnyH_take (i := 0) (v := ?_) rfl (by kernel_rfl) (by kernel_rfl) (by kernel_rfl) (fun _ _ _ h => h) (Or.inl ⟨by rfl, ?hye0⟩) (by assumption) ?_
    case hye0 => (intro w hSw; (try dsimp only at hSw); go_simp; try (with_reducible rfl))
    simp only [Act.put, List.getElem_toArray, List.getElem_cons_succ, List.getElem_cons_zero, List.setIfInBounds_toArray, List.set_cons_zero, List.set_cons_succ]
    refine wpAnyH_take (i := 2) (v := ?_) rfl (by kernel_rfl) (by kernel_rfl) (by kernel_rfl) (fun _ _ _ h => h) (Or.inl ⟨by rfl, ?hye2⟩) (by assumption) ?_
    case hye2 => (intro w hSw; (try dsimp only at hSw); go_simp; try (with_reducible rfl))
    simp only [Act.put, List.getElem_toArray, List.getElem_cons_succ, List.getElem_cons_zero, List.setIfInBounds_toArray, List.set_cons_zero, List.set_cons_succ]
    refine wpAnyH_take (i := 3) (v := ?_) rfl (by kernel_rfl) (by kernel_rfl) (by kernel_rfl) (fun _ _ _ h => h) (Or.inl ⟨by rfl, ?hye3⟩) (by assumption) ?_
    case hye3 => (intro w hSw; (try dsimp only at hSw); go_simp; try (with_reducible rfl))
    simp only [Act.put, List.getElem_toArray, List.getElem_cons_succ, List.getElem_cons_zero, List.setIfInBounds_toArray, List.set_cons_zero, List.set_cons_succ]
    refine wpAnyH_ready (rs := [1]) (by kernel_rfl) (by simp) ?_
    refine AllReadyH.cons rfl (fun K hK9 => ?_) AllReadyH.nil
    go_simp
    go_wp2_with fail
    refine (KS1.out _ (hK.trans k4)).mono ?_
    rintro e u5 ⟨rfl, q5⟩
    have k5 := k4.trans q5
    have e5 := HS.out _ k5
    refine hK9.out _ _ e5 (fun hHeld5 => ?_)
    clear hK9 K
    refine wpAnyH_ready (rs := [4]) (by kernel_rfl) (by simp) ?_
    refine AllReadyH.cons rfl (fun K hK9 => ?_) AllReadyH.nil
    go_simp
    go_wp2_with fail
    refine (KO.out (by first | rfl | trivial) _ (hK.trans k5)).mono ?_
    rintro e u6 ⟨rfl, q6⟩
    have k6 := k5.trans q6
    have e6 := HS.out _ k6
    refine hK9.out _ _ e6 (fun hHeld6 => ?_)
    clear hK9 K
    refine wpAnyH_take (i := 5) (v := ?_) rfl (by kernel_rfl) (by kernel_rfl) (by kernel_rfl) (fun _ _ _ h => h) (Or.inl ⟨by rfl, ?hyf5⟩) (by assumption) ?_
    case hyf5 => (intro w hSw; (try dsimp only at hSw); go_simp; try (with_reducible rfl))
    simp only [Act.put, List.getElem_toArray, List.getElem_cons_succ, List.getElem_cons_zero, List.setIfInBounds_toArray, List.set_cons_zero, List.set_cons_succ]
    refine wpAnyH_take (i := 6) (v := ?_) rfl (by kernel_rfl) (by kernel_rfl) (by kernel_rfl) (fun _ _ _ h => h) (Or.inl ⟨by rfl, ?hyf6⟩) (by assumption) ?_
    case hyf6 => (intro w hSw; (try dsimp only at hSw); go_simp; try (with_reducible rfl))
    simp only [Act.put, List.getElem_toArray, List.getElem_cons_succ, List.getElem_cons_zero, List.setIfInBounds_toArray, List.set_cons_zero, List.set_cons_succ]
    refine wpAnyH_take (i := 7) (v := ?_) rfl (by kernel_rfl) (by kernel_rfl) (by kernel_rfl) (fun _ _ _ h => h) (Or.inl ⟨by rfl, ?hyf7⟩) (by assumption) ?_
    case hyf7 => (intro w hSw; (try dsimp only at hSw); go_simp; try (with_reducible rfl))
    simp only [Act.put, List.getElem_toArray, List.getElem_cons_succ, List.getElem_cons_zero, List.setIfInBounds_toArray, List.set_cons_zero, List.set_cons_succ]
    refine wpAnyH_done (by kernel_rfl) ?_ _
    clear hHeld0 hHeld5 hHeld6
    have HWR : Hid (IntKind.i64.wrap R = R) := by
      show IntKind.i64.wrap R = R
      rw [← hR]
      rcases hG1 with h | h | h <;> rcases hO with h' | h' | h' <;> subst h <;> subst h' <;> decide
    clear hR
    go_wp2
    go_ret2
    refine ⟨?_, hK.trans k6⟩
    show Ending.returned (.tuple #[.int .i64 (IntKind.i64.wrap R), .int .i64 0]) = _
    rw [HWR.out]
  · have hR := R1.out hGG
    clear R1 R2 KO
    go_wp2_with fail
    have k4 := k3.drew
    have e4 := HS.out _ k4
    refine wp_region_held_drew (S := fun u => Kept W u ∧ ((u.cell? ⟨w.heap.size, 0, none⟩ = some (.bool n1) ∧ u.cell? ⟨w.heap.size, 1, none⟩ = some (.slice a1 l1 c1)) ∧ u.cell? ⟨w.heap.size, 2, none⟩ = some (.int .i64 x1)) ∧ (u.cell? ⟨w.heap.size + 1, 0, none⟩ = some (.bool n2) ∧ u.cell? ⟨w.heap.size + 1, 1, none⟩ = some (.slice a2 l2 c2)) ∧ u.cell? ⟨w.heap.size + 1, 2, none⟩ = some (.int .i64 x2)) (by kernel_rfl) e4 (fun hHeld0 => ?_)
    refine wpAnyH_take (i := 0) (v := ?_) rfl (by kernel_rfl) (by kernel_rfl) (by kernel_rfl) (fun _ _ _ h => h) (Or.inl ⟨by rfl, ?hyc0⟩) (by assumption) ?_
    case hyc0 => (intro w hSw; (try dsimp only at hSw); go_simp; try (with_reducible rfl))
    simp only [Act.put, List.getElem_toArray, List.getElem_cons_succ, List.getElem_cons_zero, List.setIfInBounds_toArray, List.set_cons_zero, List.set_cons_succ]
    refine wpAnyH_take (i := 2) (v := ?_) rfl (by kernel_rfl) (by kernel_rfl) (by kernel_rfl) (fun _ _ _ h => h) (Or.inl ⟨by rfl, ?hyc2⟩) (by assumption) ?_
    case hyc2 => (intro w hSw; (try dsimp only at hSw); go_simp; try (with_reducible rfl))
    simp only [Act.put, List.getElem_toArray, List.getElem_cons_succ, List.getElem_cons_zero, List.setIfInBounds_toArray, List.set_cons_zero, List.set_cons_succ]
    refine wpAnyH_ready (rs := [1]) (by kernel_rfl) (by simp) ?_
    refine AllReadyH.cons rfl (fun K hK9 => ?_) AllReadyH.nil
    go_simp
    go_wp2_with fail
    refine (KS1.out _ (hK.trans k4)).mono ?_
    rintro e u5 ⟨rfl, q5⟩
    have k5 := k4.trans q5
    have e5 := HS.out _ k5
    refine hK9.out _ _ e5 (fun hHeld5 => ?_)
    clear hK9 K
    refine wpAnyH_ready (rs := [3]) (by kernel_rfl) (by simp) ?_
    refine AllReadyH.cons rfl (fun K hK9 => ?_) AllReadyH.nil
    go_simp
    go_wp2_with fail
    refine (KS2.out _ (hK.trans k5)).mono ?_
    rintro e u6 ⟨rfl, q6⟩
    have k6 := k5.trans q6
    have e6 := HS.out _ k6
    refine hK9.out _ _ e6 (fun hHeld6 => ?_)
    clear hK9 K
    refine wpAnyH_ready (rs := [4]) (by kernel_rfl) (by simp) ?_
    refine AllReadyH.cons rfl (fun K hK9 => ?_) AllReadyH.nil
    go_simp
    go_wp2_with fail
    refine (CC _ _ _).mono ?_
    rintro e u9 ⟨rfl, rfl⟩
    refine hK9.out _ _ e6 (fun hHeld9 => ?_)
    clear hK9 K
    refine wpAnyH_take (i := 5) (v := ?_) rfl (by kernel_rfl) (by kernel_rfl) (by kernel_rfl) (fun _ _ _ h => h) (Or.inl ⟨by rfl, ?hyd5⟩) (by assumption) ?_
    case hyd5 => (intro w hSw; (try dsimp only at hSw); go_simp; try (with_reducible rfl))
    simp only [Act.put, List.getElem_toArray, List.getElem_cons_succ, List.getElem_cons_zero, List.setIfInBounds_toArray, List.set_cons_zero, List.set_cons_succ]
    refine wpAnyH_take (i := 6) (v := ?_) rfl (by kernel_rfl) (by kernel_rfl) (by kernel_rfl) (fun _ _ _ h => h) (Or.inl ⟨by rfl, ?hyd6⟩) (by assumption) ?_
    case hyd6 => (intro w hSw; (try dsimp only at hSw); go_simp; try (with_reducible rfl))
    simp only [Act.put, List.getElem_toArray, List.getElem_cons_succ, List.getElem_cons_zero, List.setIfInBounds_toArray, List.set_cons_zero, List.set_cons_succ]
    refine wpAnyH_done (by kernel_rfl) ?_ _
    clear hHeld0 hHeld5 hHeld6 hHeld9
    rw [hR]
    go_wp2
    go_ret2
    exact ⟨rfl, hK.trans k6⟩
end Go.Proofs.YtjdehcndejejcaaDoor
