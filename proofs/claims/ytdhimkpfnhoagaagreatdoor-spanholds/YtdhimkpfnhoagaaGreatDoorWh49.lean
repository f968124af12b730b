/- Package span's laws: within; keys of what lies places below and above. Package span: Div. Intervals around finite floats, by keys. -/
import Derived.Test.YtdhimkpfnhoagaaGreatDoorWh48
import Derived.Test.YtdhimkpfnhoagaaGreatDoorWh47
import Derived.Test.YtdhimkpfnhoagaaGreatDoorWh34
namespace Go.Proofs.YtdhimkpfnhoagaaGreatDoor
open Go.ChangeShapes Go.WideShapes Go.ChangeAt Go.RowKit Ieee
set_option linter.unusedVariables false
set_option linter.unusedSimpArgs false

theorem nu_64 (b : Int) : isnum b 64 = true ↔ b % 9223372036854775808 ≤ 9218868437227405312 := by
  rw [isnum_64, decide_eq_true_eq, ne_eq]
  unfold cls clsOf
  rw [if_pos rfl]
  (repeat' split) <;> omega
theorem nu_32 (b : Int) : isnum b 32 = true ↔ (0 ≤ b ∧ b < 4294967296) ∧ b % 2147483648 ≤ 2139095040 := by
  rw [isnum_32, decide_eq_true_eq, ne_eq]
  unfold cls clsOf
  rw [if_neg (by decide)]
  (repeat' split) <;> omega
theorem nxt_up (b n : Int) (hb : RB b) (h : isnum b n = true) : isnum (nxt b n) n = true ∧ keyOf b n ≤ keyOf (nxt b n) n := by
  obtain ⟨h1, h2⟩ := hb
  rcases isnum_wid b n h with rfl | rfl
  · have h' := (nu_64 b).1 h
    rw [nu_64]
    unfold nxt keyOf
    rw [if_pos h]
    simp only [if_true]
    (repeat' split) <;> omega
  · have h' := (nu_32 b).1 h
    rw [nu_32]
    unfold nxt keyOf
    rw [if_pos h]
    simp only [show ¬ (32 : Int) = 64 by decide, if_false]
    (repeat' split) <;> omega
theorem ngt_up (b n : Int) (hb : RB b) (h : isnum b n = true) : isnum (ngt b n) n = true ∧ keyOf (ngt b n) n = -keyOf b n := by
  obtain ⟨h1, h2⟩ := hb
  rcases isnum_wid b n h with rfl | rfl
  · have h' := (nu_64 b).1 h
    rw [nu_64]
    unfold ngt keyOf
    rw [if_pos h]
    simp only [if_true]
    (repeat' split) <;> omega
  · have h' := (nu_32 b).1 h
    rw [nu_32]
    unfold ngt keyOf
    rw [if_pos h]
    simp only [show ¬ (32 : Int) = 64 by decide, if_false]
    (repeat' split) <;> omega
theorem prv_dn (b n : Int) (hb : RB b) (h : isnum b n = true) : isnum (prv b n) n = true ∧ keyOf (prv b n) n ≤ keyOf b n := by
  have h1 := ngt_up b n hb h
  have r1 := ngt_rb n b hb
  have h2 := nxt_up _ n r1 h1.1
  have r2 := nxt_rb n _ r1
  have h3 := ngt_up _ n r2 h2.1
  unfold prv
  exact ⟨h3.1, by omega⟩
theorem itr_up (b n : Int) (k : Nat) (hb : RB b) (h : isnum b n = true) : RB (itr (nxt · n) k b) ∧ isnum (itr (nxt · n) k b) n = true ∧ keyOf b n ≤ keyOf (itr (nxt · n) k b) n := by
  refine ⟨itr_rng _ (nxt_rb n) k b hb, ?_⟩
  induction k with
  | zero => exact ⟨h, Int.le_refl _⟩
  | succ k h1 =>
    have h2 := nxt_up (itr (nxt · n) k b) n (itr_rng _ (nxt_rb n) k b hb) h1.1
    exact ⟨h2.1, Int.le_trans h1.2 h2.2⟩
theorem itr_dn (b n : Int) (k : Nat) (hb : RB b) (h : isnum b n = true) : RB (itr (prv · n) k b) ∧ isnum (itr (prv · n) k b) n = true ∧ keyOf (itr (prv · n) k b) n ≤ keyOf b n := by
  refine ⟨itr_rng _ (prv_rb n) k b hb, ?_⟩
  induction k with
  | zero => exact ⟨h, Int.le_refl _⟩
  | succ k h1 =>
    have h2 := prv_dn (itr (prv · n) k b) n (itr_rng _ (prv_rb n) k b hb) h1.1
    exact ⟨h2.1, Int.le_trans h2.2 h1.2⟩
end Go.Proofs.YtdhimkpfnhoagaaGreatDoor

namespace Go.Proofs.YtdhimkpfnhoagaaGreatDoor
open Go.ChangeShapes Go.WideShapes Go.ChangeAt Go.RowKit Ieee
set_option linter.unusedVariables false
set_option linter.unusedSimpArgs false

set_option maxHeartbeats 2000000 in
set_option maxRecDepth 100000 in
theorem div_walk (a1 b1 a2 b2 n : Int) (x1 y1 x2 y2 : Nat) (p1 p2 : Int) (hz : Bool) (J : Nat → Nat → Prop) (w : World)
    (KB : Hid (∀ u, Calls Tryz.prog 67 #[sp2 a1 b1, sp2 a2 b2, .int .i64 n] u fun e w' => e = .returned (.tuple #[fv2 x1 y1, fv2 x2 y2, .int .i64 0]) ∧ Kept u w'))
    (KH : Hid (∀ u, Calls Tryz.prog 76 #[fv2 x2 y2, fv2 0 0] u fun e w' => e = .returned (.bool hz) ∧ Kept u w'))
    (KC : Hid (hz = false → ∀ u P Q R, Kept w u → Crs u 78 n P Q R → Calls Tryz.prog 121 #[fv2 x1 y1, fv2 x2 y2, .pointer (some ⟨R, 0, none⟩)] u fun e w' => ∃ x y, e = .returned (fv2 x y) ∧ J x y ∧ Kept u w'))
    (KT : Hid (hz = false → ∀ u x y, J x y → Calls Tryz.prog 68 #[fv2 x y, .int .i64 n, .int .i64 0] u fun e w' => e = .returned (.tuple #[sp2 p1 p2, .int .i64 0]) ∧ Kept u w')) :
    Calls Tryz.prog 24 #[sp2 a1 b1, sp2 a2 b2, .int .i64 n] w fun e w' => e = .returned (.tuple (if hz = true then #[sp2 0 0, .int .i64 8] else #[sp2 p1 p2, .int .i64 0])) ∧ Kept w w' := by
  obtain ⟨X, hX⟩ : ∃ X, X = ((w.alloc (.cells #[.int .i64 a1, .int .i64 b1] 23)).alloc (.cells #[.int .i64 a2, .int .i64 b2] 23)).alloc (.cells #[.int .i64 0, .int .i64 0] 23) := ⟨_, rfl⟩
  have hP1 : P2 X w.heap.size (.int .i64 a1) (.int .i64 b1) := by
    rw [hX]
    exact ((P2.new w _ _ _).alloc _ _).alloc _ _
  have hP2 : P2 X (w.heap.size + 1) (.int .i64 a2) (.int .i64 b2) := by
    rw [hX]
    have := (P2.new (w.alloc (.cells #[.int .i64 a1, .int .i64 b1] 23)) (.int .i64 a2) (.int .i64 b2) 23).alloc #[.int .i64 0, .int .i64 0] 23
    simpa using this
  have hQ : P2 X (w.heap.size + 1 + 1) (.int .i64 0) (.int .i64 0) := by
    rw [hX]
    have := P2.new ((w.alloc (.cells #[.int .i64 a1, .int .i64 b1] 23)).alloc (.cells #[.int .i64 a2, .int .i64 b2] 23)) (.int .i64 0) (.int .i64 0) 23
    simpa using this
  have hK : Kept w X := by
    rw [hX]
    exact (((Kept.refl w).alloc _ _).alloc _ _).alloc _ _
  obtain ⟨H1, hH1⟩ : ∃ H, H = w.heap.size + 1 := ⟨_, rfl⟩
  obtain ⟨H2, hH2⟩ : ∃ H, H = H1 + 1 := ⟨_, rfl⟩
  rw [← hH1] at hP2 hQ
  rw [← hH2] at hQ
  have o2 : w.heap.size ≤ H2 := by omega
  have hSF := sto_f
  go_enter Tryz.func24, Tryz.ntmps24
  go_upto_region 1 with fail
  rw [← hX, ← hH1, ← hH2]
  clear hX hH1 hH2
  obtain ⟨p10, p11, p1f⟩ := hP1
  obtain ⟨p20, p21, p2f⟩ := hP2
  go_upto_region 2 with (first | (go_at_call 67; refine (KB.out _).mono ?_; rintro e w1 ⟨rfl, k1⟩))
  have hQ1 := hQ.kept k1
  have kw1 := hK.trans k1
  have lH2 := hQ1.lt
  clear p10 p11 p1f p20 p21 p2f KB hK hQ k1
  obtain ⟨Y, hY⟩ : ∃ Y, Y = (w1.alloc (.cells #[.float .f64 x1, .float .f64 y1] 87)).alloc (.cells #[.float .f64 x2, .float .f64 y2] 87) := ⟨_, rfl⟩
  have hC1 : P2 Y w1.heap.size (.float .f64 x1) (.float .f64 y1) := by
    rw [hY]
    exact (P2.new w1 _ _ _).alloc _ _
  have hC2 : P2 Y (w1.heap.size + 1) (.float .f64 x2) (.float .f64 y2) := by
    rw [hY]
    have := P2.new (w1.alloc (.cells #[.float .f64 x1, .float .f64 y1] 87)) (.float .f64 x2) (.float .f64 y2) 87
    simpa using this
  have kY : Kept w1 Y := by
    rw [hY]
    exact ((Kept.refl w1).alloc _ _).alloc _ _
  have hQY := hQ1.kept kY
  have kwY := kw1.trans kY
  obtain ⟨B1, hB1⟩ : ∃ B, B = w1.heap.size := ⟨_, rfl⟩
  obtain ⟨B2, hB2⟩ : ∃ B, B = B1 + 1 := ⟨_, rfl⟩
  rw [← hB1] at hC1 hC2
  rw [← hB2] at hC2
  rw [← hY, ← hB1, ← hB2]
  have n1 : H2 ≠ B1 := by omega
  have n2 : H2 ≠ B2 := by omega
  clear hY kw1 kY hQ1 hB1 hB2
  have KP : Hid (∀ u, Kept Y u → Calls Tryz.prog 77 #[.float .f64 0] u fun e w' => e = .returned (fv2 0 0) ∧ Kept Y w') := fun u k => by
    refine (point_any 0 u).mono ?_
    rintro e w' ⟨rfl, k'⟩
    exact ⟨rfl, k.trans k'⟩
  have KH2 : Hid (∀ u, Kept Y u → Calls Tryz.prog 76 #[fv2 x2 y2, fv2 0 0] u fun e w' => e = .returned (.bool hz) ∧ Kept Y w') := fun u k => by
    refine (KH.out u).mono ?_
    rintro e w' ⟨rfl, k'⟩
    exact ⟨rfl, k.trans k'⟩
  clear KH
  have kd0 : Kept Y Y.drew := (Kept.refl Y).drew
  have HS0 : Hid (∀ u, Kept Y u → Kept Y u ∧ (u.cell? ⟨B2, 0, none⟩ = some (.float .f64 x2) ∧ u.cell? ⟨B2, 1, none⟩ = some (.float .f64 y2))) := fun u k => ⟨k, (hC2.kept k).c0, (hC2.kept k).c1⟩
  go_region_held (fun u => Kept Y u ∧ (u.cell? ⟨B2, 0, none⟩ = some (.float .f64 x2) ∧ u.cell? ⟨B2, 1, none⟩ = some (.float .f64 y2))) (first | assumption | exact HS0.out _ kd0 | exact HS0.out _ (by assumption)) (first | (go_at_call 77; refine (KP.out _ (by assumption)).mono ?_; rintro e w4 ⟨rfl, k4⟩) | (go_at_call 76; refine (KH2.out _ (by assumption)).mono ?_; rintro e w5 ⟨rfl, k5⟩))
  clear KP KH2 HS0 kd0
  have hC1 := hC1.kept k5
  have hC2 := hC2.kept k5
  have hQY := hQY.kept k5
  have kwY := kwY.trans k5
  cases hz
  · have KC2 : Hid _ := KC.out rfl
    have KT2 : Hid _ := KT.out rfl
    clear KC KT
    go_upto_region 6 with fail
    have kd : Kept w5 w5.drew := (Kept.refl w5).drew
    have HS : Hid (∀ u, Kept w5 u → (u.cell? ⟨B1, 0, none⟩ = some (.float .f64 x1) ∧ u.cell? ⟨B1, 1, none⟩ = some (.float .f64 y1)) ∧ (u.cell? ⟨B2, 0, none⟩ = some (.float .f64 x2) ∧ u.cell? ⟨B2, 1, none⟩ = some (.float .f64 y2))) := fun u k => ⟨⟨(hC1.kept k).c0, (hC1.kept k).c1⟩, ⟨(hC2.kept k).c0, (hC2.kept k).c1⟩⟩
    refine wp_region_held_drew (S := fun u => (u.cell? ⟨B1, 0, none⟩ = some (.float .f64 x1) ∧ u.cell? ⟨B1, 1, none⟩ = some (.float .f64 y1)) ∧ (u.cell? ⟨B2, 0, none⟩ = some (.float .f64 x2) ∧ u.cell? ⟨B2, 1, none⟩ = some (.float .f64 y2))) (by kernel_rfl) (HS.out _ kd) (fun hHeld => ?_)
    refine wpAnyH_take (i := 0) (v := ?_) rfl (by kernel_rfl) (by kernel_rfl) (by kernel_rfl) (fun _ _ _ h => h) (Or.inl ⟨by rfl, ?hya0⟩) (by assumption) ?_
    case hya0 => (intro w hSw; (try dsimp only at hSw); go_simp; try (with_reducible rfl))
    simp only [Act.put, List.getElem_toArray, List.getElem_cons_succ, List.getElem_cons_zero, List.setIfInBounds_toArray, List.set_cons_zero, List.set_cons_succ]
    refine wpAnyH_take (i := 2) (v := ?_) rfl (by kernel_rfl) (by kernel_rfl) (by kernel_rfl) (fun _ _ _ h => h) (Or.inl ⟨by rfl, ?hya2⟩) (by assumption) ?_
    case hya2 => (intro w hSw; (try dsimp only at hSw); go_simp; try (with_reducible rfl))
    simp only [Act.put, List.getElem_toArray, List.getElem_cons_succ, List.getElem_cons_zero, List.setIfInBounds_toArray, List.set_cons_zero, List.set_cons_succ]
    refine wpAnyH_take (i := 3) (v := ?_) rfl (by kernel_rfl) (by kernel_rfl) (by kernel_rfl) (fun _ _ _ h => h) (Or.inl ⟨by rfl, ?hya3⟩) (by assumption) ?_
    case hya3 => (intro w hSw; (try dsimp only at hSw); go_simp; try (with_reducible rfl))
    simp only [Act.put, List.getElem_toArray, List.getElem_cons_succ, List.getElem_cons_zero, List.setIfInBounds_toArray, List.set_cons_zero, List.set_cons_succ]
    refine wpAnyH_take (i := 5) (v := ?_) rfl (by kernel_rfl) (by kernel_rfl) (by kernel_rfl) (fun _ _ _ h => h) (Or.inl ⟨by rfl, ?hya5⟩) (by assumption) ?_
    case hya5 => (intro w hSw; (try dsimp only at hSw); go_simp; try (with_reducible rfl))
    simp only [Act.put, List.getElem_toArray, List.getElem_cons_succ, List.getElem_cons_zero, List.setIfInBounds_toArray, List.set_cons_zero, List.set_cons_succ]
    refine wpAnyH_ready (rs := [1]) (by kernel_rfl) (by simp) ?_
    refine AllReadyH.cons rfl (fun K hK9 => ?_) AllReadyH.nil
    go_simp
    go_wp2_with fail
    refine (crossed_any _ _ _).mono ?_
    rintro e v1 ⟨P, Q, R, rfl, hCr, k1⟩
    have j1 := kd.trans k1
    refine hK9.out _ _ (HS.out _ j1) (fun hHeld1 => ?_)
    clear hK9 K
    refine wpAnyH_ready (rs := [4]) (by kernel_rfl) (by simp) ?_
    refine AllReadyH.cons rfl (fun K hK9 => ?_) AllReadyH.nil
    go_simp
    go_wp2_with fail
    refine (KC2.out _ _ _ _ (kwY.trans j1) hCr).mono ?_
    rintro e v2 ⟨x, y, rfl, hJ, k2⟩
    have j2 := j1.trans k2
    refine hK9.out _ _ (HS.out _ j2) (fun hHeld2 => ?_)
    clear hK9 K hCr
    refine wpAnyH_ready (rs := [6]) (by kernel_rfl) (by simp) ?_
    refine AllReadyH.cons rfl (fun K hK9 => ?_) AllReadyH.nil
    go_simp
    go_wp2_with fail
    refine (KT2.out _ _ _ hJ).mono ?_
    rintro e v3 ⟨rfl, k3⟩
    have j3 := j2.trans k3
    refine hK9.out _ _ (HS.out _ j3) (fun hHeld3 => ?_)
    clear hK9 K
    refine wpAnyH_take (i := 7) (v := ?_) rfl (by kernel_rfl) (by kernel_rfl) (by kernel_rfl) (fun _ _ _ h => h) (Or.inl ⟨by rfl, ?hyb8⟩) (by assumption) ?_
    case hyb8 => (intro w hSw; (try dsimp only at hSw); go_simp; try (with_reducible rfl))
    simp only [Act.put, List.getElem_toArray, List.getElem_cons_succ, List.getElem_cons_zero, List.setIfInBounds_toArray, List.set_cons_zero, List.set_cons_succ]
    refine wpAnyH_take (i := 8) (v := ?_) rfl (by kernel_rfl) (by kernel_rfl) (by kernel_rfl) (fun _ _ _ h => h) (Or.inl ⟨by rfl, ?hyb9⟩) (by assumption) ?_
    case hyb9 => (intro w hSw; (try dsimp only at hSw); go_simp; try (with_reducible rfl))
    simp only [Act.put, List.getElem_toArray, List.getElem_cons_succ, List.getElem_cons_zero, List.setIfInBounds_toArray, List.set_cons_zero, List.set_cons_succ]
    obtain ⟨c0, c1, cf⟩ := hQY.kept j3
    refine wpAnyH_ready (rs := [9]) (by kernel_rfl) (by simp) ?_
    refine AllReadyH.cons rfl (fun K hK9 => ?_) AllReadyH.nil
    go_simp
    have g1 := ((hC1.kept j3).set H2 0 n1 (.int .i64 p1)).set H2 1 n1 (.int .i64 p2)
    have g2 := ((hC2.kept j3).set H2 0 n2 (.int .i64 p1)).set H2 1 n2 (.int .i64 p2)
    refine hK9.out _ _ ⟨⟨g1.c0, g1.c1⟩, ⟨g2.c0, g2.c1⟩⟩ (fun hHeld4 => ?_)
    clear hK9 K
    refine wpAnyH_take (i := 10) (v := ?_) rfl (by kernel_rfl) (by kernel_rfl) (by kernel_rfl) (fun _ _ _ h => h) (Or.inl ⟨by rfl, ?hyc11⟩) (by assumption) ?_
    case hyc11 => (intro w hSw; (try dsimp only at hSw); go_simp; try (with_reducible rfl))
    simp only [Act.put, List.getElem_toArray, List.getElem_cons_succ, List.getElem_cons_zero, List.setIfInBounds_toArray, List.set_cons_zero, List.set_cons_succ]
    refine wpAnyH_done (by kernel_rfl) ?_ _
    go_wp2_with fail
    have hz := (P2.mk c0 c1 cf).put (.int .i64 p1) (.int .i64 p2)
    obtain ⟨m0, m1, mf⟩ := hz
    exact bodyPost_ret (v := .tuple #[sp2 p1 p2, .int .i64 0]) (by simp [results, Tryz.results24, go_sem, m0, m1]) rfl ⟨rfl, ((kwY.trans j3).setCell o2 _).setCell o2 _⟩
  · clear KC KT
    obtain ⟨c0, c1, cf⟩ := hQY
    go_wp2_with fail
    have hz := (P2.mk c0 c1 cf).put (.int .i64 0) (.int .i64 0)
    obtain ⟨m0, m1, mf⟩ := hz
    exact bodyPost_ret (v := .tuple #[sp2 0 0, .int .i64 8]) (by simp [results, Tryz.results24, go_sem, m0, m1]) rfl ⟨rfl, (kwY.setCell o2 _).setCell o2 _⟩
theorem div5_ok (a1 b1 a2 b2 n : Int) (s1 : RB a1) (s2 : RB b1) (s3 : RB a2) (s4 : RB b2) (hv1 : vsp a1 b1 n = true) (hv2 : vsp a2 b2 n = true) (hnz : ¬ (keyOf a2 n ≤ 0 ∧ 0 ≤ keyOf b2 n)) : ∃ d0 d1 d2 d3 u0 u1 u2 u3, (Qrk n 1 (keyOf a1 n) (keyOf a2 n) d0 ∧ Qrk n 1 (keyOf a1 n) (keyOf b2 n) d1 ∧ Qrk n 1 (keyOf b1 n) (keyOf a2 n) d2 ∧ Qrk n 1 (keyOf b1 n) (keyOf b2 n) d3) ∧ (Qrk n 2 (keyOf a1 n) (keyOf a2 n) u0 ∧ Qrk n 2 (keyOf a1 n) (keyOf b2 n) u1 ∧ Qrk n 2 (keyOf b1 n) (keyOf a2 n) u2 ∧ Qrk n 2 (keyOf b1 n) (keyOf b2 n) u3) ∧
    (∀ k, k = d0 ∨ k = d1 ∨ k = d2 ∨ k = d3 ∨ k = u0 ∨ k = u1 ∨ k = u2 ∨ k = u3 → -(ifn n : Int) ≤ k ∧ k ≤ (ifn n : Int)) ∧
    ∀ (w : World), Tab w → Calls Tryz.prog 24 #[sp2 a1 b1, sp2 a2 b2, .int .i64 n] w fun e w' => e = .returned (.tuple #[sp2 (pz n (min (min (min d0 d1) d2) d3)) (pz n (max (max (max u0 u1) u2) u3)), .int .i64 0]) ∧ Kept w w' := by
  obtain ⟨i1, i2, v3, v4, v5⟩ := vsp_num _ _ _ hv1
  obtain ⟨i3, i4, w3, w4, w5⟩ := vsp_num _ _ _ hv2
  have hn := isnum_wid _ _ i1
  obtain ⟨x1, y1, x2, y2, q, hB, KB⟩ := both_any a1 b1 a2 b2 n s1 s2 s3 s4
  have hq : q = 0 := hB.err.trans ((btE_zero _ _ _ _ _).2 ⟨hv1, hv2⟩)
  obtain ⟨f1, f2, f3, f4⟩ := hB.ok hq
  subst hq
  have t1 : (1 : Int) = 1 ∨ (1 : Int) = 2 := by simp
  have t2 : (2 : Int) = 1 ∨ (2 : Int) = 2 := by simp
  have na : keyOf a2 n ≠ 0 := by omega
  have nb : keyOf b2 n ≠ 0 := by omega
  obtain ⟨z0, d0, P0, F0, C0⟩ := squot_any n 1 hn t1 x1 x2 _ _ f1 f3 na
  obtain ⟨z1, d1, P1, F1, C1⟩ := squot_any n 1 hn t1 x1 y2 _ _ f1 f4 nb
  obtain ⟨z2, d2, P2, F2, C2⟩ := squot_any n 1 hn t1 y1 x2 _ _ f2 f3 na
  obtain ⟨z3, d3, P3, F3, C3⟩ := squot_any n 1 hn t1 y1 y2 _ _ f2 f4 nb
  obtain ⟨v0, u0, Q0, G0, D0⟩ := squot_any n 2 hn t2 x1 x2 _ _ f1 f3 na
  obtain ⟨v1, u1, Q1, G1, D1⟩ := squot_any n 2 hn t2 x1 y2 _ _ f1 f4 nb
  obtain ⟨v2, u2, Q2, G2, D2⟩ := squot_any n 2 hn t2 y1 x2 _ _ f2 f3 na
  obtain ⟨v3', u3, Q3, G3, D3⟩ := squot_any n 2 hn t2 y1 y2 _ _ f2 f4 nb
  refine ⟨d0, d1, d2, d3, u0, u1, u2, u3, ⟨P0, P1, P2, P3⟩, ⟨Q0, Q1, Q2, Q3⟩, ?_, fun w hT => ?_⟩
  · rintro k (rfl | rfl | rfl | rfl | rfl | rfl | rfl | rfl)
    · exact F0.rng
    · exact F1.rng
    · exact F2.rng
    · exact F3.rng
    · exact G0.rng
    · exact G1.rng
    · exact G2.rng
    · exact G3.rng
  have hzd : decide (keyOf a2 n ≤ 0 ∧ 0 ≤ keyOf b2 n) = false := decide_eq_false hnz
  have KHz : ∀ u, Calls Tryz.prog 76 #[fv2 x2 y2, fv2 0 0] u fun e w' => e = .returned (.bool false) ∧ Kept u w' := fun u => by
    have := holds_any n x2 y2 0 0 _ _ 0 0 f3 f4 (Fl.zero n hn) (Fl.zero n hn) u
    rw [hzd] at this
    exact this
  refine div_walk a1 b1 a2 b2 n x1 y1 x2 y2 _ _ false (fun x y => Fl n x (min (min (min d0 d1) d2) d3) ∧ Fl n y (max (max (max u0 u1) u2) u3)) w KB (fun u => KHz u) (fun _ u P Q R kwu hCr => ?_) (fun _ u x y h => told_ok5 h.1 h.2 u)
  refine crossed2_walk x1 y1 x2 y2 z0 v0 z1 v1 z2 v2 z3 v3' R P Q u _ hCr.lr hCr.r (fun s a b g1 g2 hc ks => ?_) (fun s B ks hE => ?_)
  · have hs := hCr.kept ks
    have hTs := (hT.kept kwu).kept ks
    refine outward_any 78 (fun a b c d w => call_of Tryz.func78 (by kernel_rfl) (by kernel_rfl) _ w) n a b g1 g2 s P Q hs.p hs.q hs.lp hs.lq (fun t way z kt hz => ?_)
    have hTt := hTs.kept kt
    rcases hc with ⟨rfl, rfl, rfl, rfl⟩ | ⟨rfl, rfl, rfl, rfl⟩ | ⟨rfl, rfl, rfl, rfl⟩ | ⟨rfl, rfl, rfl, rfl⟩ <;> rcases hz with ⟨rfl, rfl⟩ | ⟨rfl, rfl⟩
    · exact C0 t hTt
    · exact D0 t hTt
    · exact C1 t hTt
    · exact D1 t hTt
    · exact C2 t hTt
    · exact D2 t hTt
    · exact C3 t hTt
    · exact D3 t hTt
  · refine (joined_any n z0 v0 d0 u0 F0 G0 3 (by decide) _ _ (fun i => if i = 0 then d1 else if i = 1 then d2 else d3) (fun i => if i = 0 then u1 else if i = 1 then u2 else u3) (fun i hi => ?_) _ _ s (ivs_three hE)).mono ?_
    · rcases (show i = 0 ∨ i = 1 ∨ i = 2 by omega) with rfl | rfl | rfl
      · exact ⟨F1, G1⟩
      · exact ⟨F2, G2⟩
      · exact ⟨F3, G3⟩
    · rintro e w' ⟨x, y, rfl, h1, h2, k'⟩
      exact ⟨x, y, rfl, ⟨h1, h2⟩, k'⟩
theorem div5_no (a1 b1 a2 b2 n : Int) (s1 : RB a1) (s2 : RB b1) (s3 : RB a2) (s4 : RB b2) (hv1 : vsp a1 b1 n = true) (hv2 : vsp a2 b2 n = true) (hnz : keyOf a2 n ≤ 0 ∧ 0 ≤ keyOf b2 n) (w : World) : Calls Tryz.prog 24 #[sp2 a1 b1, sp2 a2 b2, .int .i64 n] w fun e w' => e = .returned (.tuple #[sp2 0 0, .int .i64 8]) ∧ Kept w w' := by
  obtain ⟨i1, i2, v3, v4, v5⟩ := vsp_num _ _ _ hv1
  have hn := isnum_wid _ _ i1
  obtain ⟨x1, y1, x2, y2, q, hB, KB⟩ := both_any a1 b1 a2 b2 n s1 s2 s3 s4
  have hq : q = 0 := hB.err.trans ((btE_zero _ _ _ _ _).2 ⟨hv1, hv2⟩)
  obtain ⟨f1, f2, f3, f4⟩ := hB.ok hq
  subst hq
  have hzd : decide (keyOf a2 n ≤ 0 ∧ 0 ≤ keyOf b2 n) = true := decide_eq_true hnz
  have KHz : ∀ u, Calls Tryz.prog 76 #[fv2 x2 y2, fv2 0 0] u fun e w' => e = .returned (.bool true) ∧ Kept u w' := fun u => by
    have := holds_any n x2 y2 0 0 _ _ 0 0 f3 f4 (Fl.zero n hn) (Fl.zero n hn) u
    rw [hzd] at this
    exact this
  exact div_walk a1 b1 a2 b2 n x1 y1 x2 y2 0 0 true (fun _ _ => False) w KB (fun u => KHz u) (fun h => by cases h) (fun h => by cases h)
end Go.Proofs.YtdhimkpfnhoagaaGreatDoor

namespace Go.Proofs.YtdhimkpfnhoagaaGreatDoor
open Go.ChangeShapes Go.WideShapes Go.ChangeAt Go.RowKit Ieee
set_option linter.unusedVariables false
set_option linter.unusedSimpArgs false

/-- an interval around a finite float, by its key -/
structure Arnd (n l h x : Int) : Prop where
  wid : n = 64 ∨ n = 32
  rl : RB l
  rh : RB h
  v : vsp l h n = true
  lo : keyOf l n ≤ x
  hi : x ≤ keyOf h n
  f1 : -(ifn n : Int) < x
  f2 : x < (ifn n : Int)
  g1 : -(ifn n : Int) ≤ keyOf l n
  g2 : keyOf h n ≤ (ifn n : Int)
theorem kvz_neg2 (n s k : Int) : kvz n s (-k) = -kvz n s k := by
  unfold kvz
  by_cases h0 : k = 0
  · subst h0
    have h1 := kvz_zero n s
    unfold kvz at h1
    simp at h1 ⊢
    omega
  · by_cases hk : k < 0
    · rw [if_pos hk, if_neg (by omega : ¬ (-k < 0)), Int.natAbs_neg, Int.neg_neg]
    · rw [if_neg hk, if_pos (by omega : -k < 0), Int.natAbs_neg]
theorem qrk_pt (n kx ky J1 J2 : Int) (hn : n = 64 ∨ n = 32) (b1 : -(ifn n : Int) < kx ∧ kx < (ifn n : Int)) (b2 : -(ifn n : Int) < ky ∧ ky < (ifn n : Int)) (z : ky ≠ 0) (h : Qrk n 1 kx ky J1) (g : Qrk n 2 kx ky J2) : J1 < (ifn n : Int) ∧ -(ifn n : Int) < J2 ∧ J1 ≤ J2 := by
  have hpos := ifn_p n
  have p := qW_pos n ky hn z
  rcases h with ⟨h, -⟩ | ⟨-, h, -⟩ | ⟨-, -, h, -⟩
  · omega
  · omega
  rcases g with ⟨g, -⟩ | ⟨-, g, -⟩ | ⟨-, -, -, g⟩
  · omega
  · omega
  have h := h rfl
  have g := g rfl
  have a1 := h.high
  have a2 := g.high
  have a3 := h.low
  have a4 := g.low
  refine ⟨a1, by omega, ?_⟩
  by_cases c1 : J1 = -(ifn n : Int)
  · omega
  by_cases c2 : J2 = (ifn n : Int)
  · omega
  have e1 := h.fin (by omega)
  have e2 := g.fin (by omega)
  rw [kvz_neg2, Int.neg_mul] at e2
  apply Classical.not_not.1
  intro hc
  have m := kvz_lt n (-1300) hn J2 J1 (by omega)
  have := Int.mul_lt_mul_of_pos_right m p
  omega
theorem all5 {P : Int → Prop} {a b c d e : Int} (h1 : P a) (h2 : P b) (h3 : P c) (h4 : P d) (h5 : P e) : ∀ k, k = a ∨ k = b ∨ k = c ∨ k = d ∨ k = e → P k := by
  rintro k (rfl | rfl | rfl | rfl | rfl) <;> assumption
theorem min4_eq (a b c d : Int) : min (min (min a b) c) d = a ∨ min (min (min a b) c) d = b ∨ min (min (min a b) c) d = c ∨ min (min (min a b) c) d = d := by omega
theorem max4_eq (a b c d : Int) : max (max (max a b) c) d = a ∨ max (max (max a b) c) d = b ∨ max (max (max a b) c) d = c ∨ max (max (max a b) c) d = d := by omega
theorem arnd_of (n y : Int) (i j : Nat) (hn : n = 64 ∨ n = 32) (hy : RB y) (hc : cls y n < 3) : Arnd n (itr (prv · n) i y) (itr (nxt · n) j y) (keyOf y n) := by
  obtain ⟨-, i1, b1, b2⟩ := ofN_key y n hn hy hc
  obtain ⟨r1, i2, k1⟩ := itr_dn y n i hy i1
  obtain ⟨r2, i3, k2⟩ := itr_up y n j hy i1
  have q1 := key_rng _ n i2 r1.1 r1.2
  have q2 := key_rng _ n i3 r2.1 r2.2
  refine ⟨hn, r1, r2, ?_, k1, k2, b1, b2, q1.1, q2.2⟩
  unfold vsp
  rw [i2, i3]
  simp only [Bool.true_and, Bool.and_eq_true, decide_eq_true_eq]
  omega
end Go.Proofs.YtdhimkpfnhoagaaGreatDoor
