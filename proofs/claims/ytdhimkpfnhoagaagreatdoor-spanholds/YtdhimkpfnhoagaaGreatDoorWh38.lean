/- Package span: the other sign; Neg. Keys of valid intervals, of roundings, of finite floats. Package span: Has; the laws' own has. -/
import Derived.Test.YtdhimkpfnhoagaaGreatDoorWh34
import Derived.Test.YtdhimkpfnhoagaaGreatDoorWh35
namespace Go.Proofs.YtdhimkpfnhoagaaGreatDoor
open Go.ChangeShapes Go.WideShapes Go.ChangeAt Go.RowKit Ieee
set_option linter.unusedVariables false
set_option linter.unusedSimpArgs false

set_option maxHeartbeats 400000 in
theorem sturned_any (x y : Nat) (w : World) : Calls Tryz.prog 70 #[fv2 x y] w fun e w' => e = .returned (fv2 (Op.negFloat .f64 y) (Op.negFloat .f64 x)) ∧ Kept w w' := by
  have hSF := sto_f
  have hun : ∀ (b : Nat) (wx : World), (Op.unary .neg (.float .f64 b)).run Tryz.prog wx = .ok (.float .f64 (Op.negFloat .f64 b)) wx := fun _ _ => rfl
  go_enter Tryz.func70, Tryz.ntmps70
  go_wp2_with fail
  refine bodyPost_ret (v := fv2 (Op.negFloat .f64 y) (Op.negFloat .f64 x)) (by simp [results, Tryz.results70, go_sem]) rfl ⟨rfl, ?_⟩
  (repeat' first | exact Kept.refl _ | refine Kept.setCell ?_ ?_ _ | refine Kept.alloc ?_ _ _ | (simp; done) | (simp <;> omega))
set_option maxHeartbeats 2000000 in
set_option maxRecDepth 100000 in
theorem sub_walk (a1 b1 a2 b2 n : Int) (x1 y1 x2 y2 x3 y3 : Nat) (q p1 p2 : Int) (J : Nat → Nat → Prop) (w : World)
    (KB : Hid (∀ u, Calls Tryz.prog 67 #[sp2 a1 b1, sp2 a2 b2, .int .i64 n] u fun e w' => e = .returned (.tuple #[fv2 x1 y1, fv2 x2 y2, .int .i64 q]) ∧ Kept u w'))
    (KN : Hid (∀ u, Calls Tryz.prog 70 #[fv2 x2 y2] u fun e w' => e = .returned (fv2 x3 y3) ∧ Kept u w'))
    (KJ : Hid (∀ (u v : World) (B : Nat), Kept w u → B = v.heap.size → Kept (v.alloc (.cells #[.float .f64 x1, .float .f64 y1, .float .f64 x3, .float .f64 y3] 87)) u → Calls Tryz.prog 69 #[.int .i64 n, .slice (some ⟨B, 0, none⟩) 2 2] u fun e w' => ∃ x y, e = .returned (fv2 x y) ∧ J x y ∧ Kept u w'))
    (KT : Hid (∀ u x y, J x y → Calls Tryz.prog 68 #[fv2 x y, .int .i64 n, .int .i64 q] u fun e w' => e = .returned (.tuple #[sp2 p1 p2, .int .i64 q]) ∧ Kept u w')) :
    Calls Tryz.prog 18 #[sp2 a1 b1, sp2 a2 b2, .int .i64 n] w fun e w' => e = .returned (.tuple #[sp2 p1 p2, .int .i64 q]) ∧ Kept w w' := by
  obtain ⟨X, hX⟩ : ∃ X, X = ((w.alloc (.cells #[.int .i64 a1, .int .i64 b1] 23)).alloc (.cells #[.int .i64 a2, .int .i64 b2] 23)).alloc (.cells #[.int .i64 0, .int .i64 0] 23) := ⟨_, rfl⟩
  have hP1 : P2 X w.heap.size (.int .i64 a1) (.int .i64 b1) := by
    rw [hX]
    exact ((P2.new w _ _ _).alloc _ _).alloc _ _
  have hP2 : P2 X (w.heap.size + 1) (.int .i64 a2) (.int .i64 b2) := by
    rw [hX]
    have := (P2.new (w.alloc (.cells #[.int .i64 a1, .int .i64 b1] 23)) (.int .i64 a2) (.int .i64 b2) 23).alloc #[.int .i64 0, .int .i64 0] 23
    simpa using this
  have hQ : P2 X (w.heap.size + 1 + 1) (.int .i64 0) (.int .i64 0) := by
    rw [hX]
    have := P2.new ((w.alloc (.cells #[.int .i64 a1, .int .i64 b1] 23)).alloc (.cells #[.int .i64 a2, .int .i64 b2] 23)) (.int .i64 0) (.int .i64 0) 23
    simpa using this
  have hK : Kept w X := by
    rw [hX]
    exact (((Kept.refl w).alloc _ _).alloc _ _).alloc _ _
  obtain ⟨H1, hH1⟩ : ∃ H, H = w.heap.size + 1 := ⟨_, rfl⟩
  obtain ⟨H2, hH2⟩ : ∃ H, H = H1 + 1 := ⟨_, rfl⟩
  rw [← hH1] at hP2 hQ
  rw [← hH2] at hQ
  have o2 : w.heap.size ≤ H2 := by omega
  have hSF := sto_f
  go_enter Tryz.func18, Tryz.ntmps18
  go_upto_region 1 with fail
  rw [← hX, ← hH1, ← hH2]
  clear hX hH1 hH2
  obtain ⟨p10, p11, p1f⟩ := hP1
  obtain ⟨p20, p21, p2f⟩ := hP2
  go_upto_region 2 with (first | (go_at_call 67; refine (KB.out _).mono ?_; rintro e w1 ⟨rfl, k1⟩))
  have hQ1 := hQ.kept k1
  have kw1 := hK.trans k1
  have lH2 := hQ1.lt
  clear p10 p11 p1f p20 p21 p2f KB hK hQ k1
  obtain ⟨Y, hY⟩ : ∃ Y, Y = (w1.alloc (.cells #[.float .f64 x1, .float .f64 y1] 87)).alloc (.cells #[.float .f64 x2, .float .f64 y2] 87) := ⟨_, rfl⟩
  have hC1 : P2 Y w1.heap.size (.float .f64 x1) (.float .f64 y1) := by
    rw [hY]
    exact (P2.new w1 _ _ _).alloc _ _
  have hC2 : P2 Y (w1.heap.size + 1) (.float .f64 x2) (.float .f64 y2) := by
    rw [hY]
    have := P2.new (w1.alloc (.cells #[.float .f64 x1, .float .f64 y1] 87)) (.float .f64 x2) (.float .f64 y2) 87
    simpa using this
  have kY : Kept w1 Y := by
    rw [hY]
    exact ((Kept.refl w1).alloc _ _).alloc _ _
  have hQY := hQ1.kept kY
  have kwY := kw1.trans kY
  obtain ⟨B1, hB1⟩ : ∃ B, B = w1.heap.size := ⟨_, rfl⟩
  obtain ⟨B2, hB2⟩ : ∃ B, B = B1 + 1 := ⟨_, rfl⟩
  rw [← hB1] at hC1 hC2
  rw [← hB2] at hC2
  rw [← hY, ← hB1, ← hB2]
  have n1 : H2 ≠ B1 := by omega
  have n2 : H2 ≠ B2 := by omega
  clear hY kw1 kY hQ1 hB1 hB2
  have kd : Kept Y Y.drew := (Kept.refl Y).drew
  have HS : Hid (∀ u, Kept Y u → (u.cell? ⟨B1, 0, none⟩ = some (.float .f64 x1) ∧ u.cell? ⟨B1, 1, none⟩ = some (.float .f64 y1)) ∧ (u.cell? ⟨B2, 0, none⟩ = some (.float .f64 x2) ∧ u.cell? ⟨B2, 1, none⟩ = some (.float .f64 y2))) := fun u k => ⟨⟨(hC1.kept k).c0, (hC1.kept k).c1⟩, ⟨(hC2.kept k).c0, (hC2.kept k).c1⟩⟩
  refine wp_region_held_drew (S := fun u => (u.cell? ⟨B1, 0, none⟩ = some (.float .f64 x1) ∧ u.cell? ⟨B1, 1, none⟩ = some (.float .f64 y1)) ∧ (u.cell? ⟨B2, 0, none⟩ = some (.float .f64 x2) ∧ u.cell? ⟨B2, 1, none⟩ = some (.float .f64 y2))) (by kernel_rfl) (HS.out _ kd) (fun hHeld => ?_)
  refine wpAnyH_take (i := 0) (v := ?_) rfl (by kernel_rfl) (by kernel_rfl) (by kernel_rfl) (fun _ _ _ h => h) (Or.inl ⟨by rfl, ?hya0⟩) (by assumption) ?_
  case hya0 => (intro w hSw; (try dsimp only at hSw); go_simp; try (with_reducible rfl))
  simp only [Act.put, List.getElem_toArray, List.getElem_cons_succ, List.getElem_cons_zero, List.setIfInBounds_toArray, List.set_cons_zero, List.set_cons_succ]
  refine wpAnyH_take (i := 1) (v := ?_) rfl (by kernel_rfl) (by kernel_rfl) (by kernel_rfl) (fun _ _ _ h => h) (Or.inl ⟨by rfl, ?hya1⟩) (by assumption) ?_
  case hya1 => (intro w hSw; (try dsimp only at hSw); go_simp; try (with_reducible rfl))
  simp only [Act.put, List.getElem_toArray, List.getElem_cons_succ, List.getElem_cons_zero, List.setIfInBounds_toArray, List.set_cons_zero, List.set_cons_succ]
  refine wpAnyH_take (i := 2) (v := ?_) rfl (by kernel_rfl) (by kernel_rfl) (by kernel_rfl) (fun _ _ _ h => h) (Or.inl ⟨by rfl, ?hya2⟩) (by assumption) ?_
  case hya2 => (intro w hSw; (try dsimp only at hSw); go_simp; try (with_reducible rfl))
  simp only [Act.put, List.getElem_toArray, List.getElem_cons_succ, List.getElem_cons_zero, List.setIfInBounds_toArray, List.set_cons_zero, List.set_cons_succ]
  refine wpAnyH_take (i := 6) (v := ?_) rfl (by kernel_rfl) (by kernel_rfl) (by kernel_rfl) (fun _ _ _ h => h) (Or.inl ⟨by rfl, ?hya6⟩) (by assumption) ?_
  case hya6 => (intro w hSw; (try dsimp only at hSw); go_simp; try (with_reducible rfl))
  simp only [Act.put, List.getElem_toArray, List.getElem_cons_succ, List.getElem_cons_zero, List.setIfInBounds_toArray, List.set_cons_zero, List.set_cons_succ]
  refine wpAnyH_take (i := 7) (v := ?_) rfl (by kernel_rfl) (by kernel_rfl) (by kernel_rfl) (fun _ _ _ h => h) (Or.inl ⟨by rfl, ?hya7⟩) (by assumption) ?_
  case hya7 => (intro w hSw; (try dsimp only at hSw); go_simp; try (with_reducible rfl))
  simp only [Act.put, List.getElem_toArray, List.getElem_cons_succ, List.getElem_cons_zero, List.setIfInBounds_toArray, List.set_cons_zero, List.set_cons_succ]
  refine wpAnyH_ready (rs := [3]) (by kernel_rfl) (by simp) ?_
  refine AllReadyH.cons rfl (fun K hK9 => ?_) AllReadyH.nil
  go_simp
  go_wp2_with fail
  refine (KN.out _).mono ?_
  rintro e v1 ⟨rfl, k1⟩
  have j1 := kd.trans k1
  refine hK9.out _ _ (HS.out _ j1) (fun hHeld1 => ?_)
  clear hK9 K
  refine wpAnyH_ready (rs := [4]) (by kernel_rfl) (by simp) ?_
  refine AllReadyH.cons rfl (fun K hK9 => ?_) AllReadyH.nil
  go_simp
  have ja := j1.alloc #[.float .f64 x1, .float .f64 y1, .float .f64 x3, .float .f64 y3] 87
  refine hK9.out _ _ (HS.out _ ja) (fun hHeldA => ?_)
  clear hK9 K
  refine wpAnyH_ready (rs := [5]) (by kernel_rfl) (by simp) ?_
  refine AllReadyH.cons rfl (fun K hK9 => ?_) AllReadyH.nil
  go_simp
  go_wp2_with fail
  refine (KJ.out _ _ _ (kwY.trans ja) rfl (Kept.refl _)).mono ?_
  rintro e v2 ⟨x, y, rfl, hJ, k2⟩
  have j2 := ja.trans k2
  refine hK9.out _ _ (HS.out _ j2) (fun hHeld2 => ?_)
  clear hK9 K
  refine wpAnyH_ready (rs := [8]) (by kernel_rfl) (by simp) ?_
  refine AllReadyH.cons rfl (fun K hK9 => ?_) AllReadyH.nil
  go_simp
  go_wp2_with fail
  refine (KT.out _ _ _ hJ).mono ?_
  rintro e v3 ⟨rfl, k3⟩
  have j3 := j2.trans k3
  refine hK9.out _ _ (HS.out _ j3) (fun hHeld3 => ?_)
  clear hK9 K
  refine wpAnyH_take (i := 9) (v := ?_) rfl (by kernel_rfl) (by kernel_rfl) (by kernel_rfl) (fun _ _ _ h => h) (Or.inl ⟨by rfl, ?hyb9⟩) (by assumption) ?_
  case hyb9 => (intro w hSw; (try dsimp only at hSw); go_simp; try (with_reducible rfl))
  simp only [Act.put, List.getElem_toArray, List.getElem_cons_succ, List.getElem_cons_zero, List.setIfInBounds_toArray, List.set_cons_zero, List.set_cons_succ]
  refine wpAnyH_take (i := 10) (v := ?_) rfl (by kernel_rfl) (by kernel_rfl) (by kernel_rfl) (fun _ _ _ h => h) (Or.inl ⟨by rfl, ?hyb10⟩) (by assumption) ?_
  case hyb10 => (intro w hSw; (try dsimp only at hSw); go_simp; try (with_reducible rfl))
  simp only [Act.put, List.getElem_toArray, List.getElem_cons_succ, List.getElem_cons_zero, List.setIfInBounds_toArray, List.set_cons_zero, List.set_cons_succ]
  obtain ⟨c0, c1, cf⟩ := hQY.kept j3
  refine wpAnyH_ready (rs := [11]) (by kernel_rfl) (by simp) ?_
  refine AllReadyH.cons rfl (fun K hK9 => ?_) AllReadyH.nil
  go_simp
  have g1 := ((hC1.kept j3).set H2 0 n1 (.int .i64 p1)).set H2 1 n1 (.int .i64 p2)
  have g2 := ((hC2.kept j3).set H2 0 n2 (.int .i64 p1)).set H2 1 n2 (.int .i64 p2)
  refine hK9.out _ _ ⟨⟨g1.c0, g1.c1⟩, ⟨g2.c0, g2.c1⟩⟩ (fun hHeld4 => ?_)
  clear hK9 K
  refine wpAnyH_take (i := 12) (v := ?_) rfl (by kernel_rfl) (by kernel_rfl) (by kernel_rfl) (fun _ _ _ h => h) (Or.inl ⟨by rfl, ?hyc12⟩) (by assumption) ?_
  case hyc12 => (intro w hSw; (try dsimp only at hSw); go_simp; try (with_reducible rfl))
  simp only [Act.put, List.getElem_toArray, List.getElem_cons_succ, List.getElem_cons_zero, List.setIfInBounds_toArray, List.set_cons_zero, List.set_cons_succ]
  refine wpAnyH_done (by kernel_rfl) ?_ _
  go_wp2_with fail
  have hz := (P2.mk c0 c1 cf).put (.int .i64 p1) (.int .i64 p2)
  obtain ⟨m0, m1, mf⟩ := hz
  exact bodyPost_ret (v := .tuple #[sp2 p1 p2, .int .i64 q]) (by simp [results, Tryz.results18, go_sem, m0, m1]) rfl ⟨rfl, ((kwY.trans j3).setCell o2 _).setCell o2 _⟩
set_option maxHeartbeats 2000000 in
set_option maxRecDepth 100000 in
theorem neg_walk5 (a1 b1 n : Int) (x1 y1 x3 y3 : Nat) (q p1 p2 : Int) (w : World)
    (KO : Hid (∀ u, Calls Tryz.prog 73 #[sp2 a1 b1, .int .i64 n] u fun e w' => e = .returned (.tuple #[fv2 x1 y1, .int .i64 q]) ∧ Kept u w'))
    (KN : Hid (∀ u, Calls Tryz.prog 70 #[fv2 x1 y1] u fun e w' => e = .returned (fv2 x3 y3) ∧ Kept u w'))
    (KT : Hid (∀ u, Calls Tryz.prog 68 #[fv2 x3 y3, .int .i64 n, .int .i64 q] u fun e w' => e = .returned (.tuple #[sp2 p1 p2, .int .i64 q]) ∧ Kept u w')) :
    Calls Tryz.prog 20 #[sp2 a1 b1, .int .i64 n] w fun e w' => e = .returned (.tuple #[sp2 p1 p2, .int .i64 q]) ∧ Kept w w' := by
  have hSF := sto_f
  obtain ⟨X, hX⟩ : ∃ X, X = (w.alloc (.cells #[.int .i64 a1, .int .i64 b1] 23)).alloc (.cells #[.int .i64 0, .int .i64 0] 23) := ⟨_, rfl⟩
  have hK : Kept w X := by
    rw [hX]
    exact ((Kept.refl w).alloc _ _).alloc _ _
  have hN : P2 X w.heap.size (.int .i64 a1) (.int .i64 b1) := by
    rw [hX]
    exact (P2.new w _ _ _).alloc _ _
  have hR : P2 X (w.heap.size + 1) (.int .i64 0) (.int .i64 0) := by
    rw [hX]
    have := P2.new (w.alloc (.cells #[.int .i64 a1, .int .i64 b1] 23)) (.int .i64 0) (.int .i64 0) 23
    simpa using this
  obtain ⟨H0, hH0⟩ : ∃ H, H = w.heap.size := ⟨_, rfl⟩
  obtain ⟨H1, hH1⟩ : ∃ H, H = H0 + 1 := ⟨_, rfl⟩
  rw [← hH0] at hN hR
  rw [← hH1] at hR
  have o1' : w.heap.size ≤ H1 := by omega
  go_enter Tryz.func20, Tryz.ntmps20
  go_upto_region 1 with fail
  rw [← hX, ← hH0, ← hH1]
  clear hX hH0 hH1
  obtain ⟨c0, c1, cf⟩ := hN
  go_upto_region 2 with (first | (go_at_call 73; refine (KO.out _).mono ?_; rintro e w1 ⟨rfl, k1⟩))
  clear c0 c1 cf
  have hI := P2.new w1 (.float .f64 x1) (.float .f64 y1) 87
  have j1 := k1.alloc #[.float .f64 x1, .float .f64 y1] 87
  obtain ⟨Y, hY⟩ : ∃ Y, Y = w1.alloc (.cells #[.float .f64 x1, .float .f64 y1] 87) := ⟨_, rfl⟩
  rw [← hY] at hI j1
  rw [← hY]
  clear hY
  obtain ⟨b0, b1', bf⟩ := hI
  go_wp2_with (first | (go_at_call 70; refine (KN.out _).mono ?_; rintro e wt ⟨rfl, kt⟩) | (go_at_call 68; refine (KT.out _).mono ?_; rintro e w2 ⟨rfl, k2⟩; have j2 := (j1.trans kt).trans k2; have hz := (hR.kept j2).put (.int .i64 p1) (.int .i64 p2); obtain ⟨d0, d1, df⟩ := hR.kept j2; obtain ⟨e0, e1, ef⟩ := hz))
  exact bodyPost_ret (v := .tuple #[sp2 p1 p2, .int .i64 q]) (by simp [results, Tryz.results20, go_sem, e0, e1]) rfl ⟨rfl, ((hK.trans j2).setCell o1' _).setCell o1' _⟩
theorem opened_ok (a1 b1 n : Int) (s1 : RB a1) (s2 : RB b1) (hv : vsp a1 b1 n = true) : Fl n (flv a1 n) (keyOf a1 n) ∧ Fl n (flv b1 n) (keyOf b1 n) ∧ ∀ u, Calls Tryz.prog 73 #[sp2 a1 b1, .int .i64 n] u fun e w' => e = .returned (.tuple #[fv2 (flv a1 n) (flv b1 n), .int .i64 0]) ∧ Kept u w' := by
  obtain ⟨i1, i2, -⟩ := vsp_num _ _ _ hv
  refine ⟨Fl.flv i1 s1.1 s1.2, Fl.flv i2 s2.1 s2.2, fun u => ?_⟩
  have := opened_any a1 b1 n s1 s2 u
  unfold opV opE at this
  rw [if_pos hv, if_pos (isnum_wid _ _ i1), if_pos hv] at this
  exact this
theorem neg5_ok (a1 b1 n : Int) (s1 : RB a1) (s2 : RB b1) (hv : vsp a1 b1 n = true) (w : World) : Calls Tryz.prog 20 #[sp2 a1 b1, .int .i64 n] w fun e w' => e = .returned (.tuple #[sp2 (pz n (-keyOf b1 n)) (pz n (-keyOf a1 n)), .int .i64 0]) ∧ Kept w w' := by
  obtain ⟨f1, f2, KO⟩ := opened_ok a1 b1 n s1 s2 hv
  exact neg_walk5 a1 b1 n _ _ _ _ 0 _ _ w KO (fun u => sturned_any _ _ u) (fun u => told_ok5 f2.neg f1.neg u)
theorem sub5_ok (a1 b1 a2 b2 n : Int) (s1 : RB a1) (s2 : RB b1) (s3 : RB a2) (s4 : RB b2) (hv1 : vsp a1 b1 n = true) (hv2 : vsp a2 b2 n = true) : ∃ K1 K2, Smk n 1 (keyOf a1 n) (-keyOf b2 n) K1 ∧ Smk n 2 (keyOf b1 n) (-keyOf a2 n) K2 ∧ (-(ifn n : Int) ≤ K1 ∧ K1 ≤ (ifn n : Int)) ∧ (-(ifn n : Int) ≤ K2 ∧ K2 ≤ (ifn n : Int)) ∧ ∀ (w : World), Tab w → Calls Tryz.prog 18 #[sp2 a1 b1, sp2 a2 b2, .int .i64 n] w fun e w' => e = .returned (.tuple #[sp2 (pz n K1) (pz n K2), .int .i64 0]) ∧ Kept w w' := by
  obtain ⟨i1, i2, v3, v4, v5⟩ := vsp_num _ _ _ hv1
  obtain ⟨i3, i4, u3, u4, u5⟩ := vsp_num _ _ _ hv2
  have hn := isnum_wid _ _ i1
  obtain ⟨x1, y1, x2, y2, q, hB, KB⟩ := both_any a1 b1 a2 b2 n s1 s2 s3 s4
  have hq : q = 0 := hB.err.trans ((btE_zero _ _ _ _ _).2 ⟨hv1, hv2⟩)
  obtain ⟨f1, f2, f3, f4⟩ := hB.ok hq
  subst hq
  have hpos := ifn_p n
  have f3' := f4.neg
  have f4' := f3.neg
  obtain ⟨p1, P1, -⟩ := f1.wide
  obtain ⟨p2, P2, -⟩ := f2.wide
  obtain ⟨p3, P3, -⟩ := f3'.wide
  obtain ⟨p4, P4, -⟩ := f4'.wide
  obtain ⟨K1, S1, R1, F1⟩ := rd_two n 1 hn x1 _ _ _ f1 f3' (by omega) p1 p3 P1 P3
  obtain ⟨K2, S2, R2, F2⟩ := rd_two n 2 hn y1 _ _ _ f2 f4' (by omega) p2 p4 P2 P4
  refine ⟨K1, K2, S1, S2, R1, R2, fun w hT => ?_⟩
  refine sub_walk a1 b1 a2 b2 n x1 y1 x2 y2 _ _ 0 _ _ (fun x y => Fl n x K1 ∧ Fl n y K2) w KB (fun u => sturned_any _ _ u) (fun u v B kwu hBv k => ?_) (fun u x y h => told_ok5 h.1 h.2 u)
  subst hBv
  refine (summed_any n hn 2 (by decide) (two x1 (Op.negFloat .f64 y2)) (two y1 (Op.negFloat .f64 x2)) (two p1 p3) (two p2 p4) (fun i hi => ?_) _ _ u (hT.kept kwu) (ivs_two k)).mono ?_
  · rcases (show i = 0 ∨ i = 1 by omega) with rfl | rfl
    · exact ⟨P1, P2⟩
    · exact ⟨P3, P4⟩
  · rintro e w' ⟨x, y, rfl, hx, hy, k'⟩
    exact ⟨x, y, rfl, ⟨F1 x hx, F2 y hy⟩, k'⟩
end Go.Proofs.YtdhimkpfnhoagaaGreatDoor

namespace Go.Proofs.YtdhimkpfnhoagaaGreatDoor
open Go.ChangeShapes Go.WideShapes Go.ChangeAt Go.RowKit Ieee
set_option linter.unusedVariables false
set_option linter.unusedSimpArgs false

theorem vsp_keys (n K1 K2 : Int) (hn : n = 64 ∨ n = 32) (h1 : -(ifn n : Int) ≤ K1) (h2 : K1 < (ifn n : Int)) (h3 : -(ifn n : Int) < K2) (h4 : K2 ≤ (ifn n : Int)) (h5 : K1 ≤ K2) : vsp (pz n K1) (pz n K2) n = true ∧ RB (pz n K1) ∧ RB (pz n K2) ∧ keyOf (pz n K1) n = K1 ∧ keyOf (pz n K2) n = K2 := by
  have e1 := pz_key n K1 hn h1 (by omega)
  have e2 := pz_key n K2 hn (by omega) h4
  refine ⟨?_, pz_range n K1 hn h1 (by omega), pz_range n K2 hn (by omega) h4, e1, e2⟩
  unfold vsp
  rw [pz_num n K1 hn h1 (by omega), pz_num n K2 hn (by omega) h4, e1, e2]
  simp only [Bool.true_and, Bool.and_eq_true, decide_eq_true_eq]
  omega
/- what is around a number, by keys -/
theorem ky_near (n : Int) (hn : n = 64 ∨ n = 32) (r : Nm) (hv : vld r = true) : (kyN n 1 r < (ifn n : Int) ∧ -(ifn n : Int) < kyN n 2 r ∧ kyN n 1 r ≤ kyN n 2 r) ∧ decide (kyN n 1 r = kyN n 2 r) = !oxN n 0 r ∧ (oxN n 0 r = true → kyN n 2 r = kyN n 1 r + 1) := by
  obtain ⟨hN, e1, e2⟩ := nbrN n hn r hv (min r.exp (-2000)) (fun _ => by omega) (by rcases hn with rfl | rfl <;> (have : kleast 64 = -1074 := rfl; have : kleast 32 = -149 := rfl; omega))
  rw [e2]
  cases ho : oxN n 1 r
  · obtain ⟨a1, a2, a3, a4, a5⟩ := hN.same ho
    refine ⟨by omega, ?_, fun h => by cases h⟩
    rw [decide_eq_true a1.symm]
    rfl
  · obtain ⟨a1, a2, a3, a4, -⟩ := hN.next ho
    refine ⟨by omega, ?_, fun _ => a1⟩
    rw [decide_eq_false (by omega)]
    rfl
theorem ofN_key (y n : Int) (hn : n = 64 ∨ n = 32) (hy : RB y) (hc : cls y n < 3) : ofN y n = ofN (pz n (keyOf y n)) n ∧ isnum y n = true ∧ (-(ifn n : Int) < keyOf y n ∧ keyOf y n < (ifn n : Int)) := by
  have hi : isnum y n = true := by
    unfold isnum
    rw [decide_eq_true_eq]
    exact ⟨hn, by omega⟩
  have hf := fin_key y n hn hi hy
  have hfin : fin y n = true := by
    unfold fin
    rw [decide_eq_true_eq]
    exact ⟨hn, hc⟩
  rw [hfin] at hf
  have hne := of_decide_eq_true hf.symm
  have hr := key_rng y n hi hy.1 hy.2
  refine ⟨?_, hi, by omega⟩
  have hcan := can_pz y n hi hy.1 hy.2
  rw [← hcan]
  unfold can
  rw [if_pos hi]
  rcases hn with rfl | rfl
  · rw [if_pos rfl]
    by_cases hz : y = -9223372036854775808
    · rw [if_pos hz]
      subst hz
      rw [(of_zero (-9223372036854775808) 64 (by decide)).2, (of_zero 0 64 (by decide)).2]
    · rw [if_neg hz]
  · rw [if_neg (by decide : ¬ (32 : Int) = 64)]
    by_cases hz : y = 2147483648
    · rw [if_pos hz]
      subst hz
      rw [(of_zero 2147483648 32 (by decide)).2, (of_zero 0 32 (by decide)).2]
    · rw [if_neg hz]
theorem of_both_lies (y n : Int) (hn : n = 64 ∨ n = 32) (hy : RB y) (hc : cls y n < 3) : Lies (-1075) 5000 (ofN y n) ∧ vz (-1075) (ofN y n) = kvz n (-1074) (keyOf y n) * 2 := by
  obtain ⟨e, hi, b1, b2⟩ := ofN_key y n hn hy hc
  rw [e]
  obtain ⟨h1, h2⟩ := of_key n (keyOf y n) hn b1 b2 (-1075) (by decide) (by decide)
  refine ⟨h1, ?_⟩
  have hkl : (-1074 : Int) ≤ kleast n := by rcases hn with rfl | rfl <;> decide
  rw [h2, kvz_down n (-1075) (-1074) _ (by decide) hkl]
  rfl
end Go.Proofs.YtdhimkpfnhoagaaGreatDoor

namespace Go.Proofs.YtdhimkpfnhoagaaGreatDoor
open Go.ChangeShapes Go.WideShapes Go.ChangeAt Go.RowKit Ieee
set_option linter.unusedVariables false
set_option linter.unusedSimpArgs false

set_option maxHeartbeats 4000000 in
set_option maxRecDepth 100000 in
theorem has_walk5 (a1 b1 n : Int) (ng : Bool) (ao : Option Addr) (l c : Nat) (ex : Int) (x1 y1 z1 z2 : Nat) (b : Bool) (w : World)
    (KO : Hid (∀ u, Calls Tryz.prog 73 #[sp2 a1 b1, .int .i64 n] u fun e w' => e = .returned (.tuple #[fv2 x1 y1, .int .i64 0]) ∧ Kept u w'))
    (KA : Hid (∀ u, Kept w u → Calls Tryz.prog 79 #[.agg #[.bool ng, .slice ao l c, .int .i64 ex], .int .i64 n] u fun e w' => e = .returned (.tuple #[fv2 z1 z2, .int .i64 0]) ∧ Kept u w'))
    (KH : Hid (∀ u, Calls Tryz.prog 76 #[fv2 x1 y1, fv2 z1 z2] u fun e w' => e = .returned (.bool b) ∧ Kept u w')) :
    Calls Tryz.prog 25 #[sp2 a1 b1, .agg #[.bool ng, .slice ao l c, .int .i64 ex], .int .i64 n] w fun e w' => e = .returned (.tuple #[.bool b, .int .i64 0]) ∧ Kept w w' := by
  have hSF := sto_f
  obtain ⟨X, hX⟩ : ∃ X, X = (w.alloc (.cells #[.int .i64 a1, .int .i64 b1] 23)).alloc (.cells #[.bool ng, .slice ao l c, .int .i64 ex] 26) := ⟨_, rfl⟩
  have hK : Kept w X := by
    rw [hX]
    exact ((Kept.refl w).alloc _ _).alloc _ _
  have hS : P2 X w.heap.size (.int .i64 a1) (.int .i64 b1) := by
    rw [hX]
    exact (P2.new w _ _ _).alloc _ _
  have hN : P3 X (w.heap.size + 1) (.bool ng) (.slice ao l c) (.int .i64 ex) := by
    rw [hX]
    have := P3.new (w.alloc (.cells #[.int .i64 a1, .int .i64 b1] 23)) (.bool ng) (.slice ao l c) (.int .i64 ex) 26
    simpa using this
  obtain ⟨H0, hH0⟩ : ∃ H, H = w.heap.size := ⟨_, rfl⟩
  obtain ⟨H1, hH1⟩ : ∃ H, H = H0 + 1 := ⟨_, rfl⟩
  rw [← hH0] at hS hN
  rw [← hH1] at hN
  go_enter Tryz.func25, Tryz.ntmps25
  go_upto_region 1 with fail
  rw [← hX, ← hH0, ← hH1]
  clear hX hH0 hH1
  obtain ⟨c0, c1, cf⟩ := hS
  go_upto_region 2 with (first | (go_at_call 73; refine (KO.out _).mono ?_; rintro e w1 ⟨rfl, k1⟩))
  clear c0 c1 cf KO
  have hI := P2.new w1 (.float .f64 x1) (.float .f64 y1) 87
  have kY := k1.alloc #[.float .f64 x1, .float .f64 y1] 87
  obtain ⟨Y, hY⟩ : ∃ Y, Y = w1.alloc (.cells #[.float .f64 x1, .float .f64 y1] 87) := ⟨_, rfl⟩
  obtain ⟨B, hB⟩ : ∃ B, B = w1.heap.size := ⟨_, rfl⟩
  rw [← hY] at hI kY
  rw [← hB] at hI
  rw [← hY, ← hB]
  clear hY hB k1
  have kw := hK.trans kY
  obtain ⟨c0, c1, c2⟩ := hN.kept kY
  clear hN kY hK
  go_upto_region 5 with (first | (go_at_call 79; refine (KA.out _ kw).mono ?_; rintro e w2 ⟨rfl, k2⟩))
  clear c0 c1 c2 KA
  have hJ := P2.new w2 (.float .f64 z1) (.float .f64 z2) 87
  have kZ := k2.alloc #[.float .f64 z1, .float .f64 z2] 87
  obtain ⟨Z, hZ⟩ : ∃ Z, Z = w2.alloc (.cells #[.float .f64 z1, .float .f64 z2] 87) := ⟨_, rfl⟩
  obtain ⟨C, hC⟩ : ∃ C, C = w2.heap.size := ⟨_, rfl⟩
  rw [← hZ] at hJ kZ
  rw [← hC] at hJ
  rw [← hZ, ← hC]
  clear hZ hC k2
  obtain ⟨a0, a1', af⟩ := hI.kept kZ
  obtain ⟨b0, b1', bf⟩ := hJ
  have kw := kw.trans kZ
  clear hI kZ
  go_wp2_with (first | (go_at_call 76; refine (KH.out _).mono ?_; rintro e w3 ⟨rfl, k3⟩))
  exact bodyPost_ret (v := .tuple #[.bool b, .int .i64 0]) (by simp [results, Tryz.results25, go_sem]) rfl ⟨rfl, kw.trans k3⟩
theorem around_fl (n : Int) (hn : n = 64 ∨ n = 32) (r : Nm) (hv : vld r = true) (ao : Option Addr) (c : Nat) (u : World) (hT : Tab u) (h : Sl u (.slice ao r.mag.length c) r.mag) : Calls Tryz.prog 79 #[.agg #[.bool r.neg, .slice ao r.mag.length c, .int .i64 r.exp], .int .i64 n] u fun e w' => e = .returned (.tuple #[fv2 (flv (rzN n 1 r) n) (flv (rzN n 2 r) n), .int .i64 0]) ∧ Kept u w' := by
  refine saround_ok n r.neg ao r.mag.length c r.exp (rzN n 1 r) (rzN n 2 r) (oxN n 1 r) (oxN n 2 r) _ _ u (fun v way z o kv hz => ?_) (fun v z x hz => ?_)
  · rcases hz with ⟨rfl, rfl, rfl⟩ | ⟨rfl, rfl, rfl⟩
    · exact roundz n 1 hn (by simp) r hv ao c v (hT.kept kv) (h.kept kv)
    · exact roundz n 2 hn (by simp) r hv ao c v (hT.kept kv) (h.kept kv)
  · rcases hz with ⟨rfl, rfl⟩ | ⟨rfl, rfl⟩
    · exact sfloat_any _ n (rz_rng n 1 hn r).1 (rz_rng n 1 hn r).2 v
    · exact sfloat_any _ n (rz_rng n 2 hn r).1 (rz_rng n 2 hn r).2 v
theorem has5_ok (a1 b1 n : Int) (s1 : RB a1) (s2 : RB b1) (hv : vsp a1 b1 n = true) (r : Nm) (hr : vld r = true) (ao : Option Addr) (c : Nat) (w : World) (hT : Tab w) (h : Sl w (.slice ao r.mag.length c) r.mag) : Calls Tryz.prog 25 #[sp2 a1 b1, .agg #[.bool r.neg, .slice ao r.mag.length c, .int .i64 r.exp], .int .i64 n] w fun e w' => e = .returned (.tuple #[.bool (decide (keyOf a1 n ≤ kyN n 1 r ∧ kyN n 2 r ≤ keyOf b1 n)), .int .i64 0]) ∧ Kept w w' := by
  obtain ⟨i1, i2, -⟩ := vsp_num _ _ _ hv
  have hn := isnum_wid _ _ i1
  obtain ⟨f1, f2, KO⟩ := opened_ok a1 b1 n s1 s2 hv
  have g1 := rz_fl n 1 hn r
  have g2 := rz_fl n 2 hn r
  exact has_walk5 a1 b1 n r.neg ao r.mag.length c r.exp _ _ _ _ _ w KO (fun u k => around_fl n hn r hr ao c u (hT.kept k) (h.kept k)) (fun u => holds_any n _ _ _ _ _ _ _ _ f1 f2 g1 g2 u)
set_option maxHeartbeats 4000000 in
set_option maxRecDepth 100000 in
theorem lhas_walk (a1 b1 n : Int) (ng : Bool) (ao : Option Addr) (l c : Nat) (ex : Int) (w : World)
    (KX : Hid (∀ u, Kept w u → Calls Tryz.prog 25 #[sp2 a1 b1, .agg #[.bool ng, .slice ao l c, .int .i64 ex], .int .i64 n] u fun e w' => e = .returned (.tuple #[.bool true, .int .i64 0]) ∧ Kept u w'))
    (KV : Hid (∀ u, Calls Tryz.prog 26 #[sp2 a1 b1, .int .i64 n] u fun e w' => e = .returned (.bool true) ∧ Kept u w')) :
    Calls Tryz.prog 23 #[sp2 a1 b1, .int .i64 0, .agg #[.bool ng, .slice ao l c, .int .i64 ex], .int .i64 n] w fun e w' => e = .returned (.bool true) ∧ Kept w w' := by
  obtain ⟨X, hX⟩ : ∃ X, X = (w.alloc (.cells #[.int .i64 a1, .int .i64 b1] 23)).alloc (.cells #[.bool ng, .slice ao l c, .int .i64 ex] 26) := ⟨_, rfl⟩
  have hK : Kept w X := by
    rw [hX]
    exact ((Kept.refl w).alloc _ _).alloc _ _
  have hS : P2 X w.heap.size (.int .i64 a1) (.int .i64 b1) := by
    rw [hX]
    exact (P2.new w _ _ _).alloc _ _
  have hN : P3 X (w.heap.size + 1) (.bool ng) (.slice ao l c) (.int .i64 ex) := by
    rw [hX]
    have := P3.new (w.alloc (.cells #[.int .i64 a1, .int .i64 b1] 23)) (.bool ng) (.slice ao l c) (.int .i64 ex) 26
    simpa using this
  obtain ⟨H0, hH0⟩ : ∃ H, H = w.heap.size := ⟨_, rfl⟩
  obtain ⟨H1, hH1⟩ : ∃ H, H = H0 + 1 := ⟨_, rfl⟩
  rw [← hH0] at hS hN
  rw [← hH1] at hN
  go_enter Tryz.func23, Tryz.ntmps23
  go_upto_region 1 with fail
  rw [← hX, ← hH0, ← hH1]
  clear hX hH0 hH1
  obtain ⟨c0, c1, cf⟩ := hS
  obtain ⟨d0, d1, d2⟩ := hN
  have hS := P2.mk c0 c1 cf
  go_upto_region 2 with (first | (go_at_call 25; refine (KX.out _ hK).mono ?_; rintro e w1 ⟨rfl, k1⟩))
  clear c0 c1 cf d0 d1 d2 KX
  obtain ⟨c0, c1, cf⟩ := hS.kept k1
  have kw := hK.trans k1
  clear hS hK k1
  go_wp2_with (first | (go_at_call 26; refine (KV.out _).mono ?_; rintro e w2 ⟨rfl, k2⟩))
  go_ret
  exact ⟨rfl, kw.trans k2⟩
theorem lhas_ok (a1 b1 n : Int) (s1 : RB a1) (s2 : RB b1) (hv : vsp a1 b1 n = true) (r : Nm) (hr : vld r = true) (h1 : keyOf a1 n ≤ kyN n 1 r) (h2 : kyN n 2 r ≤ keyOf b1 n) (ao : Option Addr) (c : Nat) (w : World) (hT : Tab w) (h : Sl w (.slice ao r.mag.length c) r.mag) : Calls Tryz.prog 23 #[sp2 a1 b1, .int .i64 0, .agg #[.bool r.neg, .slice ao r.mag.length c, .int .i64 r.exp], .int .i64 n] w fun e w' => e = .returned (.bool true) ∧ Kept w w' := by
  refine lhas_walk a1 b1 n r.neg ao r.mag.length c r.exp w (fun u k => ?_) (fun u => ?_)
  · have := has5_ok a1 b1 n s1 s2 hv r hr ao c u (hT.kept k) (h.kept k)
    rw [decide_eq_true ⟨h1, h2⟩] at this
    exact this
  · have := svalid_any a1 b1 n s1 s2 u
    rw [hv] at this
    exact this
end Go.Proofs.YtdhimkpfnhoagaaGreatDoor
