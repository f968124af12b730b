/- The walk of TensorBack. -/
import Derived.Test.YtijmjnmimijfdabT75
namespace Go.Proofs.Ytijmjnmimijfdab
open Go.ChangeShapes Go.WideShapes Go.ChangeAt Go.RowKit
set_option linter.unusedVariables false
set_option linter.unusedSimpArgs false

set_option maxHeartbeats 8000000 in
set_option maxRecDepth 100000 in
theorem tb_try (R C rc : Nat) (hrc : R * C = rc) (n a : Int) (M : List Int) (h : Mf R C n M) (hlen : rc ≤ 600) (bb off cap : Nat) (w : World) (hW : Mi w M bb off cap) : Calls Try.prog 4 #[.agg #[.int .i64 R, .int .i64 C, .int .i64 n, .slice (some ⟨bb, off, none⟩) rc cap], .int .i64 a] w fun e w' => e = .returned (.bool true) ∧ Bl w w' := by
  have KA : Hid (∀ u, Calls Try.prog 6 #[] u fun e w' => e = .returned (.bool true) ∧ Bl u w') := fun u => alive_true u
  have KN : Hid (∀ u e, Calls Try.prog 14 #[.int .i64 e] u fun r w' => r = .returned (.int .i64 e) ∧ u = w') := fun u e => num_any e u
  have KC : Hid (∀ u, Bl w u → Calls Try.prog 17 #[.agg #[.int .i64 R, .int .i64 C, .int .i64 n, .slice (some ⟨bb, off, none⟩) rc cap]] u fun e w' => e = .returned (.int .i64 0) ∧ Kept u w') := fun u ku => by
    have := check_any R C n (some ⟨bb, off, none⟩) cap M u (hW.bl ku).sl
    rw [h.ck, h.hML, hrc] at this
    exact this
  have HT1 : Hid (∀ u, Bl w u → Calls Try.prog 18 #[.agg #[.int .i64 R, .int .i64 C, .int .i64 n, .slice (some ⟨bb, off, none⟩) rc cap]] u fun e w' => ∃ g, e = .returned (.tuple #[.agg #[.int .i64 C, .int .i64 R, .int .i64 n, .slice (some ⟨g, 0, none⟩) rc rc], .int .i64 0]) ∧ Own w' g rc ((lst rc (trf M R C)).map (cln · n)) ∧ Bl u w') := fun u k => tb_t1 R C rc n M h hrc bb off cap u (hW.bl k)
  have HT2 : Hid (∀ u g1, Own u g1 rc ((lst rc (trf M R C)).map (cln · n)) → Calls Try.prog 18 #[.agg #[.int .i64 C, .int .i64 R, .int .i64 n, .slice (some ⟨g1, 0, none⟩) rc rc]] u fun e w' => ∃ g, e = .returned (.tuple #[.agg #[.int .i64 R, .int .i64 C, .int .i64 n, .slice (some ⟨g, 0, none⟩) rc rc], .int .i64 0]) ∧ Own w' g rc (M.map (cln · n)) ∧ Bl u w') := fun u g1 o => tb_t2 R C rc n M h hrc g1 u (mi_own o)
  have HF1 : Hid (∀ u, Bl w u → Calls Try.prog 19 #[.agg #[.int .i64 R, .int .i64 C, .int .i64 n, .slice (some ⟨bb, off, none⟩) rc cap], .int .i64 1, .int .i64 rc] u fun e w' => ∃ g, e = .returned (.tuple #[.agg #[.int .i64 1, .int .i64 rc, .int .i64 n, .slice (some ⟨g, 0, none⟩) rc rc], .int .i64 0]) ∧ Own w' g rc (M.map (cln · n)) ∧ Bl u w') := fun u k => tb_f1 R C rc n M h hrc bb off cap u (hW.bl k)
  have HF2 : Hid (∀ u g1, Own u g1 rc (M.map (cln · n)) → Calls Try.prog 19 #[.agg #[.int .i64 1, .int .i64 rc, .int .i64 n, .slice (some ⟨g1, 0, none⟩) rc rc], .int .i64 R, .int .i64 C] u fun e w' => ∃ g, e = .returned (.tuple #[.agg #[.int .i64 R, .int .i64 C, .int .i64 n, .slice (some ⟨g, 0, none⟩) rc rc], .int .i64 0]) ∧ Own w' g rc (M.map (cln · n)) ∧ Bl u w') := fun u g1 o => tb_f2 R C rc n M h hrc g1 u (mi_own o)
  have KS : Hid (∀ u g1, Bl w u → Own u g1 rc (M.map (cln · n)) → Calls Try.prog 9 #[.agg #[.int .i64 R, .int .i64 C, .int .i64 n, .slice (some ⟨bb, off, none⟩) rc cap], .agg #[.int .i64 R, .int .i64 C, .int .i64 n, .slice (some ⟨g1, 0, none⟩) rc rc]] u fun e w' => e = .returned (.bool true) ∧ Bl u w') := fun u g1 k o => tb_s R C rc n M h hrc bb off cap g1 u (hW.bl k) (mi_own o)
  have HC1 : Hid (∀ k d z0 z1 : Nat, k + d = C → 0 < k → 0 < d → R * k = z0 → R * d = z1 → ∀ u, Bl w u → Calls Try.prog 20 #[.agg #[.int .i64 R, .int .i64 C, .int .i64 n, .slice (some ⟨bb, off, none⟩) rc cap], .int .i64 0, .int .i64 k] u fun e w' => ∃ g, e = .returned (.tuple #[.agg #[.int .i64 R, .int .i64 k, .int .i64 n, .slice (some ⟨g, 0, none⟩) z0 z0], .int .i64 0]) ∧ Own w' g z0 ((lst z0 (ctf M C 0 0 k)).map (cln · n)) ∧ Bl u w') := fun k d z0 z1 e1 e2 e3 e4 e5 u q => tb_c1 R C rc n M h hrc k d z0 z1 e1 e2 e3 e4 e5 bb off cap u (hW.bl q)
  have HC2 : Hid (∀ k d z0 z1 : Nat, k + d = C → 0 < k → 0 < d → R * k = z0 → R * d = z1 → ∀ u, Bl w u → Calls Try.prog 20 #[.agg #[.int .i64 R, .int .i64 C, .int .i64 n, .slice (some ⟨bb, off, none⟩) rc cap], .int .i64 k, .int .i64 C] u fun e w' => ∃ g, e = .returned (.tuple #[.agg #[.int .i64 R, .int .i64 d, .int .i64 n, .slice (some ⟨g, 0, none⟩) z1 z1], .int .i64 0]) ∧ Own w' g z1 ((lst z1 (ctf M C 0 k d)).map (cln · n)) ∧ Bl u w') := fun k d z0 z1 e1 e2 e3 e4 e5 u q => tb_c2 R C rc n M h hrc k d z0 z1 e1 e2 e3 e4 e5 bb off cap u (hW.bl q)
  have HR1 : Hid (∀ k d z0 z1 : Nat, k + d = R → 0 < k → 0 < d → k * C = z0 → d * C = z1 → ∀ u, Bl w u → Calls Try.prog 22 #[.agg #[.int .i64 R, .int .i64 C, .int .i64 n, .slice (some ⟨bb, off, none⟩) rc cap], .int .i64 0, .int .i64 k] u fun e w' => ∃ g, e = .returned (.tuple #[.agg #[.int .i64 k, .int .i64 C, .int .i64 n, .slice (some ⟨g, 0, none⟩) z0 z0], .int .i64 0]) ∧ Own w' g z0 ((lst z0 (ctf M C 0 0 C)).map (cln · n)) ∧ Bl u w') := fun k d z0 z1 e1 e2 e3 e4 e5 u q => tb_r1 R C rc n M h hrc k d z0 z1 e1 e2 e3 e4 e5 bb off cap u (hW.bl q)
  have HR2 : Hid (∀ k d z0 z1 : Nat, k + d = R → 0 < k → 0 < d → k * C = z0 → d * C = z1 → ∀ u, Bl w u → Calls Try.prog 22 #[.agg #[.int .i64 R, .int .i64 C, .int .i64 n, .slice (some ⟨bb, off, none⟩) rc cap], .int .i64 k, .int .i64 R] u fun e w' => ∃ g, e = .returned (.tuple #[.agg #[.int .i64 d, .int .i64 C, .int .i64 n, .slice (some ⟨g, 0, none⟩) z1 z1], .int .i64 0]) ∧ Own w' g z1 ((lst z1 (ctf M C k 0 C)).map (cln · n)) ∧ Bl u w') := fun k d z0 z1 e1 e2 e3 e4 e5 u q => tb_r2 R C rc n M h hrc k d z0 z1 e1 e2 e3 e4 e5 bb off cap u (hW.bl q)
  have HX1 : Hid (R = 1 → ∀ z3 : Nat, 3 * C = z3 → z3 ≤ 4096 → ∀ u, Bl w u → Calls Try.prog 24 #[.agg #[.int .i64 R, .int .i64 C, .int .i64 n, .slice (some ⟨bb, off, none⟩) rc cap], .int .i64 3, .int .i64 C] u fun e w' => ∃ g, e = .returned (.tuple #[.agg #[.int .i64 3, .int .i64 C, .int .i64 n, .slice (some ⟨g, 0, none⟩) z3 z3], .int .i64 0]) ∧ Own w' g z3 ((lst z3 (stf M R C C)).map (cln · n)) ∧ Bl u w') := fun e1 z3 e2 e3 u q => tb_x1 R C rc n M h hrc z3 e1 e2 e3 bb off cap u (hW.bl q)
  have HX2 : Hid (R = 1 → ∀ z3 : Nat, 3 * C = z3 → z3 ≤ 4096 → ∀ u g1, Own u g1 z3 ((lst z3 (stf M R C C)).map (cln · n)) → Calls Try.prog 22 #[.agg #[.int .i64 3, .int .i64 C, .int .i64 n, .slice (some ⟨g1, 0, none⟩) z3 z3], .int .i64 2, .int .i64 3] u fun e w' => ∃ g, e = .returned (.tuple #[.agg #[.int .i64 R, .int .i64 C, .int .i64 n, .slice (some ⟨g, 0, none⟩) rc rc], .int .i64 0]) ∧ Own w' g rc (M.map (cln · n)) ∧ Bl u w') := fun e1 z3 e2 e3 u g1 o => tb_x2 R C rc n M h hrc z3 e1 e2 e3 g1 u (mi_own o)
  have HV1 : Hid (n = 32 → ∀ u, Bl w u → Calls Try.prog 8 #[.agg #[.int .i64 R, .int .i64 C, .int .i64 n, .slice (some ⟨bb, off, none⟩) rc cap], .int .i64 64] u fun e w' => ∃ g, e = .returned (.tuple #[.agg #[.int .i64 R, .int .i64 C, .int .i64 64, .slice (some ⟨g, 0, none⟩) rc rc], .int .i64 0]) ∧ Own w' g rc ((lst M.length (fun j => cvw (M.getD j 0))).map (cln · 64)) ∧ Bl u w') := fun e u q => tb_v1 R C rc n M h hrc e bb off cap u (hW.bl q)
  have HV2 : Hid (n = 32 → ∀ u g1, Own u g1 rc ((lst M.length (fun j => cvw (M.getD j 0))).map (cln · 64)) → Calls Try.prog 8 #[.agg #[.int .i64 R, .int .i64 C, .int .i64 64, .slice (some ⟨g1, 0, none⟩) rc rc], .int .i64 32] u fun e w' => ∃ g, e = .returned (.tuple #[.agg #[.int .i64 R, .int .i64 C, .int .i64 n, .slice (some ⟨g, 0, none⟩) rc rc], .int .i64 0]) ∧ Own w' g rc (M.map (cln · n)) ∧ Bl u w') := fun e u g1 o => by
    have := tb_v2 R C rc n M h hrc e g1 u (mi_own o)
    rw [e] at this ⊢
    exact this
  generalize hL1 : (lst rc (trf M R C)).map (cln · n) = L1 at HT1 HT2
  clear hL1
  have HL3 : Hid (∃ L, L = M.map (cln · n)) := ⟨_, rfl⟩
  generalize hL3 : M.map (cln · n) = L3 at HT2 HF1 HF2 KS HX2 HV2
  have EL3 : Hid _ := hL3
  clear hL3 HL3
  have g1 : ¬ (600 : Int) < (rc : Int) := by omega
  have HRC : Hid (R * C = rc) := hrc
  have hRp : 0 < R := h.hR
  have hCp : 0 < C := h.hC
  have hR4 : R ≤ 4096 := Nat.le_trans (Nat.le_mul_of_pos_right R h.hC) h.hRC
  have hC4 : C ≤ 4096 := Nat.le_trans (Nat.le_mul_of_pos_left C h.hR) h.hRC
  obtain ⟨X, hX⟩ : ∃ X, X = w.alloc (.cells #[.int .i64 R, .int .i64 C, .int .i64 n, .slice (some ⟨bb, off, none⟩) rc cap] 24) := ⟨_, rfl⟩
  have hB : Bl w X := by rw [hX]; exact (Bl.refl w).alloc _
  have hM : M4 X w.heap.size (.int .i64 R) (.int .i64 C) (.int .i64 n) (.slice (some ⟨bb, off, none⟩) rc cap) := by rw [hX]; exact M4.new _ _ _ _ _ _
  clear hrc
  go_enter Try.func4, Try.ntmps4
  go_upto_region 1 with fail
  rw [← hX]
  clear hX
  go_upto_region 2 with (first | (go_at_call 6; refine (KA.out _).mono ?_; rintro e w1 ⟨rfl, k1⟩))
  obtain ⟨m0, m1, m2, m3⟩ := hM.bl k1
  go_upto_region 3 with (first | (go_at_call 17; refine (KC.out _ (hB.trans k1)).mono ?_; rintro e w2 ⟨rfl, k2⟩))
  clear m0 m1 m2 m3
  have kx := k1.trans k2.bl
  clear k1 k2
  obtain ⟨m0, m1, m2, m3⟩ := hM.bl kx
  go_upto_region 5 with (first | (go_at_call 14; refine (KN.out _ _).mono ?_; rintro e w8 ⟨rfl, rfl⟩))
  go_upto_region 6 with (first | (go_at_call 18; refine (HT1.out _ (hB.trans kx)).mono ?_; rintro e w3 ⟨oAg, rfl, oa, k3⟩))
  clear m0 m1 m2 m3
  obtain ⟨Y, hY⟩ : ∃ Y, Y = w3.alloc (.cells #[.int .i64 C, .int .i64 R, .int .i64 n, .slice (some ⟨oAg, 0, none⟩) rc rc] 24) := ⟨_, rfl⟩
  rw [← hY]
  have kY := k3.alloc (.cells #[.int .i64 C, .int .i64 R, .int .i64 n, .slice (some ⟨oAg, 0, none⟩) rc rc] 24)
  rw [← hY] at kY
  replace kx := kx.trans kY
  have mA : M4 Y w3.heap.size (.int .i64 C) (.int .i64 R) (.int .i64 n) (.slice (some ⟨oAg, 0, none⟩) rc rc) := by rw [hY]; exact M4.new _ _ _ _ _ _
  have oA : Own Y oAg rc L1 := by rw [hY]; exact oa.bl ((Bl.refl _).alloc _)
  generalize w3.heap.size = mAb at *
  clear hY k3 oa
  clear kY
  obtain ⟨m0, m1, m2, m3⟩ := mA
  go_upto_region 7 with (first | (go_at_call 18; refine (HT2.out _ _ oA).mono ?_; rintro e w3 ⟨oBg, rfl, oa, k3⟩))
  clear m0 m1 m2 m3 oA
  obtain ⟨Y, hY⟩ : ∃ Y, Y = w3.alloc (.cells #[.int .i64 R, .int .i64 C, .int .i64 n, .slice (some ⟨oBg, 0, none⟩) rc rc] 24) := ⟨_, rfl⟩
  rw [← hY]
  have kY := k3.alloc (.cells #[.int .i64 R, .int .i64 C, .int .i64 n, .slice (some ⟨oBg, 0, none⟩) rc rc] 24)
  rw [← hY] at kY
  replace kx := kx.trans kY
  have mB : M4 Y w3.heap.size (.int .i64 R) (.int .i64 C) (.int .i64 n) (.slice (some ⟨oBg, 0, none⟩) rc rc) := by rw [hY]; exact M4.new _ _ _ _ _ _
  have oB : Own Y oBg rc L3 := by rw [hY]; exact oa.bl ((Bl.refl _).alloc _)
  generalize w3.heap.size = mBb at *
  clear hY k3 oa
  clear kY
  obtain ⟨m0, m1, m2, m3⟩ := hM.bl kx
  go_upto_region 8 with (first | (go_at_call 19; refine (HF1.out _ (hB.trans kx)).mono ?_; rintro e w3 ⟨oCg, rfl, oa, k3⟩))
  clear m0 m1 m2 m3
  obtain ⟨Y, hY⟩ : ∃ Y, Y = w3.alloc (.cells #[.int .i64 1, .int .i64 rc, .int .i64 n, .slice (some ⟨oCg, 0, none⟩) rc rc] 24) := ⟨_, rfl⟩
  rw [← hY]
  have kY := k3.alloc (.cells #[.int .i64 1, .int .i64 rc, .int .i64 n, .slice (some ⟨oCg, 0, none⟩) rc rc] 24)
  rw [← hY] at kY
  replace kx := kx.trans kY
  have mC : M4 Y w3.heap.size (.int .i64 1) (.int .i64 rc) (.int .i64 n) (.slice (some ⟨oCg, 0, none⟩) rc rc) := by rw [hY]; exact M4.new _ _ _ _ _ _
  have oC : Own Y oCg rc L3 := by rw [hY]; exact oa.bl ((Bl.refl _).alloc _)
  replace oB := oB.bl kY
  replace mB := mB.bl kY
  generalize w3.heap.size = mCb at *
  clear hY k3 oa
  clear kY
  obtain ⟨m0, m1, m2, m3⟩ := hM.bl kx
  obtain ⟨c0, c1, c2, c3⟩ := mC
  go_upto_region 9 with (first | (go_at_call 19; refine (HF2.out _ _ oC).mono ?_; rintro e w3 ⟨oDg, rfl, oa, k3⟩))
  clear m0 m1 m2 m3 c0 c1 c2 c3 oC
  obtain ⟨Y, hY⟩ : ∃ Y, Y = w3.alloc (.cells #[.int .i64 R, .int .i64 C, .int .i64 n, .slice (some ⟨oDg, 0, none⟩) rc rc] 24) := ⟨_, rfl⟩
  rw [← hY]
  have kY := k3.alloc (.cells #[.int .i64 R, .int .i64 C, .int .i64 n, .slice (some ⟨oDg, 0, none⟩) rc rc] 24)
  rw [← hY] at kY
  replace kx := kx.trans kY
  have mD : M4 Y w3.heap.size (.int .i64 R) (.int .i64 C) (.int .i64 n) (.slice (some ⟨oDg, 0, none⟩) rc rc) := by rw [hY]; exact M4.new _ _ _ _ _ _
  have oD : Own Y oDg rc L3 := by rw [hY]; exact oa.bl ((Bl.refl _).alloc _)
  replace oB := oB.bl kY
  replace mB := mB.bl kY
  generalize w3.heap.size = mDb at *
  clear hY k3 oa
  clear kY
  obtain ⟨m0, m1, m2, m3⟩ := hM.bl kx
  obtain ⟨b0, b1, b2, b3⟩ := mB
  go_upto_region 11 with (first | (go_at_call 9; refine (KS.out _ _ (hB.trans kx) (by first | exact oB | exact oD)).mono ?_; rintro e w4 ⟨rfl, k4⟩; replace oD := oD.bl k4; replace mD := mD.bl k4; replace kx := kx.trans k4; have q0 := mD.c0; have q1 := mD.c1; have q2 := mD.c2; have q3 := mD.c3; have q4 := (hM.bl kx).c0; have q5 := (hM.bl kx).c1; have q6 := (hM.bl kx).c2; have q7 := (hM.bl kx).c3))
  clear m0 m1 m2 m3 b0 b1 b2 b3 oB oD mD HT1 HT2 HF1 HF2 KC KN KA
  obtain ⟨t1, ht1⟩ : ∃ b : Bool, b = (decide ((1 : Int) < C) && decide (0 < a)) := ⟨_, rfl⟩
  go_cut [97] from 91 (fun t wx => t = .bool t1 ∧ wx = w4)
  case first =>
    by_cases h1 : (1 : Int) < C <;> by_cases h2 : 0 < a
    all_goals
      go_wp2_with fail
      go_meet
      exact ⟨by rw [ht1]; simp [h1, h2], rfl⟩
  case rest =>
  obtain ⟨rfl, hwc⟩ := hcut
  obtain rfl : w4 = wc := hwc.symm
  go_upto_if 97 with fail
  go_cut [] from 15 (fun wx => Bl w4 wx)
  case first =>
    cases t1
    · go_wp2_with fail
      go_meet
      exact Bl.refl _
    · obtain ⟨h1, h2⟩ : (1 : Int) < C ∧ 0 < a := by simpa using ht1.symm
      clear ht1
      obtain ⟨k, d, hk, hkd, hk0, hd0⟩ : ∃ k d : Nat, a.tmod ((C : Int) - 1) = (k : Int) - 1 ∧ k + d = C ∧ 0 < k ∧ 0 < d := by
        have g1 := Int.tmod_eq_emod_of_nonneg (a := a) (b := (C : Int) - 1) (by omega)
        have g2 := Int.emod_nonneg a (b := (C : Int) - 1) (by omega)
        have g3 := Int.emod_lt_of_pos a (b := (C : Int) - 1) (by omega)
        refine ⟨(a % ((C : Int) - 1)).toNat + 1, C - ((a % ((C : Int) - 1)).toNat + 1), ?_, ?_, ?_, ?_⟩ <;> omega
      have hz : ¬ (C : Int) - 1 = 0 := by omega
      have hkc : (k : Int) - 1 + 1 = k := by omega
      have hkw : wrap64 (k : Int) = k := by unfold wrap64; omega
      obtain ⟨z0, hz0⟩ : ∃ z, R * k = z := ⟨_, rfl⟩
      obtain ⟨z1, hz1⟩ : ∃ z, R * d = z := ⟨_, rfl⟩
      have KC1 : Hid _ := HC1.out k d z0 z1 hkd hk0 hd0 hz0 hz1
      have KC2 : Hid _ := HC2.out k d z0 z1 hkd hk0 hd0 hz0 hz1
      have KC3 : Hid (∀ u B ga gb, B < u.heap.size → M4 u B (.int .i64 R) (.int .i64 k) (.int .i64 n) (.slice (some ⟨ga, 0, none⟩) z0 z0) → u.cell? ⟨B, 4, none⟩ = some (.int .i64 R) → u.cell? ⟨B, 5, none⟩ = some (.int .i64 d) → u.cell? ⟨B, 6, none⟩ = some (.int .i64 n) → u.cell? ⟨B, 7, none⟩ = some (.slice (some ⟨gb, 0, none⟩) z1 z1) → Own u ga z0 ((lst z0 (ctf M C 0 0 k)).map (cln · n)) → Own u gb z1 ((lst z1 (ctf M C 0 k d)).map (cln · n)) → Calls Try.prog 21 #[.slice (some ⟨B, 0, none⟩) 2 2] u (fun e w' => ∃ g, e = .returned (.tuple #[.agg #[.int .i64 R, .int .i64 C, .int .i64 n, .slice (some ⟨g, 0, none⟩) rc rc], .int .i64 0]) ∧ Own w' g rc (L3) ∧ Bl u w')) := fun u B ga gb hb hm d4 d5 d6 d7 oa ob => by
        rw [← EL3.out]
        exact tb_c3 R C rc n M h HRC.out k d z0 z1 hkd hk0 hd0 hz0 hz1 B ga gb u hb hm.c0 hm.c1 hm.c2 hm.c3 d4 d5 d6 d7 oa ob
      generalize (lst z0 (ctf M C 0 0 k)).map (cln · n) = LA at KC1 KC3
      generalize (lst z1 (ctf M C 0 k d)).map (cln · n) = LB at KC2 KC3
      clear hkd hz0 hz1 hk0 hd0
      have ks := Bl.refl w4
      go_upto_region 13 with fail
      rw [hkw]
      clear hk hz hkc hkw
      go_upto_region 14 with (first | (go_at_call 20; refine (KC1.out _ (hB.trans kx)).mono ?_; rintro e w3 ⟨oAg, rfl, oa, k3⟩))
      clear q4 q5 q6 q7
      obtain ⟨Y, hY⟩ : ∃ Y, Y = w3.alloc (.cells #[.int .i64 R, .int .i64 k, .int .i64 n, .slice (some ⟨oAg, 0, none⟩) z0 z0] 24) := ⟨_, rfl⟩
      rw [← hY]
      have kY := k3.alloc (.cells #[.int .i64 R, .int .i64 k, .int .i64 n, .slice (some ⟨oAg, 0, none⟩) z0 z0] 24)
      rw [← hY] at kY
      replace kx := kx.trans kY
      have mE : M4 Y w3.heap.size (.int .i64 R) (.int .i64 k) (.int .i64 n) (.slice (some ⟨oAg, 0, none⟩) z0 z0) := by rw [hY]; exact M4.new _ _ _ _ _ _
      have oA : Own Y oAg z0 LA := by rw [hY]; exact oa.bl ((Bl.refl _).alloc _)
      replace ks := ks.trans kY
      generalize w3.heap.size = mEb at *
      clear hY k3 oa
      clear kY
      obtain ⟨q4, q5, q6, q7⟩ := hM.bl kx
      go_upto_region 15 with (first | (go_at_call 20; refine (KC2.out _ (hB.trans kx)).mono ?_; rintro e w3 ⟨oBg, rfl, oa, k3⟩))
      clear q4 q5 q6 q7
      obtain ⟨Y, hY⟩ : ∃ Y, Y = w3.alloc (.cells #[.int .i64 R, .int .i64 d, .int .i64 n, .slice (some ⟨oBg, 0, none⟩) z1 z1] 24) := ⟨_, rfl⟩
      rw [← hY]
      have kY := k3.alloc (.cells #[.int .i64 R, .int .i64 d, .int .i64 n, .slice (some ⟨oBg, 0, none⟩) z1 z1] 24)
      rw [← hY] at kY
      replace kx := kx.trans kY
      have mF : M4 Y w3.heap.size (.int .i64 R) (.int .i64 d) (.int .i64 n) (.slice (some ⟨oBg, 0, none⟩) z1 z1) := by rw [hY]; exact M4.new _ _ _ _ _ _
      have oB : Own Y oBg z1 LB := by rw [hY]; exact oa.bl ((Bl.refl _).alloc _)
      replace ks := ks.trans kY
      replace oA := oA.bl kY
      replace mE := mE.bl kY
      generalize w3.heap.size = mFb at *
      clear hY k3 oa
      clear kY
      obtain ⟨q4, q5, q6, q7⟩ := mE
      obtain ⟨f4, f5, f6, f7⟩ := mF
      obtain ⟨N, hN⟩ : ∃ N, N = Y.alloc (.cells #[.int .i64 R, .int .i64 k, .int .i64 n, .slice (some ⟨oAg, 0, none⟩) z0 z0, .int .i64 R, .int .i64 d, .int .i64 n, .slice (some ⟨oBg, 0, none⟩) z1 z1] 24) := ⟨_, rfl⟩
      have kN : Bl Y N := by rw [hN]; exact (Bl.refl Y).alloc _
      obtain ⟨n0, n4, n5, n6, n7, nl⟩ := new8 Y (.int .i64 R) (.int .i64 k) (.int .i64 n) (.slice (some ⟨oAg, 0, none⟩) z0 z0) (.int .i64 R) (.int .i64 d) (.int .i64 n) (.slice (some ⟨oBg, 0, none⟩) z1 z1) 24
      rw [← hN] at n0 n4 n5 n6 n7 nl
      have KZ := KC3.out _ _ _ _ nl n0 n4 n5 n6 n7 (oA.bl kN) (oB.bl kN)
      replace kx := kx.trans kN
      replace ks := ks.trans kN
      clear n0 n4 n5 n6 n7 nl oA oB
      clear kN
      go_upto_region 16 with (first | (go_at_call 21; rw [← hN]; refine (KZ).mono ?_; rintro e w3 ⟨oZg, rfl, oa, k3⟩))
      clear q4 q5 q6 q7 f4 f5 f6 f7
      obtain ⟨Y, hY⟩ : ∃ Y, Y = w3.alloc (.cells #[.int .i64 R, .int .i64 C, .int .i64 n, .slice (some ⟨oZg, 0, none⟩) rc rc] 24) := ⟨_, rfl⟩
      rw [← hY]
      have kY := k3.alloc (.cells #[.int .i64 R, .int .i64 C, .int .i64 n, .slice (some ⟨oZg, 0, none⟩) rc rc] 24)
      rw [← hY] at kY
      replace kx := kx.trans kY
      have mZ : M4 Y w3.heap.size (.int .i64 R) (.int .i64 C) (.int .i64 n) (.slice (some ⟨oZg, 0, none⟩) rc rc) := by rw [hY]; exact M4.new _ _ _ _ _ _
      have oZ : Own Y oZg rc L3 := by rw [hY]; exact oa.bl ((Bl.refl _).alloc _)
      replace ks := ks.trans kY
      generalize w3.heap.size = mZb at *
      clear hY k3 oa
      clear kY
      obtain ⟨q4, q5, q6, q7⟩ := hM.bl kx
      obtain ⟨f4, f5, f6, f7⟩ := mZ
      go_wp2_with (first | (go_at_call 9; refine (KS.out _ _ (hB.trans kx) oZ).mono ?_; rintro e w6 ⟨rfl, k6⟩))
      go_meet
      exact ks.trans k6
  case rest =>
  rename World => w5
  replace kx := kx.trans hcut
  clear q4 q5 q6 q7 hcut ht1
  obtain ⟨q4, q5, q6, q7⟩ := hM.bl kx
  go_upto_region 18 with fail
  obtain ⟨t1, ht1⟩ : ∃ b : Bool, b = (decide ((1 : Int) < R) && decide (0 < a)) := ⟨_, rfl⟩
  go_cut [135] from 129 (fun t wx => t = .bool t1 ∧ wx = w5)
  case first =>
    by_cases h1 : (1 : Int) < R <;> by_cases h2 : 0 < a
    all_goals
      go_wp2_with fail
      go_meet
      exact ⟨by rw [ht1]; simp [h1, h2], rfl⟩
  case rest =>
  obtain ⟨rfl, hwc⟩ := hcut
  obtain rfl : w5 = wc := hwc.symm
  go_upto_if 135 with fail
  go_cut [] from 22 (fun wx => Bl w5 wx)
  case first =>
    cases t1
    · go_wp2_with fail
      go_meet
      exact Bl.refl _
    · obtain ⟨h1, h2⟩ : (1 : Int) < R ∧ 0 < a := by simpa using ht1.symm
      clear ht1
      obtain ⟨k, d, hk, hkd, hk0, hd0⟩ : ∃ k d : Nat, a.tmod ((R : Int) - 1) = (k : Int) - 1 ∧ k + d = R ∧ 0 < k ∧ 0 < d := by
        have g1 := Int.tmod_eq_emod_of_nonneg (a := a) (b := (R : Int) - 1) (by omega)
        have g2 := Int.emod_nonneg a (b := (R : Int) - 1) (by omega)
        have g3 := Int.emod_lt_of_pos a (b := (R : Int) - 1) (by omega)
        refine ⟨(a % ((R : Int) - 1)).toNat + 1, R - ((a % ((R : Int) - 1)).toNat + 1), ?_, ?_, ?_, ?_⟩ <;> omega
      have hz : ¬ (R : Int) - 1 = 0 := by omega
      have hkc : (k : Int) - 1 + 1 = k := by omega
      have hkw : wrap64 (k : Int) = k := by unfold wrap64; omega
      obtain ⟨z0, hz0⟩ : ∃ z, k * C = z := ⟨_, rfl⟩
      obtain ⟨z1, hz1⟩ : ∃ z, d * C = z := ⟨_, rfl⟩
      have KC1 : Hid _ := HR1.out k d z0 z1 hkd hk0 hd0 hz0 hz1
      have KC2 : Hid _ := HR2.out k d z0 z1 hkd hk0 hd0 hz0 hz1
      have KC3 : Hid (∀ u B ga gb, B < u.heap.size → M4 u B (.int .i64 k) (.int .i64 C) (.int .i64 n) (.slice (some ⟨ga, 0, none⟩) z0 z0) → u.cell? ⟨B, 4, none⟩ = some (.int .i64 d) → u.cell? ⟨B, 5, none⟩ = some (.int .i64 C) → u.cell? ⟨B, 6, none⟩ = some (.int .i64 n) → u.cell? ⟨B, 7, none⟩ = some (.slice (some ⟨gb, 0, none⟩) z1 z1) → Own u ga z0 ((lst z0 (ctf M C 0 0 C)).map (cln · n)) → Own u gb z1 ((lst z1 (ctf M C k 0 C)).map (cln · n)) → Calls Try.prog 23 #[.slice (some ⟨B, 0, none⟩) 2 2] u (fun e w' => ∃ g, e = .returned (.tuple #[.agg #[.int .i64 R, .int .i64 C, .int .i64 n, .slice (some ⟨g, 0, none⟩) rc rc], .int .i64 0]) ∧ Own w' g rc (L3) ∧ Bl u w')) := fun u B ga gb hb hm d4 d5 d6 d7 oa ob => by
        rw [← EL3.out]
        exact tb_r3 R C rc n M h HRC.out k d z0 z1 hkd hk0 hd0 hz0 hz1 B ga gb u hb hm.c0 hm.c1 hm.c2 hm.c3 d4 d5 d6 d7 oa ob
      generalize (lst z0 (ctf M C 0 0 C)).map (cln · n) = LA at KC1 KC3
      generalize (lst z1 (ctf M C k 0 C)).map (cln · n) = LB at KC2 KC3
      clear hkd hz0 hz1 hk0 hd0
      have ks := Bl.refl w5
      go_upto_region 20 with fail
      rw [hkw]
      clear hk hz hkc hkw
      go_upto_region 21 with (first | (go_at_call 22; refine (KC1.out _ (hB.trans kx)).mono ?_; rintro e w3 ⟨oAg, rfl, oa, k3⟩))
      clear q4 q5 q6 q7
      obtain ⟨Y, hY⟩ : ∃ Y, Y = w3.alloc (.cells #[.int .i64 k, .int .i64 C, .int .i64 n, .slice (some ⟨oAg, 0, none⟩) z0 z0] 24) := ⟨_, rfl⟩
      rw [← hY]
      have kY := k3.alloc (.cells #[.int .i64 k, .int .i64 C, .int .i64 n, .slice (some ⟨oAg, 0, none⟩) z0 z0] 24)
      rw [← hY] at kY
      replace kx := kx.trans kY
      have mE : M4 Y w3.heap.size (.int .i64 k) (.int .i64 C) (.int .i64 n) (.slice (some ⟨oAg, 0, none⟩) z0 z0) := by rw [hY]; exact M4.new _ _ _ _ _ _
      have oA : Own Y oAg z0 LA := by rw [hY]; exact oa.bl ((Bl.refl _).alloc _)
      replace ks := ks.trans kY
      generalize w3.heap.size = mEb at *
      clear hY k3 oa
      clear kY
      obtain ⟨q4, q5, q6, q7⟩ := hM.bl kx
      go_upto_region 22 with (first | (go_at_call 22; refine (KC2.out _ (hB.trans kx)).mono ?_; rintro e w3 ⟨oBg, rfl, oa, k3⟩))
      clear q4 q5 q6 q7
      obtain ⟨Y, hY⟩ : ∃ Y, Y = w3.alloc (.cells #[.int .i64 d, .int .i64 C, .int .i64 n, .slice (some ⟨oBg, 0, none⟩) z1 z1] 24) := ⟨_, rfl⟩
      rw [← hY]
      have kY := k3.alloc (.cells #[.int .i64 d, .int .i64 C, .int .i64 n, .slice (some ⟨oBg, 0, none⟩) z1 z1] 24)
      rw [← hY] at kY
      replace kx := kx.trans kY
      have mF : M4 Y w3.heap.size (.int .i64 d) (.int .i64 C) (.int .i64 n) (.slice (some ⟨oBg, 0, none⟩) z1 z1) := by rw [hY]; exact M4.new _ _ _ _ _ _
      have oB : Own Y oBg z1 LB := by rw [hY]; exact oa.bl ((Bl.refl _).alloc _)
      replace ks := ks.trans kY
      replace oA := oA.bl kY
      replace mE := mE.bl kY
      generalize w3.heap.size = mFb at *
      clear hY k3 oa
      clear kY
      obtain ⟨q4, q5, q6, q7⟩ := mE
      obtain ⟨f4, f5, f6, f7⟩ := mF
      obtain ⟨N, hN⟩ : ∃ N, N = Y.alloc (.cells #[.int .i64 k, .int .i64 C, .int .i64 n, .slice (some ⟨oAg, 0, none⟩) z0 z0, .int .i64 d, .int .i64 C, .int .i64 n, .slice (some ⟨oBg, 0, none⟩) z1 z1] 24) := ⟨_, rfl⟩
      have kN : Bl Y N := by rw [hN]; exact (Bl.refl Y).alloc _
      obtain ⟨n0, n4, n5, n6, n7, nl⟩ := new8 Y (.int .i64 k) (.int .i64 C) (.int .i64 n) (.slice (some ⟨oAg, 0, none⟩) z0 z0) (.int .i64 d) (.int .i64 C) (.int .i64 n) (.slice (some ⟨oBg, 0, none⟩) z1 z1) 24
      rw [← hN] at n0 n4 n5 n6 n7 nl
      have KZ := KC3.out _ _ _ _ nl n0 n4 n5 n6 n7 (oA.bl kN) (oB.bl kN)
      replace kx := kx.trans kN
      replace ks := ks.trans kN
      clear n0 n4 n5 n6 n7 nl oA oB
      clear kN
      go_upto_region 23 with (first | (go_at_call 23; rw [← hN]; refine (KZ).mono ?_; rintro e w3 ⟨oZg, rfl, oa, k3⟩))
      clear q4 q5 q6 q7 f4 f5 f6 f7
      obtain ⟨Y, hY⟩ : ∃ Y, Y = w3.alloc (.cells #[.int .i64 R, .int .i64 C, .int .i64 n, .slice (some ⟨oZg, 0, none⟩) rc rc] 24) := ⟨_, rfl⟩
      rw [← hY]
      have kY := k3.alloc (.cells #[.int .i64 R, .int .i64 C, .int .i64 n, .slice (some ⟨oZg, 0, none⟩) rc rc] 24)
      rw [← hY] at kY
      replace kx := kx.trans kY
      have mZ : M4 Y w3.heap.size (.int .i64 R) (.int .i64 C) (.int .i64 n) (.slice (some ⟨oZg, 0, none⟩) rc rc) := by rw [hY]; exact M4.new _ _ _ _ _ _
      have oZ : Own Y oZg rc L3 := by rw [hY]; exact oa.bl ((Bl.refl _).alloc _)
      replace ks := ks.trans kY
      generalize w3.heap.size = mZb at *
      clear hY k3 oa
      clear kY
      obtain ⟨q4, q5, q6, q7⟩ := hM.bl kx
      obtain ⟨f4, f5, f6, f7⟩ := mZ
      go_wp2_with (first | (go_at_call 9; refine (KS.out _ _ (hB.trans kx) oZ).mono ?_; rintro e w6 ⟨rfl, k6⟩))
      go_meet
      exact ks.trans k6
  case rest =>
  rename World => w7
  replace kx := kx.trans hcut
  clear q4 q5 q6 q7 hcut ht1
  obtain ⟨q4, q5, q6, q7⟩ := hM.bl kx
  go_upto_region 25 with fail
  obtain ⟨t1, ht1⟩ : ∃ b : Bool, b = decide ((R : Int) = 1) := ⟨_, rfl⟩
  go_cut [169] from 167 (fun t wx => t = .bool t1 ∧ wx = w7)
  case first =>
    go_wp2_with fail
    go_meet
    refine ⟨?_, rfl⟩
    rw [ht1]
    by_cases h1 : (R : Int) = 1 <;> simp [h1]
  case rest =>
  obtain ⟨rfl, hwc⟩ := hcut
  obtain rfl : w7 = wc := hwc.symm
  go_upto_if 169 with fail
  go_cut [] from 29 (fun wx => Bl w7 wx)
  case first =>
    cases t1
    · go_wp2_with fail
      go_meet
      exact Bl.refl _
    · have h1 : R = 1 := by have : (R : Int) = 1 := by simpa using ht1.symm
                            omega
      have hC6 : 3 * C ≤ 4096 := by have := HRC.out; rw [h1, Nat.one_mul] at this; omega
      obtain ⟨z3, hz3⟩ : ∃ z, 3 * C = z := ⟨_, rfl⟩
      have KX1 : Hid _ := HX1.out h1 z3 hz3 (by rw [← hz3]; exact hC6)
      have KX2 : Hid _ := HX2.out h1 z3 hz3 (by rw [← hz3]; exact hC6)
      generalize (lst z3 (stf M R C C)).map (cln · n) = LX at KX1 KX2
      have ks := Bl.refl w7
      clear ht1 h1 hz3 hC6 HX1 HX2
      go_upto_region 27 with (first | (go_at_call 24; refine (KX1.out _ (hB.trans kx)).mono ?_; rintro e w3 ⟨oAg, rfl, oa, k3⟩))
      clear q4 q5 q6 q7
      obtain ⟨Y, hY⟩ : ∃ Y, Y = w3.alloc (.cells #[.int .i64 3, .int .i64 C, .int .i64 n, .slice (some ⟨oAg, 0, none⟩) z3 z3] 24) := ⟨_, rfl⟩
      rw [← hY]
      have kY := k3.alloc (.cells #[.int .i64 3, .int .i64 C, .int .i64 n, .slice (some ⟨oAg, 0, none⟩) z3 z3] 24)
      rw [← hY] at kY
      replace kx := kx.trans kY
      have mE : M4 Y w3.heap.size (.int .i64 3) (.int .i64 C) (.int .i64 n) (.slice (some ⟨oAg, 0, none⟩) z3 z3) := by rw [hY]; exact M4.new _ _ _ _ _ _
      have oA : Own Y oAg z3 LX := by rw [hY]; exact oa.bl ((Bl.refl _).alloc _)
      replace ks := ks.trans kY
      generalize w3.heap.size = mEb at *
      clear hY k3 oa
      clear kY
      obtain ⟨q4, q5, q6, q7⟩ := mE
      go_upto_region 28 with (first | (go_at_call 22; refine (KX2.out _ _ oA).mono ?_; rintro e w3 ⟨oZg, rfl, oa, k3⟩))
      clear q4 q5 q6 q7 oA
      obtain ⟨Y, hY⟩ : ∃ Y, Y = w3.alloc (.cells #[.int .i64 R, .int .i64 C, .int .i64 n, .slice (some ⟨oZg, 0, none⟩) rc rc] 24) := ⟨_, rfl⟩
      rw [← hY]
      have kY := k3.alloc (.cells #[.int .i64 R, .int .i64 C, .int .i64 n, .slice (some ⟨oZg, 0, none⟩) rc rc] 24)
      rw [← hY] at kY
      replace kx := kx.trans kY
      have mZ : M4 Y w3.heap.size (.int .i64 R) (.int .i64 C) (.int .i64 n) (.slice (some ⟨oZg, 0, none⟩) rc rc) := by rw [hY]; exact M4.new _ _ _ _ _ _
      have oZ : Own Y oZg rc L3 := by rw [hY]; exact oa.bl ((Bl.refl _).alloc _)
      replace ks := ks.trans kY
      generalize w3.heap.size = mZb at *
      clear hY k3 oa
      clear kY
      obtain ⟨q4, q5, q6, q7⟩ := hM.bl kx
      obtain ⟨f4, f5, f6, f7⟩ := mZ
      go_wp2_with (first | (go_at_call 9; refine (KS.out _ _ (hB.trans kx) oZ).mono ?_; rintro e w6 ⟨rfl, k6⟩))
      go_meet
      exact ks.trans k6
  case rest =>
  rename World => w9
  replace kx := kx.trans hcut
  clear q4 q5 q6 q7 hcut ht1
  obtain ⟨q4, q5, q6, q7⟩ := hM.bl kx
  go_upto_region 30 with fail
  obtain ⟨t1, ht1⟩ : ∃ b : Bool, b = decide (n = 32) := ⟨_, rfl⟩
  go_cut [188] from 186 (fun t wx => t = .bool t1 ∧ wx = w9)
  case first =>
    go_wp2_with fail
    go_meet
    refine ⟨?_, rfl⟩
    rw [ht1]
    by_cases h1 : n = 32 <;> simp [h1]
  case rest =>
  obtain ⟨rfl, hwc⟩ := hcut
  obtain rfl : w9 = wc := hwc.symm
  cases t1
  · go_wp2_with fail
    exact bodyPost_ret (v := .bool true) (by simp [results, Try.results4, go_sem, *]) rfl ⟨rfl, hB.trans kx⟩
  · have h1 : n = 32 := by simpa using ht1.symm
    have KV1 : Hid _ := HV1.out h1
    have KV2 : Hid _ := HV2.out h1
    generalize (lst M.length (fun j => cvw (M.getD j 0))).map (cln · 64) = LX at KV1 KV2
    clear ht1 h1 HV1 HV2
    go_upto_region 31 with fail
    go_upto_region 32 with (first | (go_at_call 8; refine (KV1.out _ (hB.trans kx)).mono ?_; rintro e w3 ⟨oAg, rfl, oa, k3⟩))
    clear q4 q5 q6 q7
    obtain ⟨Y, hY⟩ : ∃ Y, Y = w3.alloc (.cells #[.int .i64 R, .int .i64 C, .int .i64 64, .slice (some ⟨oAg, 0, none⟩) rc rc] 24) := ⟨_, rfl⟩
    rw [← hY]
    have kY := k3.alloc (.cells #[.int .i64 R, .int .i64 C, .int .i64 64, .slice (some ⟨oAg, 0, none⟩) rc rc] 24)
    rw [← hY] at kY
    replace kx := kx.trans kY
    have mE : M4 Y w3.heap.size (.int .i64 R) (.int .i64 C) (.int .i64 64) (.slice (some ⟨oAg, 0, none⟩) rc rc) := by rw [hY]; exact M4.new _ _ _ _ _ _
    have oA : Own Y oAg rc LX := by rw [hY]; exact oa.bl ((Bl.refl _).alloc _)
    generalize w3.heap.size = mEb at *
    clear hY k3 oa
    clear kY
    obtain ⟨q4, q5, q6, q7⟩ := mE
    go_upto_region 33 with (first | (go_at_call 8; refine (KV2.out _ _ oA).mono ?_; rintro e w3 ⟨oZg, rfl, oa, k3⟩))
    clear q4 q5 q6 q7 oA
    obtain ⟨Y, hY⟩ : ∃ Y, Y = w3.alloc (.cells #[.int .i64 R, .int .i64 C, .int .i64 n, .slice (some ⟨oZg, 0, none⟩) rc rc] 24) := ⟨_, rfl⟩
    rw [← hY]
    have kY := k3.alloc (.cells #[.int .i64 R, .int .i64 C, .int .i64 n, .slice (some ⟨oZg, 0, none⟩) rc rc] 24)
    rw [← hY] at kY
    replace kx := kx.trans kY
    have mZ : M4 Y w3.heap.size (.int .i64 R) (.int .i64 C) (.int .i64 n) (.slice (some ⟨oZg, 0, none⟩) rc rc) := by rw [hY]; exact M4.new _ _ _ _ _ _
    have oZ : Own Y oZg rc L3 := by rw [hY]; exact oa.bl ((Bl.refl _).alloc _)
    generalize w3.heap.size = mZb at *
    clear hY k3 oa
    clear kY
    obtain ⟨q4, q5, q6, q7⟩ := hM.bl kx
    obtain ⟨f4, f5, f6, f7⟩ := mZ
    go_wp2_with (first | (go_at_call 9; refine (KS.out _ _ (hB.trans kx) oZ).mono ?_; rintro e w6 ⟨rfl, k6⟩))
    exact bodyPost_ret (v := .bool true) (by simp [results, Try.results4, go_sem, *]) rfl ⟨rfl, hB.trans (kx.trans k6)⟩
end Go.Proofs.Ytijmjnmimijfdab
