/- RngApart: two parts of a row are one just where their streams are. -/
import Derived.Test.YtfanggjinedafabG9
namespace Go.Proofs.Ytfanggjinedafab
open Go.ChangeShapes Go.WideShapes Go.ChangeAt Go.RowKit
set_option linter.unusedVariables false
set_option linter.unusedSimpArgs false

theorem xor_cancel (a x y : Nat) (h : a ^^^ x = a ^^^ y) : x = y := by
  have : a ^^^ (a ^^^ x) = a ^^^ (a ^^^ y) := by rw [h]
  simpa [← Nat.xor_assoc] using this
theorem plus_inj (c x y : Nat) (hx : x < 18446744073709551616) (hy : y < 18446744073709551616) (h : (x + c) % 18446744073709551616 = (y + c) % 18446744073709551616) : x = y := by omega
theorem un_inj (x y : Int) (hx : -9223372036854775808 ≤ x ∧ x ≤ 9223372036854775807) (hy : -9223372036854775808 ≤ y ∧ y ≤ 9223372036854775807) (h : un x = un y) : x = y := by
  have := un_cast x; have := un_cast y
  omega
theorem spl_inj (s t k m : Int) (h : spl s t k = spl s t m) : un k = un m := by
  unfold spl at h
  have h1 := mixn_inj _ _ (xor_lt64 (keyn_lt s t) (mixn_lt _)) (xor_lt64 (keyn_lt s t) (mixn_lt _)) h
  have h2 := mixn_inj _ _ (Nat.mod_lt _ (by decide)) (Nat.mod_lt _ (by decide)) (xor_cancel _ _ _ h1)
  exact plus_inj _ _ _ (un_lt k) (un_lt m) h2
theorem keyn_inj (s t t' : Int) (h : keyn s t = keyn s t') : un t = un t' := by
  unfold keyn at h
  have h1 := mixn_inj _ _ (xor_lt64 (un_lt s) (mixn_lt _)) (xor_lt64 (un_lt s) (mixn_lt _)) h
  have h2 := mixn_inj _ _ (Nat.mod_lt _ (by decide)) (Nat.mod_lt _ (by decide)) (xor_cancel _ _ _ h1)
  exact plus_inj _ _ _ (un_lt t) (un_lt t') h2
theorem wn_inj_t (s t t' a : Int) (h : wn s t a = wn s t' a) : un t = un t' := by
  unfold wn at h
  have h1 := mixn_inj _ _ (Nat.mod_lt _ (by decide)) (Nat.mod_lt _ (by decide)) h
  exact keyn_inj s t t' (plus_inj _ _ _ (keyn_lt s t) (keyn_lt s t') h1)
theorem wrap64_rng (x : Int) : -9223372036854775808 ≤ wrap64 x ∧ wrap64 x ≤ 9223372036854775807 := by unfold wrap64; omega
theorem wrap64_inj (x y : Nat) (hx : x < 18446744073709551616) (hy : y < 18446744073709551616) (h : wrap64 (x : Int) = wrap64 (y : Int)) : x = y := by unfold wrap64 at h; omega
theorem spz_w (s t k : Int) : spz s t k = wrap64 (spl s t k : Nat) := by rw [spz_nat, wrap_i64]; unfold wrap64; rfl
theorem spz_inj (s t k m : Int) (hk : -9223372036854775808 ≤ k ∧ k ≤ 9223372036854775807) (hm : -9223372036854775808 ≤ m ∧ m ≤ 9223372036854775807) (h : spz s t k = spz s t m) : k = m := by
  rw [spz_w, spz_w] at h
  exact un_inj k m hk hm (spl_inj s t k m (wrap64_inj _ _ (spl_lt _ _ _) (spl_lt _ _ _) h))
theorem wz_inj_t (s t t' a : Int) (ht : -9223372036854775808 ≤ t ∧ t ≤ 9223372036854775807) (ht' : -9223372036854775808 ≤ t' ∧ t' ≤ 9223372036854775807) (h : wz s t a = wz s t' a) : t = t' := by
  rw [wz_nat, wz_nat] at h
  exact un_inj t t' ht ht' (wn_inj_t s t t' a (wrap64_inj _ _ (wn_lt _ _ _) (wn_lt _ _ _) h))

set_option maxHeartbeats 4000000 in
set_option maxRecDepth 100000 in
theorem rngApart_eq (s t a k : Int) (w : World) : Calls Try.prog 4 #[.agg #[.int .i64 s, .int .i64 t, .int .i64 a], .int .i64 k, .int .i64 k] w fun e w' => e = .returned (.bool true) ∧ Kept w w' := by
  obtain ⟨U, hU⟩ : ∃ U, U = spz s t k := ⟨_, rfl⟩
  have HP : Hid (∀ u, Calls Try.prog 8 #[.agg #[.int .i64 s, .int .i64 t, .int .i64 a], .int .i64 k] u fun e w' => e = .returned (.agg #[.int .i64 s, .int .i64 U, .int .i64 0]) ∧ Kept u w') := fun u => by rw [hU]; exact split_any s t a k u
  clear hU
  go_enter Try.func4, Try.ntmps4
  go_upto_region 1 with fail
  have d0 := dr_new w s t a 23
  have k0 := (Kept.refl w).alloc #[.int .i64 s, .int .i64 t, .int .i64 a] 23
  obtain ⟨X, hX⟩ : ∃ X, X = w.alloc (.cells #[.int .i64 s, .int .i64 t, .int .i64 a] 23) := ⟨_, rfl⟩
  rw [← hX] at d0 k0 ⊢
  clear hX
  have D0 := d0
  obtain ⟨c0, c1, c2⟩ := D0
  go_wp2_with fail
  refine (HP.out _).mono ?_
  rintro e w1 ⟨rfl, hk1⟩
  clear c0 c1 c2
  go_upto_region 2 with fail
  have kA := (Kept.refl w1).alloc #[.int .i64 s, .int .i64 U, .int .i64 0] 23
  have d1 := (d0.kept hk1).kept kA
  have k1 := (k0.trans hk1).trans kA
  have r1 := dr_new w1 s U 0 23
  obtain ⟨C1, hC1⟩ : ∃ C, C = w1.heap.size := ⟨_, rfl⟩
  obtain ⟨Y, hY⟩ : ∃ Y, Y = w1.alloc (.cells #[.int .i64 s, .int .i64 U, .int .i64 0] 23) := ⟨_, rfl⟩
  rw [← hC1] at r1 ⊢
  rw [← hY] at d1 k1 r1 ⊢
  clear hY hC1 hk1 kA d0 k0
  have D1 := d1
  obtain ⟨c0, c1, c2⟩ := D1
  go_wp2_with fail
  refine (HP.out _).mono ?_
  rintro e w2 ⟨rfl, hk2⟩
  clear c0 c1 c2
  go_upto_region 3 with fail
  have kA := (Kept.refl w2).alloc #[.int .i64 s, .int .i64 U, .int .i64 0] 23
  have d2 := (d1.kept hk2).kept kA
  have k2 := (k1.trans hk2).trans kA
  have r2 := (r1.kept hk2).kept kA
  have r3 := dr_new w2 s U 0 23
  obtain ⟨C2, hC2⟩ : ∃ C, C = w2.heap.size := ⟨_, rfl⟩
  obtain ⟨Z, hZ⟩ : ∃ Z, Z = w2.alloc (.cells #[.int .i64 s, .int .i64 U, .int .i64 0] 23) := ⟨_, rfl⟩
  rw [← hC2] at r3 ⊢
  rw [← hZ] at d2 k2 r2 r3 ⊢
  clear hZ hC2 hk2 kA d1 k1 r1
  have H0 : Hid (Dr Z w.heap.size s t a ∧ Dr Z C1 s U 0 ∧ Dr Z C2 s U 0 ∧ Kept w Z) := ⟨d2, r2, r3, k2⟩
  clear d2 r2 r3 k2
  go_wp2_with fail
  go_loopw [9] (fun iv wr => ∃ (i : Nat), i ≤ 8 ∧ iv = .int .i64 i ∧ Dr wr w.heap.size s t a ∧ Dr wr C1 s U 0 ∧ Dr wr C2 s U 0 ∧ Kept w wr) (fun iv _ => 8 - (intOf iv).toNat)
  case atStart => exact ⟨0, Nat.zero_le _, rfl, H0.out⟩
  case round =>
    clear H0
    obtain ⟨i, hi8, rfl, hd, h1, h2, hK⟩ := hrel
    by_cases hi : i < 8
    · have g1 : (i : Int) < 8 := by omega
      have z1 : IntKind.i64.wrap ((i : Int) + 1) = (i : Int) + 1 := by rw [wrap_i64]; omega
      obtain ⟨A, hA⟩ : ∃ A, A = wz s U (0 + i) := ⟨_, rfl⟩
      have HW1 : Hid (∀ u, Calls Try.prog 9 #[.agg #[.int .i64 s, .int .i64 U, .int .i64 0], .int .i64 i] u fun e w' => e = .returned (.int .i64 A) ∧ Kept u w') := fun u => by rw [hA]; exact word_any s U 0 i u
      clear hA
      go_upto_region 6 with fail
      have HS : Hid (∀ u, Kept wr u → Kept wr u ∧ (u.cell? ⟨C1, 0, none⟩ = some (.int .i64 s) ∧ u.cell? ⟨C1, 1, none⟩ = some (.int .i64 U) ∧ u.cell? ⟨C1, 2, none⟩ = some (.int .i64 0)) ∧ (u.cell? ⟨C2, 0, none⟩ = some (.int .i64 s) ∧ u.cell? ⟨C2, 1, none⟩ = some (.int .i64 U) ∧ u.cell? ⟨C2, 2, none⟩ = some (.int .i64 0))) := fun u hu => ⟨hu, h1.kept hu, h2.kept hu⟩
      have HK : Hid (Kept wr wr.drew) := (Kept.refl _).drew
      have HR : Hid (∀ u, Kept wr u → Dr u w.heap.size s t a ∧ Dr u C1 s U 0 ∧ Dr u C2 s U 0 ∧ Kept w u) := fun u hu => ⟨hd.kept hu, h1.kept hu, h2.kept hu, hK.trans hu⟩
      clear hd h1 h2 hK
      refine wp_region_held_drew (S := fun u => Kept wr u ∧ (u.cell? ⟨C1, 0, none⟩ = some (.int .i64 s) ∧ u.cell? ⟨C1, 1, none⟩ = some (.int .i64 U) ∧ u.cell? ⟨C1, 2, none⟩ = some (.int .i64 0)) ∧ (u.cell? ⟨C2, 0, none⟩ = some (.int .i64 s) ∧ u.cell? ⟨C2, 1, none⟩ = some (.int .i64 U) ∧ u.cell? ⟨C2, 2, none⟩ = some (.int .i64 0))) (by kernel_rfl) (HS.out _ HK.out) (fun hHeld => ?_)
      refine wpAnyH_take (i := 0) (v := ?_) rfl (by kernel_rfl) (by kernel_rfl) (by kernel_rfl) (fun _ _ _ h => h) (Or.inl ⟨by rfl, ?hya0⟩) (by assumption) ?_
      case hya0 => (intro w hSw; (try dsimp only at hSw); go_simp; try (with_reducible rfl))
      simp only [Act.put, List.getElem_toArray, List.getElem_cons_succ, List.getElem_cons_zero, List.setIfInBounds_toArray, List.set_cons_zero, List.set_cons_succ]
      refine wpAnyH_take (i := 1) (v := ?_) rfl (by kernel_rfl) (by kernel_rfl) (by kernel_rfl) (fun _ _ _ h => h) (Or.inl ⟨by rfl, ?hya1⟩) (by assumption) ?_
      case hya1 => (intro w hSw; (try dsimp only at hSw); go_simp; try (with_reducible rfl))
      simp only [Act.put, List.getElem_toArray, List.getElem_cons_succ, List.getElem_cons_zero, List.setIfInBounds_toArray, List.set_cons_zero, List.set_cons_succ]
      refine wpAnyH_take (i := 3) (v := ?_) rfl (by kernel_rfl) (by kernel_rfl) (by kernel_rfl) (fun _ _ _ h => h) (Or.inl ⟨by rfl, ?hya3⟩) (by assumption) ?_
      case hya3 => (intro w hSw; (try dsimp only at hSw); go_simp; try (with_reducible rfl))
      simp only [Act.put, List.getElem_toArray, List.getElem_cons_succ, List.getElem_cons_zero, List.setIfInBounds_toArray, List.set_cons_zero, List.set_cons_succ]
      refine wpAnyH_take (i := 4) (v := ?_) rfl (by kernel_rfl) (by kernel_rfl) (by kernel_rfl) (fun _ _ _ h => h) (Or.inl ⟨by rfl, ?hya4⟩) (by assumption) ?_
      case hya4 => (intro w hSw; (try dsimp only at hSw); go_simp; try (with_reducible rfl))
      simp only [Act.put, List.getElem_toArray, List.getElem_cons_succ, List.getElem_cons_zero, List.setIfInBounds_toArray, List.set_cons_zero, List.set_cons_succ]
      refine wpAnyH_take (i := 7) (v := ?_) rfl (by kernel_rfl) (by kernel_rfl) (by kernel_rfl) (fun _ _ _ h => h) (Or.inl ⟨by rfl, ?hya7⟩) (by assumption) ?_
      case hya7 => (intro w hSw; (try dsimp only at hSw); go_simp; try (with_reducible rfl))
      simp only [Act.put, List.getElem_toArray, List.getElem_cons_succ, List.getElem_cons_zero, List.setIfInBounds_toArray, List.set_cons_zero, List.set_cons_succ]
      refine wpAnyH_take (i := 8) (v := ?_) rfl (by kernel_rfl) (by kernel_rfl) (by kernel_rfl) (fun _ _ _ h => h) (Or.inl ⟨by rfl, ?hya8⟩) (by assumption) ?_
      case hya8 => (intro w hSw; (try dsimp only at hSw); go_simp; try (with_reducible rfl))
      simp only [Act.put, List.getElem_toArray, List.getElem_cons_succ, List.getElem_cons_zero, List.setIfInBounds_toArray, List.set_cons_zero, List.set_cons_succ]
      refine wpAnyH_take (i := 9) (v := ?_) rfl (by kernel_rfl) (by kernel_rfl) (by kernel_rfl) (fun _ _ _ h => h) (Or.inl ⟨by rfl, ?hya9⟩) (by assumption) ?_
      case hya9 => (intro w hSw; (try dsimp only at hSw); go_simp; try (with_reducible rfl))
      simp only [Act.put, List.getElem_toArray, List.getElem_cons_succ, List.getElem_cons_zero, List.setIfInBounds_toArray, List.set_cons_zero, List.set_cons_succ]
      refine wpAnyH_take (i := 10) (v := ?_) rfl (by kernel_rfl) (by kernel_rfl) (by kernel_rfl) (fun _ _ _ h => h) (Or.inl ⟨by rfl, ?hya10⟩) (by assumption) ?_
      case hya10 => (intro w hSw; (try dsimp only at hSw); go_simp; try (with_reducible rfl))
      simp only [Act.put, List.getElem_toArray, List.getElem_cons_succ, List.getElem_cons_zero, List.setIfInBounds_toArray, List.set_cons_zero, List.set_cons_succ]
      refine wpAnyH_take (i := 11) (v := ?_) rfl (by kernel_rfl) (by kernel_rfl) (by kernel_rfl) (fun _ _ _ h => h) (Or.inl ⟨by rfl, ?hya11⟩) (by assumption) ?_
      case hya11 => (intro w hSw; (try dsimp only at hSw); go_simp; try (with_reducible rfl))
      simp only [Act.put, List.getElem_toArray, List.getElem_cons_succ, List.getElem_cons_zero, List.setIfInBounds_toArray, List.set_cons_zero, List.set_cons_succ]
      refine wpAnyH_ready (rs := [2]) (by kernel_rfl) (by simp) ?_
      refine AllReadyH.cons rfl (fun K hK9 => ?_) AllReadyH.nil
      go_simp
      go_wp2_with fail
      refine (HW1.out _).mono ?_
      rintro e u1 ⟨rfl, q1⟩
      have e1 := HS.out _ (HK.out.trans q1)
      refine hK9.out _ _ e1 (fun hHeld1 => ?_)
      clear hK9 K
      refine wpAnyH_ready (rs := [5]) (by kernel_rfl) (by simp) ?_
      refine AllReadyH.cons rfl (fun K hK9 => ?_) AllReadyH.nil
      go_simp
      go_wp2_with fail
      refine (HW1.out _).mono ?_
      rintro e u2 ⟨rfl, q2⟩
      have e2 := HS.out _ (e1.1.trans q2)
      refine hK9.out _ _ e2 (fun hHeld2 => ?_)
      clear hK9 K
      refine wpAnyH_take (i := 6) (v := ?_) rfl (by kernel_rfl) (by kernel_rfl) (by kernel_rfl) (fun _ _ _ h => h) (Or.inl ⟨by rfl, ?hyb6⟩) (by assumption) ?_
      case hyb6 => (intro w hSw; (try dsimp only at hSw); go_simp; try (with_reducible rfl))
      simp only [Act.put, List.getElem_toArray, List.getElem_cons_succ, List.getElem_cons_zero, List.setIfInBounds_toArray, List.set_cons_zero, List.set_cons_succ]
      refine wpAnyH_take (i := 12) (v := ?_) rfl (by kernel_rfl) (by kernel_rfl) (by kernel_rfl) (fun _ _ _ h => h) (Or.inl ⟨by rfl, ?hyb12⟩) (by assumption) ?_
      case hyb12 => (intro w hSw; (try dsimp only at hSw); go_simp; try (with_reducible rfl))
      simp only [Act.put, List.getElem_toArray, List.getElem_cons_succ, List.getElem_cons_zero, List.setIfInBounds_toArray, List.set_cons_zero, List.set_cons_succ]
      refine wpAnyH_done (by kernel_rfl) ?_ _
      clear hHeld hHeld1 hHeld2
      have H3 := HR.out _ e2.1
      have H4 : Hid (Dr u2 w.heap.size s t a ∧ Dr u2 C1 s U 0 ∧ Dr u2 C2 s U 0 ∧ Kept w u2) := H3
      clear H3 e1 e2
      go_wp2_with fail
      go_roundw
      case rel => exact ⟨i + 1, by omega, by go_num, H4.out⟩
      case measure => simp [intOf]; omega
    · obtain rfl : i = 8 := by omega
      go_wp2_with fail
      refine (galive_true _).mono ?_
      rintro e w3 ⟨rfl, hk3⟩
      obtain ⟨c0, c1, c2⟩ := hd.kept hk3
      obtain ⟨c3, c4, c5⟩ := h1.kept hk3
      obtain ⟨c6, c7, c8⟩ := h2.kept hk3
      go_wp2
      go_ret
      exact ⟨rfl, hK.trans hk3⟩

set_option maxHeartbeats 4000000 in
set_option maxRecDepth 100000 in
theorem rngApart_ne (s t a k m : Int) (hk : -9223372036854775808 ≤ k ∧ k ≤ 9223372036854775807) (hm : -9223372036854775808 ≤ m ∧ m ≤ 9223372036854775807) (hkm : ¬ k = m) (w : World) : Calls Try.prog 4 #[.agg #[.int .i64 s, .int .i64 t, .int .i64 a], .int .i64 k, .int .i64 m] w fun e w' => e = .returned (.bool true) ∧ Kept w w' := by
  obtain ⟨U, hU⟩ : ∃ U, U = spz s t k := ⟨_, rfl⟩
  obtain ⟨V, hV⟩ : ∃ U, U = spz s t m := ⟨_, rfl⟩
  have hUV : ¬ U = V := fun h => hkm (spz_inj s t k m hk hm (by rw [← hU, ← hV, h]))
  have hUr := wrap64_rng (spl s t k : Nat)
  have hVr := wrap64_rng (spl s t m : Nat)
  rw [← spz_w, ← hU] at hUr
  rw [← spz_w, ← hV] at hVr
  have HU : Hid ((-9223372036854775808 ≤ U ∧ U ≤ 9223372036854775807) ∧ (-9223372036854775808 ≤ V ∧ V ≤ 9223372036854775807)) := ⟨hUr, hVr⟩
  clear hUr hVr hk hm
  have q1 : (U == V) = false := by simpa using hUV
  have q2 : (k == m) = false := by simpa using hkm
  have HP : Hid (∀ u, Calls Try.prog 8 #[.agg #[.int .i64 s, .int .i64 t, .int .i64 a], .int .i64 k] u fun e w' => e = .returned (.agg #[.int .i64 s, .int .i64 U, .int .i64 0]) ∧ Kept u w') := fun u => by rw [hU]; exact split_any s t a k u
  have HQ : Hid (∀ u, Calls Try.prog 8 #[.agg #[.int .i64 s, .int .i64 t, .int .i64 a], .int .i64 m] u fun e w' => e = .returned (.agg #[.int .i64 s, .int .i64 V, .int .i64 0]) ∧ Kept u w') := fun u => by rw [hV]; exact split_any s t a m u
  clear hU
  clear hV
  go_enter Try.func4, Try.ntmps4
  go_upto_region 1 with fail
  have d0 := dr_new w s t a 23
  have k0 := (Kept.refl w).alloc #[.int .i64 s, .int .i64 t, .int .i64 a] 23
  obtain ⟨X, hX⟩ : ∃ X, X = w.alloc (.cells #[.int .i64 s, .int .i64 t, .int .i64 a] 23) := ⟨_, rfl⟩
  rw [← hX] at d0 k0 ⊢
  clear hX
  have D0 := d0
  obtain ⟨c0, c1, c2⟩ := D0
  go_wp2_with fail
  refine (HP.out _).mono ?_
  rintro e w1 ⟨rfl, hk1⟩
  clear c0 c1 c2
  go_upto_region 2 with fail
  have kA := (Kept.refl w1).alloc #[.int .i64 s, .int .i64 U, .int .i64 0] 23
  have d1 := (d0.kept hk1).kept kA
  have k1 := (k0.trans hk1).trans kA
  have r1 := dr_new w1 s U 0 23
  obtain ⟨C1, hC1⟩ : ∃ C, C = w1.heap.size := ⟨_, rfl⟩
  obtain ⟨Y, hY⟩ : ∃ Y, Y = w1.alloc (.cells #[.int .i64 s, .int .i64 U, .int .i64 0] 23) := ⟨_, rfl⟩
  rw [← hC1] at r1 ⊢
  rw [← hY] at d1 k1 r1 ⊢
  clear hY hC1 hk1 kA d0 k0
  have D1 := d1
  obtain ⟨c0, c1, c2⟩ := D1
  go_wp2_with fail
  refine (HQ.out _).mono ?_
  rintro e w2 ⟨rfl, hk2⟩
  clear c0 c1 c2
  go_upto_region 3 with fail
  have kA := (Kept.refl w2).alloc #[.int .i64 s, .int .i64 V, .int .i64 0] 23
  have d2 := (d1.kept hk2).kept kA
  have k2 := (k1.trans hk2).trans kA
  have r2 := (r1.kept hk2).kept kA
  have r3 := dr_new w2 s V 0 23
  obtain ⟨C2, hC2⟩ : ∃ C, C = w2.heap.size := ⟨_, rfl⟩
  obtain ⟨Z, hZ⟩ : ∃ Z, Z = w2.alloc (.cells #[.int .i64 s, .int .i64 V, .int .i64 0] 23) := ⟨_, rfl⟩
  rw [← hC2] at r3 ⊢
  rw [← hZ] at d2 k2 r2 r3 ⊢
  clear hZ hC2 hk2 kA d1 k1 r1
  have H0 : Hid (Dr Z w.heap.size s t a ∧ Dr Z C1 s U 0 ∧ Dr Z C2 s V 0 ∧ Kept w Z) := ⟨d2, r2, r3, k2⟩
  clear d2 r2 r3 k2
  go_wp2_with fail
  go_loopw [9] (fun iv wr => ∃ (i : Nat), i ≤ 8 ∧ iv = .int .i64 i ∧ Dr wr w.heap.size s t a ∧ Dr wr C1 s U 0 ∧ Dr wr C2 s V 0 ∧ Kept w wr) (fun iv _ => 8 - (intOf iv).toNat)
  case atStart => exact ⟨0, Nat.zero_le _, rfl, H0.out⟩
  case round =>
    clear H0
    obtain ⟨i, hi8, rfl, hd, h1, h2, hK⟩ := hrel
    by_cases hi : i < 8
    · have g1 : (i : Int) < 8 := by omega
      have z1 : IntKind.i64.wrap ((i : Int) + 1) = (i : Int) + 1 := by rw [wrap_i64]; omega
      obtain ⟨A, hA⟩ : ∃ A, A = wz s U (0 + i) := ⟨_, rfl⟩
      have HW1 : Hid (∀ u, Calls Try.prog 9 #[.agg #[.int .i64 s, .int .i64 U, .int .i64 0], .int .i64 i] u fun e w' => e = .returned (.int .i64 A) ∧ Kept u w') := fun u => by rw [hA]; exact word_any s U 0 i u
      obtain ⟨B, hB⟩ : ∃ A, A = wz s V (0 + i) := ⟨_, rfl⟩
      have HW2 : Hid (∀ u, Calls Try.prog 9 #[.agg #[.int .i64 s, .int .i64 V, .int .i64 0], .int .i64 i] u fun e w' => e = .returned (.int .i64 B) ∧ Kept u w') := fun u => by rw [hB]; exact word_any s V 0 i u
      have hAB : ¬ A = B := fun h => hUV (wz_inj_t s U V (0 + i) HU.out.1 HU.out.2 (by rw [← hA, ← hB, h]))
      have q3 : (A == B) = false := by simpa using hAB
      clear hA hB
      go_upto_region 6 with fail
      have HS : Hid (∀ u, Kept wr u → Kept wr u ∧ (u.cell? ⟨C1, 0, none⟩ = some (.int .i64 s) ∧ u.cell? ⟨C1, 1, none⟩ = some (.int .i64 U) ∧ u.cell? ⟨C1, 2, none⟩ = some (.int .i64 0)) ∧ (u.cell? ⟨C2, 0, none⟩ = some (.int .i64 s) ∧ u.cell? ⟨C2, 1, none⟩ = some (.int .i64 V) ∧ u.cell? ⟨C2, 2, none⟩ = some (.int .i64 0))) := fun u hu => ⟨hu, h1.kept hu, h2.kept hu⟩
      have HK : Hid (Kept wr wr.drew) := (Kept.refl _).drew
      have HR : Hid (∀ u, Kept wr u → Dr u w.heap.size s t a ∧ Dr u C1 s U 0 ∧ Dr u C2 s V 0 ∧ Kept w u) := fun u hu => ⟨hd.kept hu, h1.kept hu, h2.kept hu, hK.trans hu⟩
      clear hd h1 h2 hK
      refine wp_region_held_drew (S := fun u => Kept wr u ∧ (u.cell? ⟨C1, 0, none⟩ = some (.int .i64 s) ∧ u.cell? ⟨C1, 1, none⟩ = some (.int .i64 U) ∧ u.cell? ⟨C1, 2, none⟩ = some (.int .i64 0)) ∧ (u.cell? ⟨C2, 0, none⟩ = some (.int .i64 s) ∧ u.cell? ⟨C2, 1, none⟩ = some (.int .i64 V) ∧ u.cell? ⟨C2, 2, none⟩ = some (.int .i64 0))) (by kernel_rfl) (HS.out _ HK.out) (fun hHeld => ?_)
      refine wpAnyH_take (i := 0) (v := ?_) rfl (by kernel_rfl) (by kernel_rfl) (by kernel_rfl) (fun _ _ _ h => h) (Or.inl ⟨by rfl, ?hya0⟩) (by assumption) ?_
      case hya0 => (intro w hSw; (try dsimp only at hSw); go_simp; try (with_reducible rfl))
      simp only [Act.put, List.getElem_toArray, List.getElem_cons_succ, List.getElem_cons_zero, List.setIfInBounds_toArray, List.set_cons_zero, List.set_cons_succ]
      refine wpAnyH_take (i := 1) (v := ?_) rfl (by kernel_rfl) (by kernel_rfl) (by kernel_rfl) (fun _ _ _ h => h) (Or.inl ⟨by rfl, ?hya1⟩) (by assumption) ?_
      case hya1 => (intro w hSw; (try dsimp only at hSw); go_simp; try (with_reducible rfl))
      simp only [Act.put, List.getElem_toArray, List.getElem_cons_succ, List.getElem_cons_zero, List.setIfInBounds_toArray, List.set_cons_zero, List.set_cons_succ]
      refine wpAnyH_take (i := 3) (v := ?_) rfl (by kernel_rfl) (by kernel_rfl) (by kernel_rfl) (fun _ _ _ h => h) (Or.inl ⟨by rfl, ?hya3⟩) (by assumption) ?_
      case hya3 => (intro w hSw; (try dsimp only at hSw); go_simp; try (with_reducible rfl))
      simp only [Act.put, List.getElem_toArray, List.getElem_cons_succ, List.getElem_cons_zero, List.setIfInBounds_toArray, List.set_cons_zero, List.set_cons_succ]
      refine wpAnyH_take (i := 4) (v := ?_) rfl (by kernel_rfl) (by kernel_rfl) (by kernel_rfl) (fun _ _ _ h => h) (Or.inl ⟨by rfl, ?hya4⟩) (by assumption) ?_
      case hya4 => (intro w hSw; (try dsimp only at hSw); go_simp; try (with_reducible rfl))
      simp only [Act.put, List.getElem_toArray, List.getElem_cons_succ, List.getElem_cons_zero, List.setIfInBounds_toArray, List.set_cons_zero, List.set_cons_succ]
      refine wpAnyH_take (i := 7) (v := ?_) rfl (by kernel_rfl) (by kernel_rfl) (by kernel_rfl) (fun _ _ _ h => h) (Or.inl ⟨by rfl, ?hya7⟩) (by assumption) ?_
      case hya7 => (intro w hSw; (try dsimp only at hSw); go_simp; try (with_reducible rfl))
      simp only [Act.put, List.getElem_toArray, List.getElem_cons_succ, List.getElem_cons_zero, List.setIfInBounds_toArray, List.set_cons_zero, List.set_cons_succ]
      refine wpAnyH_take (i := 8) (v := ?_) rfl (by kernel_rfl) (by kernel_rfl) (by kernel_rfl) (fun _ _ _ h => h) (Or.inl ⟨by rfl, ?hya8⟩) (by assumption) ?_
      case hya8 => (intro w hSw; (try dsimp only at hSw); go_simp; try (with_reducible rfl))
      simp only [Act.put, List.getElem_toArray, List.getElem_cons_succ, List.getElem_cons_zero, List.setIfInBounds_toArray, List.set_cons_zero, List.set_cons_succ]
      refine wpAnyH_take (i := 9) (v := ?_) rfl (by kernel_rfl) (by kernel_rfl) (by kernel_rfl) (fun _ _ _ h => h) (Or.inl ⟨by rfl, ?hya9⟩) (by assumption) ?_
      case hya9 => (intro w hSw; (try dsimp only at hSw); go_simp; try (with_reducible rfl))
      simp only [Act.put, List.getElem_toArray, List.getElem_cons_succ, List.getElem_cons_zero, List.setIfInBounds_toArray, List.set_cons_zero, List.set_cons_succ]
      refine wpAnyH_take (i := 10) (v := ?_) rfl (by kernel_rfl) (by kernel_rfl) (by kernel_rfl) (fun _ _ _ h => h) (Or.inl ⟨by rfl, ?hya10⟩) (by assumption) ?_
      case hya10 => (intro w hSw; (try dsimp only at hSw); go_simp; try (with_reducible rfl))
      simp only [Act.put, List.getElem_toArray, List.getElem_cons_succ, List.getElem_cons_zero, List.setIfInBounds_toArray, List.set_cons_zero, List.set_cons_succ]
      refine wpAnyH_take (i := 11) (v := ?_) rfl (by kernel_rfl) (by kernel_rfl) (by kernel_rfl) (fun _ _ _ h => h) (Or.inl ⟨by rfl, ?hya11⟩) (by assumption) ?_
      case hya11 => (intro w hSw; (try dsimp only at hSw); go_simp; try (with_reducible rfl))
      simp only [Act.put, List.getElem_toArray, List.getElem_cons_succ, List.getElem_cons_zero, List.setIfInBounds_toArray, List.set_cons_zero, List.set_cons_succ]
      refine wpAnyH_ready (rs := [2]) (by kernel_rfl) (by simp) ?_
      refine AllReadyH.cons rfl (fun K hK9 => ?_) AllReadyH.nil
      go_simp
      go_wp2_with fail
      refine (HW1.out _).mono ?_
      rintro e u1 ⟨rfl, q1⟩
      have e1 := HS.out _ (HK.out.trans q1)
      refine hK9.out _ _ e1 (fun hHeld1 => ?_)
      clear hK9 K
      refine wpAnyH_ready (rs := [5]) (by kernel_rfl) (by simp) ?_
      refine AllReadyH.cons rfl (fun K hK9 => ?_) AllReadyH.nil
      go_simp
      go_wp2_with fail
      refine (HW2.out _).mono ?_
      rintro e u2 ⟨rfl, q2⟩
      have e2 := HS.out _ (e1.1.trans q2)
      refine hK9.out _ _ e2 (fun hHeld2 => ?_)
      clear hK9 K
      refine wpAnyH_take (i := 6) (v := ?_) rfl (by kernel_rfl) (by kernel_rfl) (by kernel_rfl) (fun _ _ _ h => h) (Or.inl ⟨by rfl, ?hyb6⟩) (by assumption) ?_
      case hyb6 => (intro w hSw; (try dsimp only at hSw); go_simp; try (with_reducible rfl))
      simp only [Act.put, List.getElem_toArray, List.getElem_cons_succ, List.getElem_cons_zero, List.setIfInBounds_toArray, List.set_cons_zero, List.set_cons_succ]
      refine wpAnyH_take (i := 12) (v := ?_) rfl (by kernel_rfl) (by kernel_rfl) (by kernel_rfl) (fun _ _ _ h => h) (Or.inl ⟨by rfl, ?hyb12⟩) (by assumption) ?_
      case hyb12 => (intro w hSw; (try dsimp only at hSw); go_simp; try (with_reducible rfl))
      simp only [Act.put, List.getElem_toArray, List.getElem_cons_succ, List.getElem_cons_zero, List.setIfInBounds_toArray, List.set_cons_zero, List.set_cons_succ]
      refine wpAnyH_done (by kernel_rfl) ?_ _
      clear hHeld hHeld1 hHeld2
      have H3 := HR.out _ e2.1
      have H4 : Hid (Dr u2 w.heap.size s t a ∧ Dr u2 C1 s U 0 ∧ Dr u2 C2 s V 0 ∧ Kept w u2) := H3
      clear H3 e1 e2
      go_wp2_with fail
      go_roundw
      case rel => exact ⟨i + 1, by omega, by go_num, H4.out⟩
      case measure => simp [intOf]; omega
    · obtain rfl : i = 8 := by omega
      go_wp2_with fail
      refine (galive_true _).mono ?_
      rintro e w3 ⟨rfl, hk3⟩
      obtain ⟨c0, c1, c2⟩ := hd.kept hk3
      obtain ⟨c3, c4, c5⟩ := h1.kept hk3
      obtain ⟨c6, c7, c8⟩ := h2.kept hk3
      go_wp2
      go_ret
      exact ⟨rfl, hK.trans hk3⟩

theorem rngApart_true (s t a k m : Int) (hk : -9223372036854775808 ≤ k ∧ k ≤ 9223372036854775807) (hm : -9223372036854775808 ≤ m ∧ m ≤ 9223372036854775807) (w : World) : Calls Try.prog 4 #[.agg #[.int .i64 s, .int .i64 t, .int .i64 a], .int .i64 k, .int .i64 m] w fun e w' => e = .returned (.bool true) ∧ Kept w w' := by
  by_cases h : k = m
  · subst h; exact rngApart_eq s t a k w
  · exact rngApart_ne s t a k m hk hm h w

end Go.Proofs.Ytfanggjinedafab
