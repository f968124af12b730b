/- RngRow. -/
import Derived.Test.YtfanggjinedafaaG10
namespace Go.Proofs.Ytfanggjinedafaa
open Go.ChangeShapes Go.WideShapes Go.ChangeAt Go.RowKit
set_option linter.unusedVariables false
set_option linter.unusedSimpArgs false

theorem mask_6 (s : Int) : bits .and .i64 s 63 = s % 64 := by
  have e : (BitVec.ofInt 64 63 : BitVec 64).toNat = 2 ^ 6 - 1 := by decide
  have h := ofInt_toNat s
  rw [bits_and, BitVec.toNat_and, e, Nat.and_two_pow_sub_one_eq_mod, wrap_i64]
  omega

set_option maxHeartbeats 4000000 in
set_option maxRecDepth 100000 in
theorem rngRow_true (s t a n : Int) (w : World) : Calls Try.prog 7 #[.agg #[.int .i64 s, .int .i64 t, .int .i64 a], .int .i64 n] w fun e w' => e = .returned (.bool true) ∧ Kept w w' := by
  obtain ⟨m, hm⟩ : ∃ m : Nat, bits .and .i64 n 63 = (m : Int) := ⟨(n % 64).toNat, by rw [mask_6]; omega⟩
  have hm64 : m < 64 := by
    have := mask_6 n
    rw [hm] at this
    omega
  obtain ⟨U, hU⟩ : ∃ U, U = spz s t m := ⟨_, rfl⟩
  have HP : Hid (∀ u, Calls Try.prog 14 #[.agg #[.int .i64 s, .int .i64 t, .int .i64 a], .int .i64 m] u fun e w' => e = .returned (.agg #[.int .i64 s, .int .i64 U, .int .i64 0]) ∧ Kept u w') := fun u => by rw [hU]; exact split_any s t a m u
  clear hU
  go_enter Try.func7, Try.ntmps7
  go_upto_region 3 with fail
  have d0 := dr_new w s t a 23
  have kA := (Kept.refl (w.alloc (.cells #[.int .i64 s, .int .i64 t, .int .i64 a] 23))).alloc #[.int .i64 s, .int .i64 t, .int .i64 a] 23
  have k0 := ((Kept.refl w).alloc #[.int .i64 s, .int .i64 t, .int .i64 a] 23).trans kA
  have x0 := dw_new (w.alloc (.cells #[.int .i64 s, .int .i64 t, .int .i64 a] 23)) s t a 23
  rw [show (w.alloc (.cells #[.int .i64 s, .int .i64 t, .int .i64 a] 23)).heap.size = w.heap.size + 1 by simp] at x0
  have d1 := d0.kept kA
  obtain ⟨X, hX⟩ : ∃ X, X = (w.alloc (.cells #[.int .i64 s, .int .i64 t, .int .i64 a] 23)).alloc (.cells #[.int .i64 s, .int .i64 t, .int .i64 a] 23) := ⟨_, rfl⟩
  rw [← hX] at d1 k0 x0 ⊢
  clear hX kA d0
  have D0 := d1
  obtain ⟨c0, c1, c2⟩ := D0
  go_wp2_with fail
  refine (HP.out _).mono ?_
  rintro e w1 ⟨rfl, hk1⟩
  clear c0 c1 c2
  go_upto_region 4 with fail
  have kA := (Kept.refl w1).alloc #[.int .i64 s, .int .i64 U, .int .i64 0] 23
  have d2 := (d1.kept hk1).kept kA
  have x2 := (x0.kept hk1).kept kA
  have k2 := (k0.trans hk1).trans kA
  have o2 := dw_new w1 s U 0 23
  have hOl : w.heap.size + 1 < w1.heap.size := (x0.kept hk1).1.lt
  obtain ⟨O, hO⟩ : ∃ C, C = w1.heap.size := ⟨_, rfl⟩
  obtain ⟨Y, hY⟩ : ∃ Y, Y = w1.alloc (.cells #[.int .i64 s, .int .i64 U, .int .i64 0] 23) := ⟨_, rfl⟩
  rw [← hO] at o2 hOl ⊢
  rw [← hY] at d2 x2 k2 o2 ⊢
  clear hY hO hk1 kA d1 x0 k0 HP
  have H0 : Hid (Dr Y w.heap.size s t a ∧ Dw Y (w.heap.size + 1) s t a ∧ Dw Y O s U 0 ∧ Kept w Y) := ⟨d2, x2, o2, k2⟩
  clear d2 x2 o2 k2
  go_wp2_with fail
  go_loopw [7] (fun iv wr => ∃ (i : Nat) (at' x y z : Int), i ≤ m ∧ iv = .int .i64 i ∧ Dr wr w.heap.size s t a ∧ Dw wr (w.heap.size + 1) s t at' ∧ Dw wr O x y z ∧ at' % 18446744073709551616 = (a + i) % 18446744073709551616 ∧ Kept w wr) (fun iv _ => m - (intOf iv).toNat)
  case atStart => exact ⟨0, a, s, U, 0, Nat.zero_le _, rfl, H0.out.1, H0.out.2.1, H0.out.2.2.1, by simp, H0.out.2.2.2⟩
  case round =>
    clear H0
    obtain ⟨i, at', x, y, z, him, rfl, hd, hx, ho, hmod, hK⟩ := hrel
    by_cases hi : i < m
    · obtain ⟨V, hV⟩ : ∃ V, V = wz s t at' := ⟨_, rfl⟩
      obtain ⟨V2, hV2⟩ : ∃ V, V = wz x y z := ⟨_, rfl⟩
      obtain ⟨p, hp⟩ : ∃ p, p = wrap64 (at' + 1) := ⟨_, rfl⟩
      obtain ⟨z2, hz2⟩ : ∃ p, p = wrap64 (z + 1) := ⟨_, rfl⟩
      have hpm : p % 18446744073709551616 = (a + i + 1) % 18446744073709551616 := by rw [hp]; unfold wrap64; omega
      have HN : Hid (∀ u, Calls Try.prog 15 #[.agg #[.int .i64 s, .int .i64 t, .int .i64 at']] u fun e w' => e = .returned (.tuple #[.int .i64 V, .agg #[.int .i64 s, .int .i64 t, .int .i64 p]]) ∧ Kept u w') := fun u => by rw [hV, hp]; exact gnext_any s t at' u
      have HM : Hid (∀ u, Calls Try.prog 15 #[.agg #[.int .i64 x, .int .i64 y, .int .i64 z]] u fun e w' => e = .returned (.tuple #[.int .i64 V2, .agg #[.int .i64 x, .int .i64 y, .int .i64 z2]]) ∧ Kept u w') := fun u => by rw [hV2, hz2]; exact gnext_any x y z u
      have HW : Hid (∀ u, Calls Try.prog 16 #[.agg #[.int .i64 s, .int .i64 t, .int .i64 a], .int .i64 i] u fun e w' => e = .returned (.int .i64 V) ∧ Kept u w') := fun u => by rw [hV, wz_cong s t at' (a + i) hmod]; exact word_any s t a i u
      have zp : IntKind.i64.wrap (at' + 1) = p := by rw [hp, wrap_i64]; unfold wrap64; rfl
      have zp2 : wrap64 (at' + 1) = p := hp.symm
      clear hV hV2 hp hz2
      have D0 := hx
      obtain ⟨⟨c0, c1, c2⟩, f1⟩ := D0
      go_wp2_with fail
      refine (HN.out _).mono ?_
      rintro e w1 ⟨rfl, hk1⟩
      clear c0 c1 c2 f1
      go_upto_region 8 with fail
      have kA := (Kept.refl w1).alloc #[.int .i64 s, .int .i64 t, .int .i64 p] 23
      have d2 := (hd.kept hk1).kept kA
      have x2 := (hx.kept hk1).kept kA
      have o2 := (ho.kept hk1).kept kA
      have k2 := (hK.trans hk1).trans kA
      have r2 := dr_new w1 s t p 23
      have hCO : O < w1.heap.size := (ho.kept hk1).1.lt
      obtain ⟨C, hC⟩ : ∃ C, C = w1.heap.size := ⟨_, rfl⟩
      obtain ⟨Z, hZ⟩ : ∃ Y, Y = w1.alloc (.cells #[.int .i64 s, .int .i64 t, .int .i64 p] 23) := ⟨_, rfl⟩
      rw [← hC] at r2 hCO ⊢
      rw [← hZ] at d2 x2 k2 o2 r2 ⊢
      clear hZ hC hk1 kA hd hx ho hK
      have D0 := o2
      obtain ⟨⟨c0, c1, c2⟩, f1⟩ := D0
      go_wp2_with fail
      refine (HM.out _).mono ?_
      rintro e w2 ⟨rfl, hk2⟩
      clear c0 c1 c2 f1
      have D0 := o2.kept hk2
      obtain ⟨⟨c0, c1, c2⟩, f1⟩ := D0
      go_upto_region 9 with fail
      clear c0 c1 c2 f1
      have hne1 : O ≠ w.heap.size := by omega
      have hne2 : O ≠ w.heap.size + 1 := by omega
      have hne3 : O ≠ C := by omega
      have d3 := (keep3 (k2.trans hk2) (by omega : w.heap.size ≤ O) hne1 (d2.kept hk2) (.int .i64 x) (.int .i64 y) (.int .i64 z2)).2
      have k3 := (k2.trans hk2).put3 O (by omega) (.int .i64 x) (.int .i64 y) (.int .i64 z2)
      have x3 := (x2.kept hk2).far3 O hne2 (.int .i64 x) (.int .i64 y) (.int .i64 z2)
      have r3 := (keep3 (k2.trans hk2) (by omega : w.heap.size ≤ O) hne3 (r2.kept hk2) (.int .i64 x) (.int .i64 y) (.int .i64 z2)).2
      have o3 := (o2.kept hk2).put x y z2
      obtain ⟨Q, hQ⟩ : ∃ Q, Q = put3 w2 O (.int .i64 x) (.int .i64 y) (.int .i64 z2) := ⟨_, rfl⟩
      rw [← hQ] at d3 k3 x3 r3 o3
      unfold put3 at hQ
      rw [← hQ]
      clear hQ d2 k2 x2 r2 o2 hk2
      have D0 : Dr Q w.heap.size s t a := d3
      obtain ⟨c0, c1, c2⟩ := D0
      go_wp2_with fail
      refine (HW.out _).mono ?_
      rintro e w3 ⟨rfl, hk3⟩
      clear c0 c1 c2
      have D0 : Dr w3 w.heap.size s t a := Dr.kept d3 hk3
      have R0 : Dr w3 C s t p := Dr.kept r3 hk3
      have X0 := x3.kept hk3
      have X1 := X0
      have O0 := o3.kept hk3
      have K0 := k3.trans hk3
      have H1 : Hid (Dr w3 w.heap.size s t a ∧ Dw w3 (w.heap.size + 1) s t at' ∧ Dw w3 O x y z2 ∧ Kept w w3) := ⟨D0, X0, O0, K0⟩
      obtain ⟨c0, c1, c2⟩ := D0
      obtain ⟨r0, r1, r2⟩ := R0
      obtain ⟨⟨x0, x1, x2⟩, f1⟩ := X1
      clear d3 k3 x3 r3 o3 X0 O0 K0 hk3
      go_wp2_with fail
      go_roundw
      case rel =>
        obtain ⟨h1, h2, h3, h4⟩ := H1.out
        exact ⟨i + 1, p, x, y, z2, by omega, by go_num, (keep3 h4 (by omega : w.heap.size ≤ w.heap.size + 1) (by omega) h1 _ _ _).2, h2.put s t p, h3.far3 _ (by omega) _ _ _, by rw [hpm]; simp [Int.add_assoc], h4.put3 _ (by omega) _ _ _⟩
      case measure => simp [intOf]; omega
    · obtain rfl : i = m := by omega
      obtain ⟨V1, hV1⟩ : ∃ V, V = wz s t (a + i) := ⟨_, rfl⟩
      obtain ⟨V2, hV2⟩ : ∃ V, V = wz s t (a + 0) := ⟨_, rfl⟩
      have HW1 : Hid (∀ u, Calls Try.prog 16 #[.agg #[.int .i64 s, .int .i64 t, .int .i64 at'], .int .i64 0] u fun e w' => e = .returned (.int .i64 V1) ∧ Kept u w') := fun u => by
        rw [hV1, wz_cong s t (a + i) (at' + 0) (by omega)]; exact word_any s t at' 0 u
      have HW2 : Hid (∀ u, Calls Try.prog 16 #[.agg #[.int .i64 s, .int .i64 t, .int .i64 a], .int .i64 i] u fun e w' => e = .returned (.int .i64 V1) ∧ Kept u w') := fun u => by
        rw [hV1]; exact word_any s t a i u
      have HW3 : Hid (∀ u, Calls Try.prog 16 #[.agg #[.int .i64 s, .int .i64 t, .int .i64 at'], .int .i64 (-(i : Int))] u fun e w' => e = .returned (.int .i64 V2) ∧ Kept u w') := fun u => by
        rw [hV2, wz_cong s t (a + 0) (at' + -(i : Int)) (by omega)]; exact word_any s t at' (-(i : Int)) u
      have HW4 : Hid (∀ u, Calls Try.prog 16 #[.agg #[.int .i64 s, .int .i64 t, .int .i64 a], .int .i64 0] u fun e w' => e = .returned (.int .i64 V2) ∧ Kept u w') := fun u => by
        rw [hV2]; exact word_any s t a 0 u
      clear hV1 hV2
      have zi : IntKind.i64.wrap (-(i : Int)) = -(i : Int) := by rw [wrap_i64]; omega
      go_upto_region 12 with fail
      have HS : Hid (∀ u, Kept wr u → Kept wr u ∧ (u.cell? ⟨w.heap.size, 0, none⟩ = some (.int .i64 s) ∧ u.cell? ⟨w.heap.size, 1, none⟩ = some (.int .i64 t) ∧ u.cell? ⟨w.heap.size, 2, none⟩ = some (.int .i64 a)) ∧ (u.cell? ⟨(w.heap.size + 1), 0, none⟩ = some (.int .i64 s) ∧ u.cell? ⟨(w.heap.size + 1), 1, none⟩ = some (.int .i64 t) ∧ u.cell? ⟨(w.heap.size + 1), 2, none⟩ = some (.int .i64 at'))) := fun u hu => ⟨hu, hd.kept hu, hx.1.kept hu⟩
      have HK : Hid (Kept wr wr.drew) := (Kept.refl _).drew
      clear hd hx ho
      refine wp_region_held_drew (S := fun u => Kept wr u ∧ (u.cell? ⟨w.heap.size, 0, none⟩ = some (.int .i64 s) ∧ u.cell? ⟨w.heap.size, 1, none⟩ = some (.int .i64 t) ∧ u.cell? ⟨w.heap.size, 2, none⟩ = some (.int .i64 a)) ∧ (u.cell? ⟨(w.heap.size + 1), 0, none⟩ = some (.int .i64 s) ∧ u.cell? ⟨(w.heap.size + 1), 1, none⟩ = some (.int .i64 t) ∧ u.cell? ⟨(w.heap.size + 1), 2, none⟩ = some (.int .i64 at'))) (by kernel_rfl) (HS.out _ HK.out) (fun hHeld => ?_)
      refine wpAnyH_ready (rs := [0]) (by kernel_rfl) (by simp) ?_
      refine AllReadyH.cons rfl (fun K hK9 => ?_) AllReadyH.nil
      go_simp
      go_wp2_with fail
      refine (galive_true _).mono ?_
      rintro e u1 ⟨rfl, q1⟩
      have e1 := HS.out _ (HK.out.trans q1)
      refine hK9.out _ _ e1 (fun hHeld1 => ?_)
      clear hK9 K
      refine wpAnyH_take (i := 1) (v := ?_) rfl (by kernel_rfl) (by kernel_rfl) (by kernel_rfl) (fun _ _ _ h => h) (Or.inl ⟨by rfl, ?hya1⟩) (by assumption) ?_
      case hya1 => (intro w hSw; (try dsimp only at hSw); go_simp; try (with_reducible rfl))
      simp only [Act.put, List.getElem_toArray, List.getElem_cons_succ, List.getElem_cons_zero, List.setIfInBounds_toArray, List.set_cons_zero, List.set_cons_succ]
      refine wpAnyH_take (i := 2) (v := ?_) rfl (by kernel_rfl) (by kernel_rfl) (by kernel_rfl) (fun _ _ _ h => h) (Or.inl ⟨by rfl, ?hya2⟩) (by assumption) ?_
      case hya2 => (intro w hSw; (try dsimp only at hSw); go_simp; try (with_reducible rfl))
      simp only [Act.put, List.getElem_toArray, List.getElem_cons_succ, List.getElem_cons_zero, List.setIfInBounds_toArray, List.set_cons_zero, List.set_cons_succ]
      refine wpAnyH_take (i := 4) (v := ?_) rfl (by kernel_rfl) (by kernel_rfl) (by kernel_rfl) (fun _ _ _ h => h) (Or.inl ⟨by rfl, ?hya4⟩) (by assumption) ?_
      case hya4 => (intro w hSw; (try dsimp only at hSw); go_simp; try (with_reducible rfl))
      simp only [Act.put, List.getElem_toArray, List.getElem_cons_succ, List.getElem_cons_zero, List.setIfInBounds_toArray, List.set_cons_zero, List.set_cons_succ]
      refine wpAnyH_take (i := 5) (v := ?_) rfl (by kernel_rfl) (by kernel_rfl) (by kernel_rfl) (fun _ _ _ h => h) (Or.inl ⟨by rfl, ?hya5⟩) (by assumption) ?_
      case hya5 => (intro w hSw; (try dsimp only at hSw); go_simp; try (with_reducible rfl))
      simp only [Act.put, List.getElem_toArray, List.getElem_cons_succ, List.getElem_cons_zero, List.setIfInBounds_toArray, List.set_cons_zero, List.set_cons_succ]
      refine wpAnyH_ready (rs := [3]) (by kernel_rfl) (by simp) ?_
      refine AllReadyH.cons rfl (fun K hK9 => ?_) AllReadyH.nil
      go_simp
      go_wp2_with fail
      refine (HW1.out _).mono ?_
      rintro e u2 ⟨rfl, q2⟩
      have e2 := HS.out _ (e1.1.trans q2)
      refine hK9.out _ _ e2 (fun hHeld2 => ?_)
      clear hK9 K
      refine wpAnyH_ready (rs := [6]) (by kernel_rfl) (by simp) ?_
      refine AllReadyH.cons rfl (fun K hK9 => ?_) AllReadyH.nil
      go_simp
      go_wp2_with fail
      refine (HW2.out _).mono ?_
      rintro e u3 ⟨rfl, q3⟩
      have e3 := HS.out _ (e2.1.trans q3)
      refine hK9.out _ _ e3 (fun hHeld3 => ?_)
      clear hK9 K
      refine wpAnyH_take (i := 7) (v := ?_) rfl (by kernel_rfl) (by kernel_rfl) (by kernel_rfl) (fun _ _ _ h => h) (Or.inl ⟨by rfl, ?hyb7⟩) (by assumption) ?_
      case hyb7 => (intro w hSw; (try dsimp only at hSw); go_simp; try (with_reducible rfl))
      simp only [Act.put, List.getElem_toArray, List.getElem_cons_succ, List.getElem_cons_zero, List.setIfInBounds_toArray, List.set_cons_zero, List.set_cons_succ]
      refine wpAnyH_take (i := 8) (v := ?_) rfl (by kernel_rfl) (by kernel_rfl) (by kernel_rfl) (fun _ _ _ h => h) (Or.inl ⟨by rfl, ?hyb8⟩) (by assumption) ?_
      case hyb8 => (intro w hSw; (try dsimp only at hSw); go_simp; try (with_reducible rfl))
      simp only [Act.put, List.getElem_toArray, List.getElem_cons_succ, List.getElem_cons_zero, List.setIfInBounds_toArray, List.set_cons_zero, List.set_cons_succ]
      refine wpAnyH_take (i := 9) (v := ?_) rfl (by kernel_rfl) (by kernel_rfl) (by kernel_rfl) (fun _ _ _ h => h) (Or.inl ⟨by rfl, ?hyb9⟩) (by assumption) ?_
      case hyb9 => (intro w hSw; (try dsimp only at hSw); go_simp; try (with_reducible rfl))
      simp only [Act.put, List.getElem_toArray, List.getElem_cons_succ, List.getElem_cons_zero, List.setIfInBounds_toArray, List.set_cons_zero, List.set_cons_succ]
      refine wpAnyH_take (i := 10) (v := ?_) rfl (by kernel_rfl) (by kernel_rfl) (by kernel_rfl) (fun _ _ _ h => h) (Or.inl ⟨by rfl, ?hyb10⟩) (by assumption) ?_
      case hyb10 => (intro w hSw; (try dsimp only at hSw); go_simp; try (with_reducible rfl))
      simp only [Act.put, List.getElem_toArray, List.getElem_cons_succ, List.getElem_cons_zero, List.setIfInBounds_toArray, List.set_cons_zero, List.set_cons_succ]
      refine wpAnyH_take (i := 11) (v := ?_) rfl (by kernel_rfl) (by kernel_rfl) (by kernel_rfl) (fun _ _ _ h => h) (Or.inl ⟨by rfl, ?hyb11⟩) (by assumption) ?_
      case hyb11 => (intro w hSw; (try dsimp only at hSw); go_simp; try (with_reducible rfl))
      simp only [Act.put, List.getElem_toArray, List.getElem_cons_succ, List.getElem_cons_zero, List.setIfInBounds_toArray, List.set_cons_zero, List.set_cons_succ]
      refine wpAnyH_take (i := 12) (v := ?_) rfl (by kernel_rfl) (by kernel_rfl) (by kernel_rfl) (fun _ _ _ h => h) (Or.inl ⟨by rfl, ?hyb12⟩) (by assumption) ?_
      case hyb12 => (intro w hSw; (try dsimp only at hSw); go_simp; try (with_reducible rfl))
      simp only [Act.put, List.getElem_toArray, List.getElem_cons_succ, List.getElem_cons_zero, List.setIfInBounds_toArray, List.set_cons_zero, List.set_cons_succ]
      refine wpAnyH_take (i := 14) (v := ?_) rfl (by kernel_rfl) (by kernel_rfl) (by kernel_rfl) (fun _ _ _ h => h) (Or.inl ⟨by rfl, ?hyb14⟩) (by assumption) ?_
      case hyb14 => (intro w hSw; (try dsimp only at hSw); go_simp; try (with_reducible rfl))
      simp only [Act.put, List.getElem_toArray, List.getElem_cons_succ, List.getElem_cons_zero, List.setIfInBounds_toArray, List.set_cons_zero, List.set_cons_succ]
      refine wpAnyH_ready (rs := [13]) (by kernel_rfl) (by simp) ?_
      refine AllReadyH.cons rfl (fun K hK9 => ?_) AllReadyH.nil
      go_simp
      go_wp2_with fail
      refine (HW3.out _).mono ?_
      rintro e u4 ⟨rfl, q4⟩
      have e4 := HS.out _ (e3.1.trans q4)
      refine hK9.out _ _ e4 (fun hHeld4 => ?_)
      clear hK9 K
      refine wpAnyH_ready (rs := [15]) (by kernel_rfl) (by simp) ?_
      refine AllReadyH.cons rfl (fun K hK9 => ?_) AllReadyH.nil
      go_simp
      go_wp2_with fail
      refine (HW4.out _).mono ?_
      rintro e u5 ⟨rfl, q5⟩
      have e5 := HS.out _ (e4.1.trans q5)
      refine hK9.out _ _ e5 (fun hHeld5 => ?_)
      clear hK9 K
      refine wpAnyH_take (i := 16) (v := ?_) rfl (by kernel_rfl) (by kernel_rfl) (by kernel_rfl) (fun _ _ _ h => h) (Or.inl ⟨by rfl, ?hyc16⟩) (by assumption) ?_
      case hyc16 => (intro w hSw; (try dsimp only at hSw); go_simp; try (with_reducible rfl))
      simp only [Act.put, List.getElem_toArray, List.getElem_cons_succ, List.getElem_cons_zero, List.setIfInBounds_toArray, List.set_cons_zero, List.set_cons_succ]
      refine wpAnyH_take (i := 17) (v := ?_) rfl (by kernel_rfl) (by kernel_rfl) (by kernel_rfl) (fun _ _ _ h => h) (Or.inl ⟨by rfl, ?hyc17⟩) (by assumption) ?_
      case hyc17 => (intro w hSw; (try dsimp only at hSw); go_simp; try (with_reducible rfl))
      simp only [Act.put, List.getElem_toArray, List.getElem_cons_succ, List.getElem_cons_zero, List.setIfInBounds_toArray, List.set_cons_zero, List.set_cons_succ]
      refine wpAnyH_take (i := 18) (v := ?_) rfl (by kernel_rfl) (by kernel_rfl) (by kernel_rfl) (fun _ _ _ h => h) (Or.inl ⟨by rfl, ?hyc18⟩) (by assumption) ?_
      case hyc18 => (intro w hSw; (try dsimp only at hSw); go_simp; try (with_reducible rfl))
      simp only [Act.put, List.getElem_toArray, List.getElem_cons_succ, List.getElem_cons_zero, List.setIfInBounds_toArray, List.set_cons_zero, List.set_cons_succ]
      refine wpAnyH_done (by kernel_rfl) ?_ _
      go_wp2
      go_ret
      exact ⟨rfl, hK.trans e5.1⟩

end Go.Proofs.Ytfanggjinedafaa
