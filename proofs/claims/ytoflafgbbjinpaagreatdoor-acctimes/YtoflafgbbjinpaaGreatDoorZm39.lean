/- acc's flag; add where a float is infinite or no number. -/
import Derived.Test.YtoflafgbbjinpaaGreatDoorZm38
namespace Go.Proofs.YtoflafgbbjinpaaGreatDoor
open Go.ChangeShapes Go.WideShapes Go.ChangeAt Go.RowKit
set_option linter.unusedVariables false
set_option linter.unusedSimpArgs false
set_option maxHeartbeats 16000000
set_option maxRecDepth 100000
theorem flag_any (b n : Int) (r1 : -9223372036854775808 ≤ b) (r2 : b ≤ 9223372036854775807) (w : World) : Calls Tryz.prog 80 #[.int .i64 b, .int .i64 n] w fun e w' => e = .returned (accV false (.slice none 0 0) 0 (lss 0 b n) (lss b 0 n) (decide (cls b n = 4))) ∧ Kept w w' := by
 have K1 : Hid (∀ u, Calls Tryz.prog 125 #[.int .i64 0, .int .i64 b, .int .i64 n] u fun e w' => e = .returned (.bool (lss 0 b n)) ∧ Kept u w') := fun u => less_any 0 b n (by decide) (by decide) r1 r2 u
 have K2 : Hid (∀ u, Calls Tryz.prog 125 #[.int .i64 b, .int .i64 0, .int .i64 n] u fun e w' => e = .returned (.bool (lss b 0 n)) ∧ Kept u w') := fun u => less_any b 0 n r1 r2 (by decide) (by decide) u
 have K3 : Hid (∀ u, Calls Tryz.prog 26 #[.int .i64 b, .int .i64 n] u fun e w' => e = .returned (.int .i64 (cls b n)) ∧ Kept u w') := fun u => class_any b n u
 generalize lss 0 b n = f1 at *
 generalize lss b 0 n = f2 at *
 generalize cls b n = v at *
 obtain ⟨f3, h3⟩ : ∃ f, f = decide (v = 4) := ⟨_, rfl⟩
 have he : (v == 4) = f3 := by rw [h3]; by_cases h : v = 4 <;> simp [h]
 rw [← h3]
 clear h3
 obtain ⟨X, hX⟩ : ∃ X, X = w.alloc (.cells #[.bool false, .slice none 0 0, .int .i64 0, .bool false, .bool false, .bool false] 26) := ⟨_, rfl⟩
 have k0 : Kept w X := by rw [hX]; exact (Kept.refl w).alloc _ _
 have HR : Hid (∀ u, Kept X u → _) := acc_res hX
 go_enter Tryz.func80, Tryz.ntmps80
 go_upto_region 1 with fail
 rw [← hX]
 clear hX
 go_wp2_with fail
 refine (K1.out _).mono ?_
 rintro e w1 ⟨rfl, k1⟩
 go_wp2_with fail
 refine (K2.out _).mono ?_
 rintro e w2 ⟨rfl, k2⟩
 go_wp2_with fail
 refine (K3.out _).mono ?_
 rintro e w3 ⟨rfl, k3⟩
 have kk := (k1.trans k2).trans k3
 obtain ⟨r0, r1', r2', r3, r4, r5, r6⟩ := HR.out _ kk
 go_wp2_with fail
 exact bodyPost_ret (v := accV false (.slice none 0 0) 0 f1 f2 f3) (by simp [results, Tryz.results80, go_sem, r0, r1', r2', r3, r4, r5, he]) rfl ⟨rfl, kept_six (k0.trans kk) _ _ _ _ _ _⟩
theorem MkAt.setAc {w : World} {b : Nat} {ac : List Value} {n : Int} {C : List Int} {lo hi : Int} (h : MkAt w b ac n C lo hi) (k : Nat) (hk : k < 6) (v : Value) : MkAt (w.setCell ⟨b, k, none⟩ v) b (ac.set k v) n C lo hi := by
 refine ⟨?_, by simp [h.a6], h.c141⟩
 rw [set_cell_block w b _ _ _ _ h.blk]
 congr 2
 rw [List.setIfInBounds_toArray]
 congr 1
 rw [mkC, mkC, List.set_append_left _ _ (by rw [h.a6]; exact hk)]
theorem add_spec (w : World) (b : Nat) (n x y : Int) (p m z : Bool) (C : List Int) (lo hi : Int) (hM : MkAt w b (flg p m z) n C lo hi) (v1 v2 : Int) (hs : 3 ≤ v1 ∨ 3 ≤ v2) (mv : Int) (p2 m2 z2 : Bool)
    (KC1 : Hid (∀ u, Calls Tryz.prog 26 #[.int .i64 x, .int .i64 n] u fun e w' => e = .returned (.int .i64 v1) ∧ Kept u w'))
    (KC2 : Hid (∀ u, Calls Tryz.prog 26 #[.int .i64 y, .int .i64 n] u fun e w' => e = .returned (.int .i64 v2) ∧ Kept u w'))
    (KM : Hid (∀ u, Calls Tryz.prog 81 #[.int .i64 x, .int .i64 y, .int .i64 n] u fun e w' => e = .returned (.int .i64 mv) ∧ Kept u w'))
    (KG : Hid (∀ u, Calls Tryz.prog 80 #[.int .i64 mv, .int .i64 n] u fun e w' => e = .returned (accV false (.slice none 0 0) 0 p2 m2 z2) ∧ Kept u w')) :
    Calls Tryz.prog 69 #[.pointer (some ⟨b, 0, none⟩), .int .i64 x, .int .i64 y] w fun e w' => e = .returned (.tuple #[]) ∧ MkAt w' b (flg (p || p2) (m || m2) (z || z2)) n C lo hi ∧ Grw b w w' := by
  obtain ⟨s1, hs1⟩ : ∃ s, s = decide (3 ≤ v1) := ⟨_, rfl⟩
  obtain ⟨s2, hs2⟩ : ∃ s, s = decide (3 ≤ v2) := ⟨_, rfl⟩
  have Hs : Hid (s1 = true ∨ s2 = true) := by rw [hs1, hs2]; rcases hs with h | h <;> simp [Hid, h]
  obtain ⟨P, hP⟩ : ∃ P, P = (p || p2) := ⟨_, rfl⟩
  obtain ⟨M, hM'⟩ : ∃ P, P = (m || m2) := ⟨_, rfl⟩
  obtain ⟨Z, hZ⟩ : ∃ P, P = (z || z2) := ⟨_, rfl⟩
  have HP : Hid (P = (p || p2) ∧ M = (m || m2) ∧ Z = (z || z2)) := ⟨hP, hM', hZ⟩
  rw [← hP, ← hM', ← hZ]
  clear hP hM' hZ
  obtain ⟨X, hX⟩ : ∃ X, X = w.alloc (.cells #[.pointer (some ⟨b, 0, none⟩)] 145) := ⟨_, rfl⟩
  have k0 : Kept w X := by rw [hX]; exact (Kept.refl w).alloc _ _
  have hbw := hM.lt
  have hXs : Hid (X.heap.size = w.heap.size + 1) := by rw [hX]; simp [Hid]
  have HQ : Hid (∀ u, Kept X u → Kept X u ∧ u.cell? ⟨w.heap.size, 0, none⟩ = some (.pointer (some ⟨b, 0, none⟩)) ∧ u.cell? ⟨b, 6, none⟩ = some (.int .i64 n)) := fun u k => by
    have hb : w.heap.size < X.heap.size := by rw [hX]; simp
    refine ⟨k, (k.below.cell (p := ⟨w.heap.size, 0, none⟩) hb).trans ?_, (hM.kept (k0.trans k)).width⟩
    rw [hX]
    simp [go_sem]
  have HS1 : Hid (∀ u, Kept X u → Calls Tryz.prog 114 #[.int .i64 x, .pointer (some ⟨w.heap.size, 0, none⟩)] u fun e w' => e = .returned (.bool s1) ∧ Kept u w') := fun u k => by
    have := special_any u b w.heap.size (flg p m z) n x C lo hi (hM.kept (k0.trans k)) (HQ.out u k).2.1 v1 KC1
    rw [← hs1] at this
    exact this
  have HS2 : Hid (∀ u, Kept X u → Calls Tryz.prog 114 #[.int .i64 y, .pointer (some ⟨w.heap.size, 0, none⟩)] u fun e w' => e = .returned (.bool s2) ∧ Kept u w') := fun u k => by
    have := special_any u b w.heap.size (flg p m z) n y C lo hi (hM.kept (k0.trans k)) (HQ.out u k).2.1 v2 KC2
    rw [← hs2] at this
    exact this
  have HM : Hid (∀ u, Kept X u → MkAt u b (flg p m z) n C lo hi) := fun u k => hM.kept (k0.trans k)
  clear hM KC1 KC2 hs hs1 hs2
  go_enter Tryz.func69, Tryz.ntmps69
  go_upto_region 1 with fail
  rw [← hX]
  clear hX
  go_upto_region 2 with fail
  go_cut [18] from 9 (fun t18 wx => t18 = .bool false ∧ Kept X wx)
  case first =>
    cases s1
    · obtain rfl : s2 = true := by rcases Hs.out with h | h
                                   · cases h
                                   · exact h
      go_wp2_with fail
      refine (HS1.out _ (Kept.refl _)).mono ?_
      rintro e w1 ⟨rfl, k1⟩
      go_wp2_with fail
      refine (HS2.out _ k1).mono ?_
      rintro e w2 ⟨rfl, k2⟩
      go_wp2_with fail
      go_meet
      case rel => exact ⟨rfl, k1.trans k2⟩
    · go_wp2_with fail
      refine (HS1.out _ (Kept.refl _)).mono ?_
      rintro e w1 ⟨rfl, k1⟩
      go_wp2_with fail
      go_meet
      case rel => exact ⟨rfl, k1⟩
  case rest =>
  obtain ⟨hbv, k1⟩ := hcut
  obtain ⟨w1, hw1⟩ : ∃ u, u = wc := ⟨_, rfl⟩
  rw [← hw1] at k1 ⊢
  clear hw1 HS1 HS2 Hs
  subst hbv
  go_upto_region 4 with fail
  go_cut [7] from 23 (fun t7 wx => ∃ B, t7 = .pointer (some ⟨B, 0, none⟩) ∧ wx.cell? ⟨B, 3, none⟩ = some (.bool p2) ∧ wx.cell? ⟨B, 4, none⟩ = some (.bool m2) ∧ wx.cell? ⟨B, 5, none⟩ = some (.bool z2) ∧ X.heap.size ≤ B ∧ Kept X wx)
  case first =>
    refine wp_region_held_drew (S := fun u => Kept X u ∧ u.cell? ⟨w.heap.size, 0, none⟩ = some (.pointer (some ⟨b, 0, none⟩)) ∧ u.cell? ⟨b, 6, none⟩ = some (.int .i64 n)) (by kernel_rfl) (HQ.out _ k1.drew) (fun hHeld => ?_)
    refine tk (i := 0) (v := ?_) rfl ?_
    simp only [Act.put, zA, zB, zC, zD, zE, zF]
    refine tk (i := 1) (v := ?_) rfl ?_
    simp only [Act.put, zA, zB, zC, zD, zE, zF]
    refine tk (i := 2) (v := ?_) rfl ?_
    simp only [Act.put, zA, zB, zC, zD, zE, zF]
    refine tk (i := 3) (v := ?_) rfl ?_
    simp only [Act.put, zA, zB, zC, zD, zE, zF]
    refine tk (i := 4) (v := ?_) rfl ?_
    simp only [Act.put, zA, zB, zC, zD, zE, zF]
    refine tk (i := 5) (v := ?_) rfl ?_
    simp only [Act.put, zA, zB, zC, zD, zE, zF]
    refine tk (i := 7) (v := ?_) rfl ?_
    simp only [Act.put, zA, zB, zC, zD, zE, zF]
    refine tk (i := 8) (v := ?_) rfl ?_
    simp only [Act.put, zA, zB, zC, zD, zE, zF]
    refine tk (i := 9) (v := ?_) rfl ?_
    simp only [Act.put, zA, zB, zC, zD, zE, zF]
    refine tk (i := 10) (v := ?_) rfl ?_
    simp only [Act.put, zA, zB, zC, zD, zE, zF]
    refine wpAnyH_ready (rs := [6, 12]) (by kernel_rfl) (by simp) ?_
    refine AllReadyH.cons rfl (fun K hK9 => ?_) (AllReadyH.cons rfl (fun K hK9 => ?_) AllReadyH.nil)
    · go_simp
      go_wp2_with fail
      refine (KM.out _).mono ?_
      rintro e w2 ⟨rfl, k2⟩
      refine hK9.out _ _ (HQ.out _ (hHeld.1.trans k2)) (fun hM2 => ?_)
      clear hK9 K
      refine wpAnyH_ready (rs := [11, 12]) (by kernel_rfl) (by simp) ?_
      refine AllReadyH.cons rfl (fun K hK9 => ?_) (AllReadyH.cons rfl (fun K hK9 => ?_) AllReadyH.nil)
      · go_simp
        go_wp2_with fail
        refine (KG.out _).mono ?_
        rintro e w3 ⟨rfl, k3⟩
        refine hK9.out _ _ (HQ.out _ (hM2.1.trans k3)) (fun hM3 => ?_)
        clear hK9 K
        refine wpAnyH_ready (rs := [12]) (by kernel_rfl) (by simp) ?_
        refine AllReadyH.cons rfl (fun K hK9 => ?_) AllReadyH.nil
        go_simp
        refine hK9.out _ _ (HQ.out _ (hM3.1.alloc _ _)) (fun hA => ?_)
        clear hK9 K
        have hB : X.heap.size ≤ w3.heap.size := hM3.1.below.size
        -- NOW
        refine wpAnyH_ready (rs := [13]) (by kernel_rfl) (by simp) ?_
        refine AllReadyH.cons rfl (fun K hK9 => ?_) AllReadyH.nil
        go_simp
        refine hK9.out _ _ (HQ.out _ (hM3.1.alloc _ _)) (fun h9 => ?_)
        clear hK9 K
        refine wpAnyH_done (by kernel_rfl) ?_ _
        (try simp only [List.getElem_toArray, List.getElem_cons_succ, List.getElem_cons_zero, List.setIfInBounds_toArray, List.set_cons_zero, List.set_cons_succ])
        go_wp2_with fail
        go_meet
        case rel => exact ⟨w3.heap.size, rfl, by simp [go_sem], by simp [go_sem], by simp [go_sem], hB, h9.1⟩
      · go_simp
        refine hK9.out _ _ (HQ.out _ (hM2.1.alloc _ _)) (fun hA => ?_)
        clear hK9 K
        refine wpAnyH_ready (rs := [11]) (by kernel_rfl) (by simp) ?_
        refine AllReadyH.cons rfl (fun K hK9 => ?_) AllReadyH.nil
        go_simp
        go_wp2_with fail
        refine (KG.out _).mono ?_
        rintro e w3 ⟨rfl, k3⟩
        refine hK9.out _ _ (HQ.out _ (hA.1.trans k3)) (fun hM3 => ?_)
        clear hK9 K
        have hB : X.heap.size ≤ w2.heap.size := hM2.1.below.size
        obtain ⟨b0, b1, b2, b3, b4, b5, b6⟩ := acc_res1 (w := w2) 26 w2.heap.size rfl (Kept.refl _) _ (k3)
        refine wpAnyH_ready (rs := [13]) (by kernel_rfl) (by simp) ?_
        refine AllReadyH.cons rfl (fun K hK9 => ?_) AllReadyH.nil
        go_simp
        refine hK9.out _ _ (HQ.out _ (kept_six1 w2.heap.size hB hM3.1 _ _ _ _ _ _)) (fun h9 => ?_)
        clear hK9 K
        refine wpAnyH_done (by kernel_rfl) ?_ _
        (try simp only [List.getElem_toArray, List.getElem_cons_succ, List.getElem_cons_zero, List.setIfInBounds_toArray, List.set_cons_zero, List.set_cons_succ])
        go_wp2_with fail
        go_meet
        case rel => exact ⟨w2.heap.size, rfl, by simp [go_sem, b0, b1, b2, b3, b4, b5], by simp [go_sem, b0, b1, b2, b3, b4, b5], by simp [go_sem, b0, b1, b2, b3, b4, b5], hB, h9.1⟩
    · go_simp
      refine hK9.out _ _ (HQ.out _ (hHeld.1.alloc _ _)) (fun hA => ?_)
      clear hK9 K
      refine wpAnyH_ready (rs := [6]) (by kernel_rfl) (by simp) ?_
      refine AllReadyH.cons rfl (fun K hK9 => ?_) AllReadyH.nil
      go_simp
      go_wp2_with fail
      refine (KM.out _).mono ?_
      rintro e w2 ⟨rfl, k2⟩
      refine hK9.out _ _ (HQ.out _ (hA.1.trans k2)) (fun hM2 => ?_)
      clear hK9 K
      refine wpAnyH_ready (rs := [11]) (by kernel_rfl) (by simp) ?_
      refine AllReadyH.cons rfl (fun K hK9 => ?_) AllReadyH.nil
      go_simp
      go_wp2_with fail
      refine (KG.out _).mono ?_
      rintro e w3 ⟨rfl, k3⟩
      refine hK9.out _ _ (HQ.out _ (hM2.1.trans k3)) (fun hM3 => ?_)
      clear hK9 K
      have hB : X.heap.size ≤ w1.heap.size := hHeld.1.below.size
      obtain ⟨b0, b1, b2, b3, b4, b5, b6⟩ := acc_res1 (w := w1.drew) 26 w1.heap.size rfl (Kept.refl _) _ (k2.trans k3)
      refine wpAnyH_ready (rs := [13]) (by kernel_rfl) (by simp) ?_
      refine AllReadyH.cons rfl (fun K hK9 => ?_) AllReadyH.nil
      go_simp
      refine hK9.out _ _ (HQ.out _ (kept_six1 w1.heap.size hB hM3.1 _ _ _ _ _ _)) (fun h9 => ?_)
      clear hK9 K
      refine wpAnyH_done (by kernel_rfl) ?_ _
      (try simp only [List.getElem_toArray, List.getElem_cons_succ, List.getElem_cons_zero, List.setIfInBounds_toArray, List.set_cons_zero, List.set_cons_succ])
      go_wp2_with fail
      go_meet
      case rel => exact ⟨w1.heap.size, rfl, by simp [go_sem, b0, b1, b2, b3, b4, b5], by simp [go_sem, b0, b1, b2, b3, b4, b5], by simp [go_sem, b0, b1, b2, b3, b4, b5], hB, h9.1⟩
  case rest =>
    obtain ⟨B, rfl, f3, f4, f5, hB, kc⟩ := hcut
    obtain ⟨-, q1, -⟩ := HQ.out _ kc
    have hMc := HM.out _ kc
    have g3 : wc.cell? ⟨b, 3, none⟩ = some (.bool p) := by rw [hMc.cell]; simp [mkC]
    have g4 : wc.cell? ⟨b, 4, none⟩ = some (.bool m) := by rw [hMc.cell]; simp [mkC]
    have g5 : wc.cell? ⟨b, 5, none⟩ = some (.bool z) := by rw [hMc.cell]; simp [mkC]
    have g6 := hMc.fz
    have nb : b ≠ w.heap.size := by omega
    have nB : B ≠ b := by have := hXs.out; omega
    have nC : B ≠ w.heap.size := by have := hXs.out; omega
    have HF : Hid (MkAt wc b (flg p m z) n C lo hi ∧ Kept X wc) := ⟨hMc, kc⟩
    clear HQ HM KM KG hMc kc hB k1 hXs
    cases p <;> cases m <;> cases z
    · go_upto_region 5 with fail
      refine wp_region_lateT [33, 37, 41] (fun u => (u.cell? ⟨b, 3, none⟩ = some (.bool false) ∧ u.cell? ⟨b, 4, none⟩ = some (.bool false) ∧ u.cell? ⟨b, 5, none⟩ = some (.bool false)) ∧ u.cell? ⟨w.heap.size, 0, none⟩ = some (.pointer (some ⟨b, 0, none⟩))) (fun u => u.cell? ⟨w.heap.size, 0, none⟩ = some (.pointer (some ⟨b, 0, none⟩)) ∧ u.cell? ⟨B, 3, none⟩ = some (.bool p2) ∧ u.cell? ⟨B, 4, none⟩ = some (.bool m2) ∧ u.cell? ⟨B, 5, none⟩ = some (.bool z2)) (by kernel_rfl) (by refine ⟨⟨?_, ?_, ?_⟩, ?_⟩ <;> simp [go_sem, q1, g3, g4, g5]) (by refine ⟨?_, ?_, ?_, ?_⟩ <;> simp [go_sem, q1, f3, f4, f5]) (fun hHeld hStay => ?_)
      refine wpAnyT_take2 (i := 0) (v := ?_) rfl (by kernel_rfl) (by kernel_rfl) (by kernel_rfl) (by kernel_rfl) (fun _ _ _ h => h) (Or.inl ⟨by rfl, ?hyr00⟩) (fun _ => hHeld) hStay ?_
      case hyr00 => (intro w hSw; (try dsimp only at hSw); go_simp; try (with_reducible rfl))
      (try simp only [Act.put, zA, zB, zC, zD, zE, zF])
      refine wpAnyT_take2 (i := 1) (v := ?_) rfl (by kernel_rfl) (by kernel_rfl) (by kernel_rfl) (by kernel_rfl) (fun _ _ _ h => h) (Or.inl ⟨by rfl, ?hyr01⟩) (fun _ => hHeld) hStay ?_
      case hyr01 => (intro w hSw; (try dsimp only at hSw); go_simp; try (with_reducible rfl))
      (try simp only [Act.put, zA, zB, zC, zD, zE, zF])
      refine wpAnyT_take2 (i := 2) (v := ?_) rfl (by kernel_rfl) (by kernel_rfl) (by kernel_rfl) (by kernel_rfl) (fun _ _ _ h => h) (Or.inl ⟨by rfl, ?hyr02⟩) (fun _ => hHeld) hStay ?_
      case hyr02 => (intro w hSw; (try dsimp only at hSw); go_simp; try (with_reducible rfl))
      (try simp only [Act.put, zA, zB, zC, zD, zE, zF])
      refine wpAnyT_take (i := 3) (v := ?_) rfl (by kernel_rfl) (by kernel_rfl) (by kernel_rfl) (by kernel_rfl) (fun _ _ _ h => h) (Or.inl ⟨by rfl, ?hyr03⟩) hHeld hStay ?_
      case hyr03 => (intro w hSw; (try dsimp only at hSw); go_simp; try (with_reducible rfl))
      (try simp only [Act.put, zA, zB, zC, zD, zE, zF])
      refine wpAnyT_take (i := 4) (v := ?_) rfl (by kernel_rfl) (by kernel_rfl) (by kernel_rfl) (by kernel_rfl) (fun _ _ _ h => h) (Or.inl ⟨by rfl, ?hyr04⟩) hHeld hStay ?_
      case hyr04 => (intro w hSw; (try dsimp only at hSw); go_simp; try (with_reducible rfl))
      (try simp only [Act.put, zA, zB, zC, zD, zE, zF])
      refine wpAnyT_take (i := 5) (v := ?_) rfl (by kernel_rfl) (by kernel_rfl) (by kernel_rfl) (by kernel_rfl) (fun _ _ _ h => h) (Or.inl ⟨by rfl, ?hyr05⟩) hHeld hStay ?_
      case hyr05 => (intro w hSw; (try dsimp only at hSw); go_simp; try (with_reducible rfl))
      (try simp only [Act.put, zA, zB, zC, zD, zE, zF])
      refine wpAnyT_take (i := 6) (v := ?_) rfl (by kernel_rfl) (by kernel_rfl) (by kernel_rfl) (by kernel_rfl) (fun _ _ _ h => h) (Or.inl ⟨by rfl, ?hyr06⟩) hHeld hStay ?_
      case hyr06 => (intro w hSw; (try dsimp only at hSw); go_simp; try (with_reducible rfl))
      (try simp only [Act.put, zA, zB, zC, zD, zE, zF])
      refine wpAnyT_take (i := 7) (v := ?_) rfl (by kernel_rfl) (by kernel_rfl) (by kernel_rfl) (by kernel_rfl) (fun _ _ _ h => h) (Or.inl ⟨by rfl, ?hyr07⟩) hHeld hStay ?_
      case hyr07 => (intro w hSw; (try dsimp only at hSw); go_simp; try (with_reducible rfl))
      (try simp only [Act.put, zA, zB, zC, zD, zE, zF])
      refine wpAnyT_take2 (i := 8) (v := ?_) rfl (by kernel_rfl) (by kernel_rfl) (by kernel_rfl) (by kernel_rfl) (fun _ _ _ h => h) (Or.inl ⟨by rfl, ?hyr08⟩) (fun _ => hHeld) hStay ?_
      case hyr08 => (intro w hSw; (try dsimp only at hSw); go_simp; try (with_reducible rfl))
      (try simp only [Act.put, zA, zB, zC, zD, zE, zF])
      refine wpAnyT_take2 (i := 9) (v := ?_) rfl (by kernel_rfl) (by kernel_rfl) (by kernel_rfl) (by kernel_rfl) (fun _ _ _ h => h) (Or.inl ⟨by rfl, ?hyr0a9⟩) (fun _ => hHeld) hStay ?_
      case hyr0a9 => (intro w hSw; (try dsimp only at hSw); go_simp; try (with_reducible rfl))
      (try simp only [Act.put, zA, zB, zC, zD, zE, zF])
      refine wpAnyT_take2 (i := 10) (v := ?_) rfl (by kernel_rfl) (by kernel_rfl) (by kernel_rfl) (by kernel_rfl) (fun _ _ _ h => h) (Or.inl ⟨by rfl, ?hyr0a10⟩) (fun _ => hHeld) hStay ?_
      case hyr0a10 => (intro w hSw; (try dsimp only at hSw); go_simp; try (with_reducible rfl))
      (try simp only [Act.put, zA, zB, zC, zD, zE, zF])
      refine wpAnyT_take2 (i := 11) (v := ?_) rfl (by kernel_rfl) (by kernel_rfl) (by kernel_rfl) (by kernel_rfl) (fun _ _ _ h => h) (Or.inl ⟨by rfl, ?hyr011⟩) (fun _ => hHeld) hStay ?_
      case hyr011 => (intro w hSw; (try dsimp only at hSw); go_simp; try (with_reducible rfl))
      (try simp only [Act.put, zA, zB, zC, zD, zE, zF])
      refine wpAnyT_take (i := 12) (v := ?_) rfl (by kernel_rfl) (by kernel_rfl) (by kernel_rfl) (by kernel_rfl) (fun _ _ _ h => h) (Or.inl ⟨by rfl, ?hyr012⟩) hHeld hStay ?_
      case hyr012 => (intro w hSw; (try dsimp only at hSw); go_simp; try (with_reducible rfl))
      (try simp only [Act.put, zA, zB, zC, zD, zE, zF])
      refine wpAnyT_take (i := 13) (v := ?_) rfl (by kernel_rfl) (by kernel_rfl) (by kernel_rfl) (by kernel_rfl) (fun _ _ _ h => h) (Or.inl ⟨by rfl, ?hyr013⟩) hHeld hStay ?_
      case hyr013 => (intro w hSw; (try dsimp only at hSw); go_simp; try (with_reducible rfl))
      (try simp only [Act.put, zA, zB, zC, zD, zE, zF])
      refine wpAnyT_take (i := 14) (v := ?_) rfl (by kernel_rfl) (by kernel_rfl) (by kernel_rfl) (by kernel_rfl) (fun _ _ _ h => h) (Or.inl ⟨by rfl, ?hyr014⟩) hHeld hStay ?_
      case hyr014 => (intro w hSw; (try dsimp only at hSw); go_simp; try (with_reducible rfl))
      (try simp only [Act.put, zA, zB, zC, zD, zE, zF])
      refine wpAnyT_take (i := 15) (v := ?_) rfl (by kernel_rfl) (by kernel_rfl) (by kernel_rfl) (by kernel_rfl) (fun _ _ _ h => h) (Or.inl ⟨by rfl, ?hyr015⟩) hHeld hStay ?_
      case hyr015 => (intro w hSw; (try dsimp only at hSw); go_simp; try (with_reducible rfl))
      (try simp only [Act.put, zA, zB, zC, zD, zE, zF])
      refine wpAnyT_take (i := 16) (v := ?_) rfl (by kernel_rfl) (by kernel_rfl) (by kernel_rfl) (by kernel_rfl) (fun _ _ _ h => h) (Or.inl ⟨by rfl, ?hyr016⟩) hHeld hStay ?_
      case hyr016 => (intro w hSw; (try dsimp only at hSw); go_simp; try (with_reducible rfl))
      (try simp only [Act.put, zA, zB, zC, zD, zE, zF])
      refine wpAnyT_take2 (i := 17) (v := ?_) rfl (by kernel_rfl) (by kernel_rfl) (by kernel_rfl) (by kernel_rfl) (fun _ _ _ h => h) (Or.inl ⟨by rfl, ?hyr017⟩) (fun _ => hHeld) hStay ?_
      case hyr017 => (intro w hSw; (try dsimp only at hSw); go_simp; try (with_reducible rfl))
      (try simp only [Act.put, zA, zB, zC, zD, zE, zF])
      refine wpAnyT_take2 (i := 18) (v := ?_) rfl (by kernel_rfl) (by kernel_rfl) (by kernel_rfl) (by kernel_rfl) (fun _ _ _ h => h) (Or.inl ⟨by rfl, ?hyr0b18⟩) (fun _ => hHeld) hStay ?_
      case hyr0b18 => (intro w hSw; (try dsimp only at hSw); go_simp; try (with_reducible rfl))
      (try simp only [Act.put, zA, zB, zC, zD, zE, zF])
      refine wpAnyT_take2 (i := 19) (v := ?_) rfl (by kernel_rfl) (by kernel_rfl) (by kernel_rfl) (by kernel_rfl) (fun _ _ _ h => h) (Or.inl ⟨by rfl, ?hyr0b19⟩) (fun _ => hHeld) hStay ?_
      case hyr0b19 => (intro w hSw; (try dsimp only at hSw); go_simp; try (with_reducible rfl))
      (try simp only [Act.put, zA, zB, zC, zD, zE, zF])
      refine wpAnyT_take2 (i := 20) (v := ?_) rfl (by kernel_rfl) (by kernel_rfl) (by kernel_rfl) (by kernel_rfl) (fun _ _ _ h => h) (Or.inl ⟨by rfl, ?hyr020⟩) (fun _ => hHeld) hStay ?_
      case hyr020 => (intro w hSw; (try dsimp only at hSw); go_simp; try (with_reducible rfl))
      (try simp only [Act.put, zA, zB, zC, zD, zE, zF])
      refine wpAnyT_take (i := 21) (v := ?_) rfl (by kernel_rfl) (by kernel_rfl) (by kernel_rfl) (by kernel_rfl) (fun _ _ _ h => h) (Or.inl ⟨by rfl, ?hyr021⟩) hHeld hStay ?_
      case hyr021 => (intro w hSw; (try dsimp only at hSw); go_simp; try (with_reducible rfl))
      (try simp only [Act.put, zA, zB, zC, zD, zE, zF])
      refine wpAnyT_take (i := 22) (v := ?_) rfl (by kernel_rfl) (by kernel_rfl) (by kernel_rfl) (by kernel_rfl) (fun _ _ _ h => h) (Or.inl ⟨by rfl, ?hyr022⟩) hHeld hStay ?_
      case hyr022 => (intro w hSw; (try dsimp only at hSw); go_simp; try (with_reducible rfl))
      (try simp only [Act.put, zA, zB, zC, zD, zE, zF])
      refine wpAnyT_take (i := 23) (v := ?_) rfl (by kernel_rfl) (by kernel_rfl) (by kernel_rfl) (by kernel_rfl) (fun _ _ _ h => h) (Or.inl ⟨by rfl, ?hyr023⟩) hHeld hStay ?_
      case hyr023 => (intro w hSw; (try dsimp only at hSw); go_simp; try (with_reducible rfl))
      (try simp only [Act.put, zA, zB, zC, zD, zE, zF])
      refine wpAnyT_take (i := 24) (v := ?_) rfl (by kernel_rfl) (by kernel_rfl) (by kernel_rfl) (by kernel_rfl) (fun _ _ _ h => h) (Or.inl ⟨by rfl, ?hyr024⟩) hHeld hStay ?_
      case hyr024 => (intro w hSw; (try dsimp only at hSw); go_simp; try (with_reducible rfl))
      (try simp only [Act.put, zA, zB, zC, zD, zE, zF])
      refine wpAnyT_take (i := 25) (v := ?_) rfl (by kernel_rfl) (by kernel_rfl) (by kernel_rfl) (by kernel_rfl) (fun _ _ _ h => h) (Or.inl ⟨by rfl, ?hyr025⟩) hHeld hStay ?_
      case hyr025 => (intro w hSw; (try dsimp only at hSw); go_simp; try (with_reducible rfl))
      (try simp only [Act.put, zA, zB, zC, zD, zE, zF])
      refine wpAnyT_take2 (i := 26) (v := ?_) rfl (by kernel_rfl) (by kernel_rfl) (by kernel_rfl) (by kernel_rfl) (fun _ _ _ h => h) (Or.inl ⟨by rfl, ?hyr026⟩) (fun _ => hHeld) hStay ?_
      case hyr026 => (intro w hSw; (try dsimp only at hSw); go_simp; try (with_reducible rfl))
      (try simp only [Act.put, zA, zB, zC, zD, zE, zF])
      refine wpAnyT_take2 (i := 27) (v := ?_) rfl (by kernel_rfl) (by kernel_rfl) (by kernel_rfl) (by kernel_rfl) (fun _ _ _ h => h) (Or.inl ⟨by rfl, ?hyr0c27⟩) (fun _ => hHeld) hStay ?_
      case hyr0c27 => (intro w hSw; (try dsimp only at hSw); go_simp; try (with_reducible rfl))
      (try simp only [Act.put, zA, zB, zC, zD, zE, zF])
      refine wpAnyT_take2 (i := 28) (v := ?_) rfl (by kernel_rfl) (by kernel_rfl) (by kernel_rfl) (by kernel_rfl) (fun _ _ _ h => h) (Or.inl ⟨by rfl, ?hyr0c28⟩) (fun _ => hHeld) hStay ?_
      case hyr0c28 => (intro w hSw; (try dsimp only at hSw); go_simp; try (with_reducible rfl))
      (try simp only [Act.put, zA, zB, zC, zD, zE, zF])
      refine wpAnyT_take2 (i := 29) (v := ?_) rfl (by kernel_rfl) (by kernel_rfl) (by kernel_rfl) (by kernel_rfl) (fun _ _ _ h => h) (Or.inl ⟨by rfl, ?hyr029⟩) (fun _ => hHeld) hStay ?_
      case hyr029 => (intro w hSw; (try dsimp only at hSw); go_simp; try (with_reducible rfl))
      (try simp only [Act.put, zA, zB, zC, zD, zE, zF])
      refine wpAnyT_take2 (i := 30) (v := ?_) rfl (by kernel_rfl) (by kernel_rfl) (by kernel_rfl) (by kernel_rfl) (fun _ _ _ h => h) (Or.inl ⟨by rfl, ?hyr030⟩) (fun _ => hHeld) hStay ?_
      case hyr030 => (intro w hSw; (try dsimp only at hSw); go_simp; try (with_reducible rfl))
      (try simp only [Act.put, zA, zB, zC, zD, zE, zF])
      refine wpAnyT_take2 (i := 31) (v := ?_) rfl (by kernel_rfl) (by kernel_rfl) (by kernel_rfl) (by kernel_rfl) (fun _ _ _ h => h) (Or.inl ⟨by rfl, ?hyr031⟩) (fun _ => hHeld) hStay ?_
      case hyr031 => (intro w hSw; (try dsimp only at hSw); go_simp; try (with_reducible rfl))
      (try simp only [Act.put, zA, zB, zC, zD, zE, zF])
      refine wpAnyT_take2 (i := 32) (v := ?_) rfl (by kernel_rfl) (by kernel_rfl) (by kernel_rfl) (by kernel_rfl) (fun _ _ _ h => h) (Or.inl ⟨by rfl, ?hyr032⟩) (fun _ => hHeld) hStay ?_
      case hyr032 => (intro w hSw; (try dsimp only at hSw); go_simp; try (with_reducible rfl))
      (try simp only [Act.put, zA, zB, zC, zD, zE, zF])
      refine wpAnyT_late (i := 33) (by kernel_rfl) rfl (by kernel_rfl) (fun K hK9 => ?_)
      go_simp
      refine hK9.out _ _ (by refine ⟨?_, ?_, ?_, ?_⟩ <;> simp [go_sem, q1, f3, f4, f5, nb, nB, nC, Ne.symm nb, Ne.symm nB, Ne.symm nC]) (fun hStayx => ?_)
      clear hK9 K
      (try simp only [Act.put, zA, zB, zC, zD, zE, zF])
      refine wpAnyT_take2 (i := 34) (v := ?_) rfl (by kernel_rfl) (by kernel_rfl) (by kernel_rfl) (by kernel_rfl) (fun _ _ _ h => h) (Or.inl ⟨by rfl, ?hyr034⟩) (fun h => Bool.noConfusion (Eq.trans (Eq.symm (show anyL _ _ = true by kernel_rfl)) h)) hStayx ?_
      case hyr034 => (intro w hSw; (try dsimp only at hSw); go_simp; try (with_reducible rfl))
      (try simp only [Act.put, zA, zB, zC, zD, zE, zF])
      refine wpAnyT_take2 (i := 35) (v := ?_) rfl (by kernel_rfl) (by kernel_rfl) (by kernel_rfl) (by kernel_rfl) (fun _ _ _ h => h) (Or.inl ⟨by rfl, ?hyr035⟩) (fun h => Bool.noConfusion (Eq.trans (Eq.symm (show anyL _ _ = true by kernel_rfl)) h)) hStayx ?_
      case hyr035 => (intro w hSw; (try dsimp only at hSw); go_simp; try (with_reducible rfl))
      (try simp only [Act.put, zA, zB, zC, zD, zE, zF])
      refine wpAnyT_take2 (i := 36) (v := ?_) rfl (by kernel_rfl) (by kernel_rfl) (by kernel_rfl) (by kernel_rfl) (fun _ _ _ h => h) (Or.inl ⟨by rfl, ?hyr036⟩) (fun h => Bool.noConfusion (Eq.trans (Eq.symm (show anyL _ _ = true by kernel_rfl)) h)) hStayx ?_
      case hyr036 => (intro w hSw; (try dsimp only at hSw); go_simp; try (with_reducible rfl))
      (try simp only [Act.put, zA, zB, zC, zD, zE, zF])
      refine wpAnyT_late (i := 37) (by kernel_rfl) rfl (by kernel_rfl) (fun K hK9 => ?_)
      go_simp
      refine hK9.out _ _ (by refine ⟨?_, ?_, ?_, ?_⟩ <;> simp [go_sem, q1, f3, f4, f5, nb, nB, nC, Ne.symm nb, Ne.symm nB, Ne.symm nC]) (fun hStayy => ?_)
      clear hK9 K
      (try simp only [Act.put, zA, zB, zC, zD, zE, zF])
      refine wpAnyT_take2 (i := 38) (v := ?_) rfl (by kernel_rfl) (by kernel_rfl) (by kernel_rfl) (by kernel_rfl) (fun _ _ _ h => h) (Or.inl ⟨by rfl, ?hyr038⟩) (fun h => Bool.noConfusion (Eq.trans (Eq.symm (show anyL _ _ = true by kernel_rfl)) h)) hStayy ?_
      case hyr038 => (intro w hSw; (try dsimp only at hSw); go_simp; try (with_reducible rfl))
      (try simp only [Act.put, zA, zB, zC, zD, zE, zF])
      refine wpAnyT_take2 (i := 39) (v := ?_) rfl (by kernel_rfl) (by kernel_rfl) (by kernel_rfl) (by kernel_rfl) (fun _ _ _ h => h) (Or.inl ⟨by rfl, ?hyr039⟩) (fun h => Bool.noConfusion (Eq.trans (Eq.symm (show anyL _ _ = true by kernel_rfl)) h)) hStayy ?_
      case hyr039 => (intro w hSw; (try dsimp only at hSw); go_simp; try (with_reducible rfl))
      (try simp only [Act.put, zA, zB, zC, zD, zE, zF])
      refine wpAnyT_take2 (i := 40) (v := ?_) rfl (by kernel_rfl) (by kernel_rfl) (by kernel_rfl) (by kernel_rfl) (fun _ _ _ h => h) (Or.inl ⟨by rfl, ?hyr040⟩) (fun h => Bool.noConfusion (Eq.trans (Eq.symm (show anyL _ _ = true by kernel_rfl)) h)) hStayy ?_
      case hyr040 => (intro w hSw; (try dsimp only at hSw); go_simp; try (with_reducible rfl))
      (try simp only [Act.put, zA, zB, zC, zD, zE, zF])
      refine wpAnyT_late (i := 41) (by kernel_rfl) rfl (by kernel_rfl) (fun K hK9 => ?_)
      go_simp
      refine hK9.out _ _ (by refine ⟨?_, ?_, ?_, ?_⟩ <;> simp [go_sem, q1, f3, f4, f5, nb, nB, nC, Ne.symm nb, Ne.symm nB, Ne.symm nC]) (fun hStayz => ?_)
      clear hK9 K
      (try simp only [Act.put, zA, zB, zC, zD, zE, zF])
      refine wpAnyT_done (by kernel_rfl) ?_ _
      (try simp only [Act.put, zA, zB, zC, zD, zE, zF])
      go_wp2_with fail
      obtain ⟨e1, e2, e3⟩ := HP.out
      simp only [Bool.false_or, Bool.true_or] at e1 e2 e3
      refine bodyPost_end (v := .tuple #[]) (by simp [results, Tryz.results69, go_sem]) rfl ⟨rfl, ?_, ?_⟩
      · rw [e1, e2, e3]
        exact (((HF.out.1.setAc 3 (by decide) (.bool p2)).setAc 4 (by decide) (.bool m2)).setAc 5 (by decide) (.bool z2)).kept (Kept.refl _).drew
      · exact ((((((k0.trans HF.out.2).toGrw b).setCell _ _).setCell _ _).setCell _ _).trans ((Kept.refl _).drew.toGrw b))
    · go_upto_region 5 with fail
      refine wp_region_lateT [33, 37, 41] (fun u => (u.cell? ⟨b, 3, none⟩ = some (.bool false) ∧ u.cell? ⟨b, 4, none⟩ = some (.bool false) ∧ u.cell? ⟨b, 5, none⟩ = some (.bool true)) ∧ u.cell? ⟨w.heap.size, 0, none⟩ = some (.pointer (some ⟨b, 0, none⟩))) (fun u => u.cell? ⟨w.heap.size, 0, none⟩ = some (.pointer (some ⟨b, 0, none⟩)) ∧ u.cell? ⟨B, 3, none⟩ = some (.bool p2) ∧ u.cell? ⟨B, 4, none⟩ = some (.bool m2) ∧ u.cell? ⟨B, 5, none⟩ = some (.bool z2)) (by kernel_rfl) (by refine ⟨⟨?_, ?_, ?_⟩, ?_⟩ <;> simp [go_sem, q1, g3, g4, g5]) (by refine ⟨?_, ?_, ?_, ?_⟩ <;> simp [go_sem, q1, f3, f4, f5]) (fun hHeld hStay => ?_)
      refine wpAnyT_take2 (i := 0) (v := ?_) rfl (by kernel_rfl) (by kernel_rfl) (by kernel_rfl) (by kernel_rfl) (fun _ _ _ h => h) (Or.inl ⟨by rfl, ?hyr10⟩) (fun _ => hHeld) hStay ?_
      case hyr10 => (intro w hSw; (try dsimp only at hSw); go_simp; try (with_reducible rfl))
      (try simp only [Act.put, zA, zB, zC, zD, zE, zF])
      refine wpAnyT_take2 (i := 1) (v := ?_) rfl (by kernel_rfl) (by kernel_rfl) (by kernel_rfl) (by kernel_rfl) (fun _ _ _ h => h) (Or.inl ⟨by rfl, ?hyr11⟩) (fun _ => hHeld) hStay ?_
      case hyr11 => (intro w hSw; (try dsimp only at hSw); go_simp; try (with_reducible rfl))
      (try simp only [Act.put, zA, zB, zC, zD, zE, zF])
      refine wpAnyT_take2 (i := 2) (v := ?_) rfl (by kernel_rfl) (by kernel_rfl) (by kernel_rfl) (by kernel_rfl) (fun _ _ _ h => h) (Or.inl ⟨by rfl, ?hyr12⟩) (fun _ => hHeld) hStay ?_
      case hyr12 => (intro w hSw; (try dsimp only at hSw); go_simp; try (with_reducible rfl))
      (try simp only [Act.put, zA, zB, zC, zD, zE, zF])
      refine wpAnyT_take (i := 3) (v := ?_) rfl (by kernel_rfl) (by kernel_rfl) (by kernel_rfl) (by kernel_rfl) (fun _ _ _ h => h) (Or.inl ⟨by rfl, ?hyr13⟩) hHeld hStay ?_
      case hyr13 => (intro w hSw; (try dsimp only at hSw); go_simp; try (with_reducible rfl))
      (try simp only [Act.put, zA, zB, zC, zD, zE, zF])
      refine wpAnyT_take (i := 4) (v := ?_) rfl (by kernel_rfl) (by kernel_rfl) (by kernel_rfl) (by kernel_rfl) (fun _ _ _ h => h) (Or.inl ⟨by rfl, ?hyr14⟩) hHeld hStay ?_
      case hyr14 => (intro w hSw; (try dsimp only at hSw); go_simp; try (with_reducible rfl))
      (try simp only [Act.put, zA, zB, zC, zD, zE, zF])
      refine wpAnyT_take (i := 5) (v := ?_) rfl (by kernel_rfl) (by kernel_rfl) (by kernel_rfl) (by kernel_rfl) (fun _ _ _ h => h) (Or.inl ⟨by rfl, ?hyr15⟩) hHeld hStay ?_
      case hyr15 => (intro w hSw; (try dsimp only at hSw); go_simp; try (with_reducible rfl))
      (try simp only [Act.put, zA, zB, zC, zD, zE, zF])
      refine wpAnyT_take (i := 6) (v := ?_) rfl (by kernel_rfl) (by kernel_rfl) (by kernel_rfl) (by kernel_rfl) (fun _ _ _ h => h) (Or.inl ⟨by rfl, ?hyr16⟩) hHeld hStay ?_
      case hyr16 => (intro w hSw; (try dsimp only at hSw); go_simp; try (with_reducible rfl))
      (try simp only [Act.put, zA, zB, zC, zD, zE, zF])
      refine wpAnyT_take (i := 7) (v := ?_) rfl (by kernel_rfl) (by kernel_rfl) (by kernel_rfl) (by kernel_rfl) (fun _ _ _ h => h) (Or.inl ⟨by rfl, ?hyr17⟩) hHeld hStay ?_
      case hyr17 => (intro w hSw; (try dsimp only at hSw); go_simp; try (with_reducible rfl))
      (try simp only [Act.put, zA, zB, zC, zD, zE, zF])
      refine wpAnyT_take2 (i := 8) (v := ?_) rfl (by kernel_rfl) (by kernel_rfl) (by kernel_rfl) (by kernel_rfl) (fun _ _ _ h => h) (Or.inl ⟨by rfl, ?hyr18⟩) (fun _ => hHeld) hStay ?_
      case hyr18 => (intro w hSw; (try dsimp only at hSw); go_simp; try (with_reducible rfl))
      (try simp only [Act.put, zA, zB, zC, zD, zE, zF])
      refine wpAnyT_take2 (i := 9) (v := ?_) rfl (by kernel_rfl) (by kernel_rfl) (by kernel_rfl) (by kernel_rfl) (fun _ _ _ h => h) (Or.inl ⟨by rfl, ?hyr1a9⟩) (fun _ => hHeld) hStay ?_
      case hyr1a9 => (intro w hSw; (try dsimp only at hSw); go_simp; try (with_reducible rfl))
      (try simp only [Act.put, zA, zB, zC, zD, zE, zF])
      refine wpAnyT_take2 (i := 10) (v := ?_) rfl (by kernel_rfl) (by kernel_rfl) (by kernel_rfl) (by kernel_rfl) (fun _ _ _ h => h) (Or.inl ⟨by rfl, ?hyr1a10⟩) (fun _ => hHeld) hStay ?_
      case hyr1a10 => (intro w hSw; (try dsimp only at hSw); go_simp; try (with_reducible rfl))
      (try simp only [Act.put, zA, zB, zC, zD, zE, zF])
      refine wpAnyT_take2 (i := 11) (v := ?_) rfl (by kernel_rfl) (by kernel_rfl) (by kernel_rfl) (by kernel_rfl) (fun _ _ _ h => h) (Or.inl ⟨by rfl, ?hyr111⟩) (fun _ => hHeld) hStay ?_
      case hyr111 => (intro w hSw; (try dsimp only at hSw); go_simp; try (with_reducible rfl))
      (try simp only [Act.put, zA, zB, zC, zD, zE, zF])
      refine wpAnyT_take (i := 12) (v := ?_) rfl (by kernel_rfl) (by kernel_rfl) (by kernel_rfl) (by kernel_rfl) (fun _ _ _ h => h) (Or.inl ⟨by rfl, ?hyr112⟩) hHeld hStay ?_
      case hyr112 => (intro w hSw; (try dsimp only at hSw); go_simp; try (with_reducible rfl))
      (try simp only [Act.put, zA, zB, zC, zD, zE, zF])
      refine wpAnyT_take (i := 13) (v := ?_) rfl (by kernel_rfl) (by kernel_rfl) (by kernel_rfl) (by kernel_rfl) (fun _ _ _ h => h) (Or.inl ⟨by rfl, ?hyr113⟩) hHeld hStay ?_
      case hyr113 => (intro w hSw; (try dsimp only at hSw); go_simp; try (with_reducible rfl))
      (try simp only [Act.put, zA, zB, zC, zD, zE, zF])
      refine wpAnyT_take (i := 14) (v := ?_) rfl (by kernel_rfl) (by kernel_rfl) (by kernel_rfl) (by kernel_rfl) (fun _ _ _ h => h) (Or.inl ⟨by rfl, ?hyr114⟩) hHeld hStay ?_
      case hyr114 => (intro w hSw; (try dsimp only at hSw); go_simp; try (with_reducible rfl))
      (try simp only [Act.put, zA, zB, zC, zD, zE, zF])
      refine wpAnyT_take (i := 15) (v := ?_) rfl (by kernel_rfl) (by kernel_rfl) (by kernel_rfl) (by kernel_rfl) (fun _ _ _ h => h) (Or.inl ⟨by rfl, ?hyr115⟩) hHeld hStay ?_
      case hyr115 => (intro w hSw; (try dsimp only at hSw); go_simp; try (with_reducible rfl))
      (try simp only [Act.put, zA, zB, zC, zD, zE, zF])
      refine wpAnyT_take (i := 16) (v := ?_) rfl (by kernel_rfl) (by kernel_rfl) (by kernel_rfl) (by kernel_rfl) (fun _ _ _ h => h) (Or.inl ⟨by rfl, ?hyr116⟩) hHeld hStay ?_
      case hyr116 => (intro w hSw; (try dsimp only at hSw); go_simp; try (with_reducible rfl))
      (try simp only [Act.put, zA, zB, zC, zD, zE, zF])
      refine wpAnyT_take2 (i := 17) (v := ?_) rfl (by kernel_rfl) (by kernel_rfl) (by kernel_rfl) (by kernel_rfl) (fun _ _ _ h => h) (Or.inl ⟨by rfl, ?hyr117⟩) (fun _ => hHeld) hStay ?_
      case hyr117 => (intro w hSw; (try dsimp only at hSw); go_simp; try (with_reducible rfl))
      (try simp only [Act.put, zA, zB, zC, zD, zE, zF])
      refine wpAnyT_take2 (i := 18) (v := ?_) rfl (by kernel_rfl) (by kernel_rfl) (by kernel_rfl) (by kernel_rfl) (fun _ _ _ h => h) (Or.inl ⟨by rfl, ?hyr1b18⟩) (fun _ => hHeld) hStay ?_
      case hyr1b18 => (intro w hSw; (try dsimp only at hSw); go_simp; try (with_reducible rfl))
      (try simp only [Act.put, zA, zB, zC, zD, zE, zF])
      refine wpAnyT_take2 (i := 19) (v := ?_) rfl (by kernel_rfl) (by kernel_rfl) (by kernel_rfl) (by kernel_rfl) (fun _ _ _ h => h) (Or.inl ⟨by rfl, ?hyr1b19⟩) (fun _ => hHeld) hStay ?_
      case hyr1b19 => (intro w hSw; (try dsimp only at hSw); go_simp; try (with_reducible rfl))
      (try simp only [Act.put, zA, zB, zC, zD, zE, zF])
      refine wpAnyT_take2 (i := 20) (v := ?_) rfl (by kernel_rfl) (by kernel_rfl) (by kernel_rfl) (by kernel_rfl) (fun _ _ _ h => h) (Or.inl ⟨by rfl, ?hyr120⟩) (fun _ => hHeld) hStay ?_
      case hyr120 => (intro w hSw; (try dsimp only at hSw); go_simp; try (with_reducible rfl))
      (try simp only [Act.put, zA, zB, zC, zD, zE, zF])
      refine wpAnyT_take (i := 21) (v := ?_) rfl (by kernel_rfl) (by kernel_rfl) (by kernel_rfl) (by kernel_rfl) (fun _ _ _ h => h) (Or.inl ⟨by rfl, ?hyr121⟩) hHeld hStay ?_
      case hyr121 => (intro w hSw; (try dsimp only at hSw); go_simp; try (with_reducible rfl))
      (try simp only [Act.put, zA, zB, zC, zD, zE, zF])
      refine wpAnyT_take (i := 22) (v := ?_) rfl (by kernel_rfl) (by kernel_rfl) (by kernel_rfl) (by kernel_rfl) (fun _ _ _ h => h) (Or.inl ⟨by rfl, ?hyr122⟩) hHeld hStay ?_
      case hyr122 => (intro w hSw; (try dsimp only at hSw); go_simp; try (with_reducible rfl))
      (try simp only [Act.put, zA, zB, zC, zD, zE, zF])
      refine wpAnyT_take (i := 23) (v := ?_) rfl (by kernel_rfl) (by kernel_rfl) (by kernel_rfl) (by kernel_rfl) (fun _ _ _ h => h) (Or.inl ⟨by rfl, ?hyr123⟩) hHeld hStay ?_
      case hyr123 => (intro w hSw; (try dsimp only at hSw); go_simp; try (with_reducible rfl))
      (try simp only [Act.put, zA, zB, zC, zD, zE, zF])
      refine wpAnyT_take (i := 24) (v := ?_) rfl (by kernel_rfl) (by kernel_rfl) (by kernel_rfl) (by kernel_rfl) (fun _ _ _ h => h) (Or.inl ⟨by rfl, ?hyr124⟩) hHeld hStay ?_
      case hyr124 => (intro w hSw; (try dsimp only at hSw); go_simp; try (with_reducible rfl))
      (try simp only [Act.put, zA, zB, zC, zD, zE, zF])
      refine wpAnyT_take (i := 25) (v := ?_) rfl (by kernel_rfl) (by kernel_rfl) (by kernel_rfl) (by kernel_rfl) (fun _ _ _ h => h) (Or.inl ⟨by rfl, ?hyr125⟩) hHeld hStay ?_
      case hyr125 => (intro w hSw; (try dsimp only at hSw); go_simp; try (with_reducible rfl))
      (try simp only [Act.put, zA, zB, zC, zD, zE, zF])
      refine wpAnyT_take2 (i := 26) (v := ?_) rfl (by kernel_rfl) (by kernel_rfl) (by kernel_rfl) (by kernel_rfl) (fun _ _ _ h => h) (Or.inl ⟨by rfl, ?hyr126⟩) (fun _ => hHeld) hStay ?_
      case hyr126 => (intro w hSw; (try dsimp only at hSw); go_simp; try (with_reducible rfl))
      (try simp only [Act.put, zA, zB, zC, zD, zE, zF])
      refine wpAnyT_take2 (i := 27) (v := undef) rfl (by kernel_rfl) (by kernel_rfl) (by kernel_rfl) (by kernel_rfl) (fun _ _ _ h => h) (Or.inr ⟨by rfl, rfl⟩) (fun _ => hHeld) hStay ?_
      (try simp only [Act.put, zA, zB, zC, zD, zE, zF])
      refine wpAnyT_take2 (i := 28) (v := undef) rfl (by kernel_rfl) (by kernel_rfl) (by kernel_rfl) (by kernel_rfl) (fun _ _ _ h => h) (Or.inr ⟨by rfl, rfl⟩) (fun _ => hHeld) hStay ?_
      (try simp only [Act.put, zA, zB, zC, zD, zE, zF])
      refine wpAnyT_take2 (i := 29) (v := ?_) rfl (by kernel_rfl) (by kernel_rfl) (by kernel_rfl) (by kernel_rfl) (fun _ _ _ h => h) (Or.inl ⟨by rfl, ?hyr129⟩) (fun _ => hHeld) hStay ?_
      case hyr129 => (intro w hSw; (try dsimp only at hSw); go_simp; try (with_reducible rfl))
      (try simp only [Act.put, zA, zB, zC, zD, zE, zF])
      refine wpAnyT_take2 (i := 30) (v := ?_) rfl (by kernel_rfl) (by kernel_rfl) (by kernel_rfl) (by kernel_rfl) (fun _ _ _ h => h) (Or.inl ⟨by rfl, ?hyr130⟩) (fun _ => hHeld) hStay ?_
      case hyr130 => (intro w hSw; (try dsimp only at hSw); go_simp; try (with_reducible rfl))
      (try simp only [Act.put, zA, zB, zC, zD, zE, zF])
      refine wpAnyT_take2 (i := 31) (v := ?_) rfl (by kernel_rfl) (by kernel_rfl) (by kernel_rfl) (by kernel_rfl) (fun _ _ _ h => h) (Or.inl ⟨by rfl, ?hyr131⟩) (fun _ => hHeld) hStay ?_
      case hyr131 => (intro w hSw; (try dsimp only at hSw); go_simp; try (with_reducible rfl))
      (try simp only [Act.put, zA, zB, zC, zD, zE, zF])
      refine wpAnyT_take2 (i := 32) (v := ?_) rfl (by kernel_rfl) (by kernel_rfl) (by kernel_rfl) (by kernel_rfl) (fun _ _ _ h => h) (Or.inl ⟨by rfl, ?hyr132⟩) (fun _ => hHeld) hStay ?_
      case hyr132 => (intro w hSw; (try dsimp only at hSw); go_simp; try (with_reducible rfl))
      (try simp only [Act.put, zA, zB, zC, zD, zE, zF])
      refine wpAnyT_late (i := 33) (by kernel_rfl) rfl (by kernel_rfl) (fun K hK9 => ?_)
      go_simp
      refine hK9.out _ _ (by refine ⟨?_, ?_, ?_, ?_⟩ <;> simp [go_sem, q1, f3, f4, f5, nb, nB, nC, Ne.symm nb, Ne.symm nB, Ne.symm nC]) (fun hStayx => ?_)
      clear hK9 K
      (try simp only [Act.put, zA, zB, zC, zD, zE, zF])
      refine wpAnyT_take2 (i := 34) (v := ?_) rfl (by kernel_rfl) (by kernel_rfl) (by kernel_rfl) (by kernel_rfl) (fun _ _ _ h => h) (Or.inl ⟨by rfl, ?hyr134⟩) (fun h => Bool.noConfusion (Eq.trans (Eq.symm (show anyL _ _ = true by kernel_rfl)) h)) hStayx ?_
      case hyr134 => (intro w hSw; (try dsimp only at hSw); go_simp; try (with_reducible rfl))
      (try simp only [Act.put, zA, zB, zC, zD, zE, zF])
      refine wpAnyT_take2 (i := 35) (v := ?_) rfl (by kernel_rfl) (by kernel_rfl) (by kernel_rfl) (by kernel_rfl) (fun _ _ _ h => h) (Or.inl ⟨by rfl, ?hyr135⟩) (fun h => Bool.noConfusion (Eq.trans (Eq.symm (show anyL _ _ = true by kernel_rfl)) h)) hStayx ?_
      case hyr135 => (intro w hSw; (try dsimp only at hSw); go_simp; try (with_reducible rfl))
      (try simp only [Act.put, zA, zB, zC, zD, zE, zF])
      refine wpAnyT_take2 (i := 36) (v := ?_) rfl (by kernel_rfl) (by kernel_rfl) (by kernel_rfl) (by kernel_rfl) (fun _ _ _ h => h) (Or.inl ⟨by rfl, ?hyr136⟩) (fun h => Bool.noConfusion (Eq.trans (Eq.symm (show anyL _ _ = true by kernel_rfl)) h)) hStayx ?_
      case hyr136 => (intro w hSw; (try dsimp only at hSw); go_simp; try (with_reducible rfl))
      (try simp only [Act.put, zA, zB, zC, zD, zE, zF])
      refine wpAnyT_late (i := 37) (by kernel_rfl) rfl (by kernel_rfl) (fun K hK9 => ?_)
      go_simp
      refine hK9.out _ _ (by refine ⟨?_, ?_, ?_, ?_⟩ <;> simp [go_sem, q1, f3, f4, f5, nb, nB, nC, Ne.symm nb, Ne.symm nB, Ne.symm nC]) (fun hStayy => ?_)
      clear hK9 K
      (try simp only [Act.put, zA, zB, zC, zD, zE, zF])
      refine wpAnyT_take2 (i := 38) (v := ?_) rfl (by kernel_rfl) (by kernel_rfl) (by kernel_rfl) (by kernel_rfl) (fun _ _ _ h => h) (Or.inl ⟨by rfl, ?hyr138⟩) (fun h => Bool.noConfusion (Eq.trans (Eq.symm (show anyL _ _ = true by kernel_rfl)) h)) hStayy ?_
      case hyr138 => (intro w hSw; (try dsimp only at hSw); go_simp; try (with_reducible rfl))
      (try simp only [Act.put, zA, zB, zC, zD, zE, zF])
      refine wpAnyT_take2 (i := 39) (v := ?_) rfl (by kernel_rfl) (by kernel_rfl) (by kernel_rfl) (by kernel_rfl) (fun _ _ _ h => h) (Or.inl ⟨by rfl, ?hyr139⟩) (fun h => Bool.noConfusion (Eq.trans (Eq.symm (show anyL _ _ = true by kernel_rfl)) h)) hStayy ?_
      case hyr139 => (intro w hSw; (try dsimp only at hSw); go_simp; try (with_reducible rfl))
      (try simp only [Act.put, zA, zB, zC, zD, zE, zF])
      refine wpAnyT_take2 (i := 40) (v := ?_) rfl (by kernel_rfl) (by kernel_rfl) (by kernel_rfl) (by kernel_rfl) (fun _ _ _ h => h) (Or.inl ⟨by rfl, ?hyr140⟩) (fun h => Bool.noConfusion (Eq.trans (Eq.symm (show anyL _ _ = true by kernel_rfl)) h)) hStayy ?_
      case hyr140 => (intro w hSw; (try dsimp only at hSw); go_simp; try (with_reducible rfl))
      (try simp only [Act.put, zA, zB, zC, zD, zE, zF])
      refine wpAnyT_late (i := 41) (by kernel_rfl) rfl (by kernel_rfl) (fun K hK9 => ?_)
      go_simp
      refine hK9.out _ _ (by refine ⟨?_, ?_, ?_, ?_⟩ <;> simp [go_sem, q1, f3, f4, f5, nb, nB, nC, Ne.symm nb, Ne.symm nB, Ne.symm nC]) (fun hStayz => ?_)
      clear hK9 K
      (try simp only [Act.put, zA, zB, zC, zD, zE, zF])
      refine wpAnyT_done (by kernel_rfl) ?_ _
      (try simp only [Act.put, zA, zB, zC, zD, zE, zF])
      go_wp2_with fail
      obtain ⟨e1, e2, e3⟩ := HP.out
      simp only [Bool.false_or, Bool.true_or] at e1 e2 e3
      refine bodyPost_end (v := .tuple #[]) (by simp [results, Tryz.results69, go_sem]) rfl ⟨rfl, ?_, ?_⟩
      · rw [e1, e2, e3]
        exact (((HF.out.1.setAc 3 (by decide) (.bool p2)).setAc 4 (by decide) (.bool m2)).setAc 5 (by decide) (.bool true)).kept (Kept.refl _).drew
      · exact ((((((k0.trans HF.out.2).toGrw b).setCell _ _).setCell _ _).setCell _ _).trans ((Kept.refl _).drew.toGrw b))
    · go_upto_region 5 with fail
      refine wp_region_lateT [33, 37, 41] (fun u => (u.cell? ⟨b, 3, none⟩ = some (.bool false) ∧ u.cell? ⟨b, 4, none⟩ = some (.bool true) ∧ u.cell? ⟨b, 5, none⟩ = some (.bool false)) ∧ u.cell? ⟨w.heap.size, 0, none⟩ = some (.pointer (some ⟨b, 0, none⟩))) (fun u => u.cell? ⟨w.heap.size, 0, none⟩ = some (.pointer (some ⟨b, 0, none⟩)) ∧ u.cell? ⟨B, 3, none⟩ = some (.bool p2) ∧ u.cell? ⟨B, 4, none⟩ = some (.bool m2) ∧ u.cell? ⟨B, 5, none⟩ = some (.bool z2)) (by kernel_rfl) (by refine ⟨⟨?_, ?_, ?_⟩, ?_⟩ <;> simp [go_sem, q1, g3, g4, g5]) (by refine ⟨?_, ?_, ?_, ?_⟩ <;> simp [go_sem, q1, f3, f4, f5]) (fun hHeld hStay => ?_)
      refine wpAnyT_take2 (i := 0) (v := ?_) rfl (by kernel_rfl) (by kernel_rfl) (by kernel_rfl) (by kernel_rfl) (fun _ _ _ h => h) (Or.inl ⟨by rfl, ?hyr20⟩) (fun _ => hHeld) hStay ?_
      case hyr20 => (intro w hSw; (try dsimp only at hSw); go_simp; try (with_reducible rfl))
      (try simp only [Act.put, zA, zB, zC, zD, zE, zF])
      refine wpAnyT_take2 (i := 1) (v := ?_) rfl (by kernel_rfl) (by kernel_rfl) (by kernel_rfl) (by kernel_rfl) (fun _ _ _ h => h) (Or.inl ⟨by rfl, ?hyr21⟩) (fun _ => hHeld) hStay ?_
      case hyr21 => (intro w hSw; (try dsimp only at hSw); go_simp; try (with_reducible rfl))
      (try simp only [Act.put, zA, zB, zC, zD, zE, zF])
      refine wpAnyT_take2 (i := 2) (v := ?_) rfl (by kernel_rfl) (by kernel_rfl) (by kernel_rfl) (by kernel_rfl) (fun _ _ _ h => h) (Or.inl ⟨by rfl, ?hyr22⟩) (fun _ => hHeld) hStay ?_
      case hyr22 => (intro w hSw; (try dsimp only at hSw); go_simp; try (with_reducible rfl))
      (try simp only [Act.put, zA, zB, zC, zD, zE, zF])
      refine wpAnyT_take (i := 3) (v := ?_) rfl (by kernel_rfl) (by kernel_rfl) (by kernel_rfl) (by kernel_rfl) (fun _ _ _ h => h) (Or.inl ⟨by rfl, ?hyr23⟩) hHeld hStay ?_
      case hyr23 => (intro w hSw; (try dsimp only at hSw); go_simp; try (with_reducible rfl))
      (try simp only [Act.put, zA, zB, zC, zD, zE, zF])
      refine wpAnyT_take (i := 4) (v := ?_) rfl (by kernel_rfl) (by kernel_rfl) (by kernel_rfl) (by kernel_rfl) (fun _ _ _ h => h) (Or.inl ⟨by rfl, ?hyr24⟩) hHeld hStay ?_
      case hyr24 => (intro w hSw; (try dsimp only at hSw); go_simp; try (with_reducible rfl))
      (try simp only [Act.put, zA, zB, zC, zD, zE, zF])
      refine wpAnyT_take (i := 5) (v := ?_) rfl (by kernel_rfl) (by kernel_rfl) (by kernel_rfl) (by kernel_rfl) (fun _ _ _ h => h) (Or.inl ⟨by rfl, ?hyr25⟩) hHeld hStay ?_
      case hyr25 => (intro w hSw; (try dsimp only at hSw); go_simp; try (with_reducible rfl))
      (try simp only [Act.put, zA, zB, zC, zD, zE, zF])
      refine wpAnyT_take (i := 6) (v := ?_) rfl (by kernel_rfl) (by kernel_rfl) (by kernel_rfl) (by kernel_rfl) (fun _ _ _ h => h) (Or.inl ⟨by rfl, ?hyr26⟩) hHeld hStay ?_
      case hyr26 => (intro w hSw; (try dsimp only at hSw); go_simp; try (with_reducible rfl))
      (try simp only [Act.put, zA, zB, zC, zD, zE, zF])
      refine wpAnyT_take (i := 7) (v := ?_) rfl (by kernel_rfl) (by kernel_rfl) (by kernel_rfl) (by kernel_rfl) (fun _ _ _ h => h) (Or.inl ⟨by rfl, ?hyr27⟩) hHeld hStay ?_
      case hyr27 => (intro w hSw; (try dsimp only at hSw); go_simp; try (with_reducible rfl))
      (try simp only [Act.put, zA, zB, zC, zD, zE, zF])
      refine wpAnyT_take2 (i := 8) (v := ?_) rfl (by kernel_rfl) (by kernel_rfl) (by kernel_rfl) (by kernel_rfl) (fun _ _ _ h => h) (Or.inl ⟨by rfl, ?hyr28⟩) (fun _ => hHeld) hStay ?_
      case hyr28 => (intro w hSw; (try dsimp only at hSw); go_simp; try (with_reducible rfl))
      (try simp only [Act.put, zA, zB, zC, zD, zE, zF])
      refine wpAnyT_take2 (i := 9) (v := ?_) rfl (by kernel_rfl) (by kernel_rfl) (by kernel_rfl) (by kernel_rfl) (fun _ _ _ h => h) (Or.inl ⟨by rfl, ?hyr2a9⟩) (fun _ => hHeld) hStay ?_
      case hyr2a9 => (intro w hSw; (try dsimp only at hSw); go_simp; try (with_reducible rfl))
      (try simp only [Act.put, zA, zB, zC, zD, zE, zF])
      refine wpAnyT_take2 (i := 10) (v := ?_) rfl (by kernel_rfl) (by kernel_rfl) (by kernel_rfl) (by kernel_rfl) (fun _ _ _ h => h) (Or.inl ⟨by rfl, ?hyr2a10⟩) (fun _ => hHeld) hStay ?_
      case hyr2a10 => (intro w hSw; (try dsimp only at hSw); go_simp; try (with_reducible rfl))
      (try simp only [Act.put, zA, zB, zC, zD, zE, zF])
      refine wpAnyT_take2 (i := 11) (v := ?_) rfl (by kernel_rfl) (by kernel_rfl) (by kernel_rfl) (by kernel_rfl) (fun _ _ _ h => h) (Or.inl ⟨by rfl, ?hyr211⟩) (fun _ => hHeld) hStay ?_
      case hyr211 => (intro w hSw; (try dsimp only at hSw); go_simp; try (with_reducible rfl))
      (try simp only [Act.put, zA, zB, zC, zD, zE, zF])
      refine wpAnyT_take (i := 12) (v := ?_) rfl (by kernel_rfl) (by kernel_rfl) (by kernel_rfl) (by kernel_rfl) (fun _ _ _ h => h) (Or.inl ⟨by rfl, ?hyr212⟩) hHeld hStay ?_
      case hyr212 => (intro w hSw; (try dsimp only at hSw); go_simp; try (with_reducible rfl))
      (try simp only [Act.put, zA, zB, zC, zD, zE, zF])
      refine wpAnyT_take (i := 13) (v := ?_) rfl (by kernel_rfl) (by kernel_rfl) (by kernel_rfl) (by kernel_rfl) (fun _ _ _ h => h) (Or.inl ⟨by rfl, ?hyr213⟩) hHeld hStay ?_
      case hyr213 => (intro w hSw; (try dsimp only at hSw); go_simp; try (with_reducible rfl))
      (try simp only [Act.put, zA, zB, zC, zD, zE, zF])
      refine wpAnyT_take (i := 14) (v := ?_) rfl (by kernel_rfl) (by kernel_rfl) (by kernel_rfl) (by kernel_rfl) (fun _ _ _ h => h) (Or.inl ⟨by rfl, ?hyr214⟩) hHeld hStay ?_
      case hyr214 => (intro w hSw; (try dsimp only at hSw); go_simp; try (with_reducible rfl))
      (try simp only [Act.put, zA, zB, zC, zD, zE, zF])
      refine wpAnyT_take (i := 15) (v := ?_) rfl (by kernel_rfl) (by kernel_rfl) (by kernel_rfl) (by kernel_rfl) (fun _ _ _ h => h) (Or.inl ⟨by rfl, ?hyr215⟩) hHeld hStay ?_
      case hyr215 => (intro w hSw; (try dsimp only at hSw); go_simp; try (with_reducible rfl))
      (try simp only [Act.put, zA, zB, zC, zD, zE, zF])
      refine wpAnyT_take (i := 16) (v := ?_) rfl (by kernel_rfl) (by kernel_rfl) (by kernel_rfl) (by kernel_rfl) (fun _ _ _ h => h) (Or.inl ⟨by rfl, ?hyr216⟩) hHeld hStay ?_
      case hyr216 => (intro w hSw; (try dsimp only at hSw); go_simp; try (with_reducible rfl))
      (try simp only [Act.put, zA, zB, zC, zD, zE, zF])
      refine wpAnyT_take2 (i := 17) (v := ?_) rfl (by kernel_rfl) (by kernel_rfl) (by kernel_rfl) (by kernel_rfl) (fun _ _ _ h => h) (Or.inl ⟨by rfl, ?hyr217⟩) (fun _ => hHeld) hStay ?_
      case hyr217 => (intro w hSw; (try dsimp only at hSw); go_simp; try (with_reducible rfl))
      (try simp only [Act.put, zA, zB, zC, zD, zE, zF])
      refine wpAnyT_take2 (i := 18) (v := undef) rfl (by kernel_rfl) (by kernel_rfl) (by kernel_rfl) (by kernel_rfl) (fun _ _ _ h => h) (Or.inr ⟨by rfl, rfl⟩) (fun _ => hHeld) hStay ?_
      (try simp only [Act.put, zA, zB, zC, zD, zE, zF])
      refine wpAnyT_take2 (i := 19) (v := undef) rfl (by kernel_rfl) (by kernel_rfl) (by kernel_rfl) (by kernel_rfl) (fun _ _ _ h => h) (Or.inr ⟨by rfl, rfl⟩) (fun _ => hHeld) hStay ?_
      (try simp only [Act.put, zA, zB, zC, zD, zE, zF])
      refine wpAnyT_take2 (i := 20) (v := ?_) rfl (by kernel_rfl) (by kernel_rfl) (by kernel_rfl) (by kernel_rfl) (fun _ _ _ h => h) (Or.inl ⟨by rfl, ?hyr220⟩) (fun _ => hHeld) hStay ?_
      case hyr220 => (intro w hSw; (try dsimp only at hSw); go_simp; try (with_reducible rfl))
      (try simp only [Act.put, zA, zB, zC, zD, zE, zF])
      refine wpAnyT_take (i := 21) (v := ?_) rfl (by kernel_rfl) (by kernel_rfl) (by kernel_rfl) (by kernel_rfl) (fun _ _ _ h => h) (Or.inl ⟨by rfl, ?hyr221⟩) hHeld hStay ?_
      case hyr221 => (intro w hSw; (try dsimp only at hSw); go_simp; try (with_reducible rfl))
      (try simp only [Act.put, zA, zB, zC, zD, zE, zF])
      refine wpAnyT_take (i := 22) (v := ?_) rfl (by kernel_rfl) (by kernel_rfl) (by kernel_rfl) (by kernel_rfl) (fun _ _ _ h => h) (Or.inl ⟨by rfl, ?hyr222⟩) hHeld hStay ?_
      case hyr222 => (intro w hSw; (try dsimp only at hSw); go_simp; try (with_reducible rfl))
      (try simp only [Act.put, zA, zB, zC, zD, zE, zF])
      refine wpAnyT_take (i := 23) (v := ?_) rfl (by kernel_rfl) (by kernel_rfl) (by kernel_rfl) (by kernel_rfl) (fun _ _ _ h => h) (Or.inl ⟨by rfl, ?hyr223⟩) hHeld hStay ?_
      case hyr223 => (intro w hSw; (try dsimp only at hSw); go_simp; try (with_reducible rfl))
      (try simp only [Act.put, zA, zB, zC, zD, zE, zF])
      refine wpAnyT_take (i := 24) (v := ?_) rfl (by kernel_rfl) (by kernel_rfl) (by kernel_rfl) (by kernel_rfl) (fun _ _ _ h => h) (Or.inl ⟨by rfl, ?hyr224⟩) hHeld hStay ?_
      case hyr224 => (intro w hSw; (try dsimp only at hSw); go_simp; try (with_reducible rfl))
      (try simp only [Act.put, zA, zB, zC, zD, zE, zF])
      refine wpAnyT_take (i := 25) (v := ?_) rfl (by kernel_rfl) (by kernel_rfl) (by kernel_rfl) (by kernel_rfl) (fun _ _ _ h => h) (Or.inl ⟨by rfl, ?hyr225⟩) hHeld hStay ?_
      case hyr225 => (intro w hSw; (try dsimp only at hSw); go_simp; try (with_reducible rfl))
      (try simp only [Act.put, zA, zB, zC, zD, zE, zF])
      refine wpAnyT_take2 (i := 26) (v := ?_) rfl (by kernel_rfl) (by kernel_rfl) (by kernel_rfl) (by kernel_rfl) (fun _ _ _ h => h) (Or.inl ⟨by rfl, ?hyr226⟩) (fun _ => hHeld) hStay ?_
      case hyr226 => (intro w hSw; (try dsimp only at hSw); go_simp; try (with_reducible rfl))
      (try simp only [Act.put, zA, zB, zC, zD, zE, zF])
      refine wpAnyT_take2 (i := 27) (v := ?_) rfl (by kernel_rfl) (by kernel_rfl) (by kernel_rfl) (by kernel_rfl) (fun _ _ _ h => h) (Or.inl ⟨by rfl, ?hyr2c27⟩) (fun _ => hHeld) hStay ?_
      case hyr2c27 => (intro w hSw; (try dsimp only at hSw); go_simp; try (with_reducible rfl))
      (try simp only [Act.put, zA, zB, zC, zD, zE, zF])
      refine wpAnyT_take2 (i := 28) (v := ?_) rfl (by kernel_rfl) (by kernel_rfl) (by kernel_rfl) (by kernel_rfl) (fun _ _ _ h => h) (Or.inl ⟨by rfl, ?hyr2c28⟩) (fun _ => hHeld) hStay ?_
      case hyr2c28 => (intro w hSw; (try dsimp only at hSw); go_simp; try (with_reducible rfl))
      (try simp only [Act.put, zA, zB, zC, zD, zE, zF])
      refine wpAnyT_take2 (i := 29) (v := ?_) rfl (by kernel_rfl) (by kernel_rfl) (by kernel_rfl) (by kernel_rfl) (fun _ _ _ h => h) (Or.inl ⟨by rfl, ?hyr229⟩) (fun _ => hHeld) hStay ?_
      case hyr229 => (intro w hSw; (try dsimp only at hSw); go_simp; try (with_reducible rfl))
      (try simp only [Act.put, zA, zB, zC, zD, zE, zF])
      refine wpAnyT_take2 (i := 30) (v := ?_) rfl (by kernel_rfl) (by kernel_rfl) (by kernel_rfl) (by kernel_rfl) (fun _ _ _ h => h) (Or.inl ⟨by rfl, ?hyr230⟩) (fun _ => hHeld) hStay ?_
      case hyr230 => (intro w hSw; (try dsimp only at hSw); go_simp; try (with_reducible rfl))
      (try simp only [Act.put, zA, zB, zC, zD, zE, zF])
      refine wpAnyT_take2 (i := 31) (v := ?_) rfl (by kernel_rfl) (by kernel_rfl) (by kernel_rfl) (by kernel_rfl) (fun _ _ _ h => h) (Or.inl ⟨by rfl, ?hyr231⟩) (fun _ => hHeld) hStay ?_
      case hyr231 => (intro w hSw; (try dsimp only at hSw); go_simp; try (with_reducible rfl))
      (try simp only [Act.put, zA, zB, zC, zD, zE, zF])
      refine wpAnyT_take2 (i := 32) (v := ?_) rfl (by kernel_rfl) (by kernel_rfl) (by kernel_rfl) (by kernel_rfl) (fun _ _ _ h => h) (Or.inl ⟨by rfl, ?hyr232⟩) (fun _ => hHeld) hStay ?_
      case hyr232 => (intro w hSw; (try dsimp only at hSw); go_simp; try (with_reducible rfl))
      (try simp only [Act.put, zA, zB, zC, zD, zE, zF])
      refine wpAnyT_late (i := 33) (by kernel_rfl) rfl (by kernel_rfl) (fun K hK9 => ?_)
      go_simp
      refine hK9.out _ _ (by refine ⟨?_, ?_, ?_, ?_⟩ <;> simp [go_sem, q1, f3, f4, f5, nb, nB, nC, Ne.symm nb, Ne.symm nB, Ne.symm nC]) (fun hStayx => ?_)
      clear hK9 K
      (try simp only [Act.put, zA, zB, zC, zD, zE, zF])
      refine wpAnyT_take2 (i := 34) (v := ?_) rfl (by kernel_rfl) (by kernel_rfl) (by kernel_rfl) (by kernel_rfl) (fun _ _ _ h => h) (Or.inl ⟨by rfl, ?hyr234⟩) (fun h => Bool.noConfusion (Eq.trans (Eq.symm (show anyL _ _ = true by kernel_rfl)) h)) hStayx ?_
      case hyr234 => (intro w hSw; (try dsimp only at hSw); go_simp; try (with_reducible rfl))
      (try simp only [Act.put, zA, zB, zC, zD, zE, zF])
      refine wpAnyT_take2 (i := 35) (v := ?_) rfl (by kernel_rfl) (by kernel_rfl) (by kernel_rfl) (by kernel_rfl) (fun _ _ _ h => h) (Or.inl ⟨by rfl, ?hyr235⟩) (fun h => Bool.noConfusion (Eq.trans (Eq.symm (show anyL _ _ = true by kernel_rfl)) h)) hStayx ?_
      case hyr235 => (intro w hSw; (try dsimp only at hSw); go_simp; try (with_reducible rfl))
      (try simp only [Act.put, zA, zB, zC, zD, zE, zF])
      refine wpAnyT_take2 (i := 36) (v := ?_) rfl (by kernel_rfl) (by kernel_rfl) (by kernel_rfl) (by kernel_rfl) (fun _ _ _ h => h) (Or.inl ⟨by rfl, ?hyr236⟩) (fun h => Bool.noConfusion (Eq.trans (Eq.symm (show anyL _ _ = true by kernel_rfl)) h)) hStayx ?_
      case hyr236 => (intro w hSw; (try dsimp only at hSw); go_simp; try (with_reducible rfl))
      (try simp only [Act.put, zA, zB, zC, zD, zE, zF])
      refine wpAnyT_late (i := 37) (by kernel_rfl) rfl (by kernel_rfl) (fun K hK9 => ?_)
      go_simp
      refine hK9.out _ _ (by refine ⟨?_, ?_, ?_, ?_⟩ <;> simp [go_sem, q1, f3, f4, f5, nb, nB, nC, Ne.symm nb, Ne.symm nB, Ne.symm nC]) (fun hStayy => ?_)
      clear hK9 K
      (try simp only [Act.put, zA, zB, zC, zD, zE, zF])
      refine wpAnyT_take2 (i := 38) (v := ?_) rfl (by kernel_rfl) (by kernel_rfl) (by kernel_rfl) (by kernel_rfl) (fun _ _ _ h => h) (Or.inl ⟨by rfl, ?hyr238⟩) (fun h => Bool.noConfusion (Eq.trans (Eq.symm (show anyL _ _ = true by kernel_rfl)) h)) hStayy ?_
      case hyr238 => (intro w hSw; (try dsimp only at hSw); go_simp; try (with_reducible rfl))
      (try simp only [Act.put, zA, zB, zC, zD, zE, zF])
      refine wpAnyT_take2 (i := 39) (v := ?_) rfl (by kernel_rfl) (by kernel_rfl) (by kernel_rfl) (by kernel_rfl) (fun _ _ _ h => h) (Or.inl ⟨by rfl, ?hyr239⟩) (fun h => Bool.noConfusion (Eq.trans (Eq.symm (show anyL _ _ = true by kernel_rfl)) h)) hStayy ?_
      case hyr239 => (intro w hSw; (try dsimp only at hSw); go_simp; try (with_reducible rfl))
      (try simp only [Act.put, zA, zB, zC, zD, zE, zF])
      refine wpAnyT_take2 (i := 40) (v := ?_) rfl (by kernel_rfl) (by kernel_rfl) (by kernel_rfl) (by kernel_rfl) (fun _ _ _ h => h) (Or.inl ⟨by rfl, ?hyr240⟩) (fun h => Bool.noConfusion (Eq.trans (Eq.symm (show anyL _ _ = true by kernel_rfl)) h)) hStayy ?_
      case hyr240 => (intro w hSw; (try dsimp only at hSw); go_simp; try (with_reducible rfl))
      (try simp only [Act.put, zA, zB, zC, zD, zE, zF])
      refine wpAnyT_late (i := 41) (by kernel_rfl) rfl (by kernel_rfl) (fun K hK9 => ?_)
      go_simp
      refine hK9.out _ _ (by refine ⟨?_, ?_, ?_, ?_⟩ <;> simp [go_sem, q1, f3, f4, f5, nb, nB, nC, Ne.symm nb, Ne.symm nB, Ne.symm nC]) (fun hStayz => ?_)
      clear hK9 K
      (try simp only [Act.put, zA, zB, zC, zD, zE, zF])
      refine wpAnyT_done (by kernel_rfl) ?_ _
      (try simp only [Act.put, zA, zB, zC, zD, zE, zF])
      go_wp2_with fail
      obtain ⟨e1, e2, e3⟩ := HP.out
      simp only [Bool.false_or, Bool.true_or] at e1 e2 e3
      refine bodyPost_end (v := .tuple #[]) (by simp [results, Tryz.results69, go_sem]) rfl ⟨rfl, ?_, ?_⟩
      · rw [e1, e2, e3]
        exact (((HF.out.1.setAc 3 (by decide) (.bool p2)).setAc 4 (by decide) (.bool true)).setAc 5 (by decide) (.bool z2)).kept (Kept.refl _).drew
      · exact ((((((k0.trans HF.out.2).toGrw b).setCell _ _).setCell _ _).setCell _ _).trans ((Kept.refl _).drew.toGrw b))
    · go_upto_region 5 with fail
      refine wp_region_lateT [33, 37, 41] (fun u => (u.cell? ⟨b, 3, none⟩ = some (.bool false) ∧ u.cell? ⟨b, 4, none⟩ = some (.bool true) ∧ u.cell? ⟨b, 5, none⟩ = some (.bool true)) ∧ u.cell? ⟨w.heap.size, 0, none⟩ = some (.pointer (some ⟨b, 0, none⟩))) (fun u => u.cell? ⟨w.heap.size, 0, none⟩ = some (.pointer (some ⟨b, 0, none⟩)) ∧ u.cell? ⟨B, 3, none⟩ = some (.bool p2) ∧ u.cell? ⟨B, 4, none⟩ = some (.bool m2) ∧ u.cell? ⟨B, 5, none⟩ = some (.bool z2)) (by kernel_rfl) (by refine ⟨⟨?_, ?_, ?_⟩, ?_⟩ <;> simp [go_sem, q1, g3, g4, g5]) (by refine ⟨?_, ?_, ?_, ?_⟩ <;> simp [go_sem, q1, f3, f4, f5]) (fun hHeld hStay => ?_)
      refine wpAnyT_take2 (i := 0) (v := ?_) rfl (by kernel_rfl) (by kernel_rfl) (by kernel_rfl) (by kernel_rfl) (fun _ _ _ h => h) (Or.inl ⟨by rfl, ?hyr30⟩) (fun _ => hHeld) hStay ?_
      case hyr30 => (intro w hSw; (try dsimp only at hSw); go_simp; try (with_reducible rfl))
      (try simp only [Act.put, zA, zB, zC, zD, zE, zF])
      refine wpAnyT_take2 (i := 1) (v := ?_) rfl (by kernel_rfl) (by kernel_rfl) (by kernel_rfl) (by kernel_rfl) (fun _ _ _ h => h) (Or.inl ⟨by rfl, ?hyr31⟩) (fun _ => hHeld) hStay ?_
      case hyr31 => (intro w hSw; (try dsimp only at hSw); go_simp; try (with_reducible rfl))
      (try simp only [Act.put, zA, zB, zC, zD, zE, zF])
      refine wpAnyT_take2 (i := 2) (v := ?_) rfl (by kernel_rfl) (by kernel_rfl) (by kernel_rfl) (by kernel_rfl) (fun _ _ _ h => h) (Or.inl ⟨by rfl, ?hyr32⟩) (fun _ => hHeld) hStay ?_
      case hyr32 => (intro w hSw; (try dsimp only at hSw); go_simp; try (with_reducible rfl))
      (try simp only [Act.put, zA, zB, zC, zD, zE, zF])
      refine wpAnyT_take (i := 3) (v := ?_) rfl (by kernel_rfl) (by kernel_rfl) (by kernel_rfl) (by kernel_rfl) (fun _ _ _ h => h) (Or.inl ⟨by rfl, ?hyr33⟩) hHeld hStay ?_
      case hyr33 => (intro w hSw; (try dsimp only at hSw); go_simp; try (with_reducible rfl))
      (try simp only [Act.put, zA, zB, zC, zD, zE, zF])
      refine wpAnyT_take (i := 4) (v := ?_) rfl (by kernel_rfl) (by kernel_rfl) (by kernel_rfl) (by kernel_rfl) (fun _ _ _ h => h) (Or.inl ⟨by rfl, ?hyr34⟩) hHeld hStay ?_
      case hyr34 => (intro w hSw; (try dsimp only at hSw); go_simp; try (with_reducible rfl))
      (try simp only [Act.put, zA, zB, zC, zD, zE, zF])
      refine wpAnyT_take (i := 5) (v := ?_) rfl (by kernel_rfl) (by kernel_rfl) (by kernel_rfl) (by kernel_rfl) (fun _ _ _ h => h) (Or.inl ⟨by rfl, ?hyr35⟩) hHeld hStay ?_
      case hyr35 => (intro w hSw; (try dsimp only at hSw); go_simp; try (with_reducible rfl))
      (try simp only [Act.put, zA, zB, zC, zD, zE, zF])
      refine wpAnyT_take (i := 6) (v := ?_) rfl (by kernel_rfl) (by kernel_rfl) (by kernel_rfl) (by kernel_rfl) (fun _ _ _ h => h) (Or.inl ⟨by rfl, ?hyr36⟩) hHeld hStay ?_
      case hyr36 => (intro w hSw; (try dsimp only at hSw); go_simp; try (with_reducible rfl))
      (try simp only [Act.put, zA, zB, zC, zD, zE, zF])
      refine wpAnyT_take (i := 7) (v := ?_) rfl (by kernel_rfl) (by kernel_rfl) (by kernel_rfl) (by kernel_rfl) (fun _ _ _ h => h) (Or.inl ⟨by rfl, ?hyr37⟩) hHeld hStay ?_
      case hyr37 => (intro w hSw; (try dsimp only at hSw); go_simp; try (with_reducible rfl))
      (try simp only [Act.put, zA, zB, zC, zD, zE, zF])
      refine wpAnyT_take2 (i := 8) (v := ?_) rfl (by kernel_rfl) (by kernel_rfl) (by kernel_rfl) (by kernel_rfl) (fun _ _ _ h => h) (Or.inl ⟨by rfl, ?hyr38⟩) (fun _ => hHeld) hStay ?_
      case hyr38 => (intro w hSw; (try dsimp only at hSw); go_simp; try (with_reducible rfl))
      (try simp only [Act.put, zA, zB, zC, zD, zE, zF])
      refine wpAnyT_take2 (i := 9) (v := ?_) rfl (by kernel_rfl) (by kernel_rfl) (by kernel_rfl) (by kernel_rfl) (fun _ _ _ h => h) (Or.inl ⟨by rfl, ?hyr3a9⟩) (fun _ => hHeld) hStay ?_
      case hyr3a9 => (intro w hSw; (try dsimp only at hSw); go_simp; try (with_reducible rfl))
      (try simp only [Act.put, zA, zB, zC, zD, zE, zF])
      refine wpAnyT_take2 (i := 10) (v := ?_) rfl (by kernel_rfl) (by kernel_rfl) (by kernel_rfl) (by kernel_rfl) (fun _ _ _ h => h) (Or.inl ⟨by rfl, ?hyr3a10⟩) (fun _ => hHeld) hStay ?_
      case hyr3a10 => (intro w hSw; (try dsimp only at hSw); go_simp; try (with_reducible rfl))
      (try simp only [Act.put, zA, zB, zC, zD, zE, zF])
      refine wpAnyT_take2 (i := 11) (v := ?_) rfl (by kernel_rfl) (by kernel_rfl) (by kernel_rfl) (by kernel_rfl) (fun _ _ _ h => h) (Or.inl ⟨by rfl, ?hyr311⟩) (fun _ => hHeld) hStay ?_
      case hyr311 => (intro w hSw; (try dsimp only at hSw); go_simp; try (with_reducible rfl))
      (try simp only [Act.put, zA, zB, zC, zD, zE, zF])
      refine wpAnyT_take (i := 12) (v := ?_) rfl (by kernel_rfl) (by kernel_rfl) (by kernel_rfl) (by kernel_rfl) (fun _ _ _ h => h) (Or.inl ⟨by rfl, ?hyr312⟩) hHeld hStay ?_
      case hyr312 => (intro w hSw; (try dsimp only at hSw); go_simp; try (with_reducible rfl))
      (try simp only [Act.put, zA, zB, zC, zD, zE, zF])
      refine wpAnyT_take (i := 13) (v := ?_) rfl (by kernel_rfl) (by kernel_rfl) (by kernel_rfl) (by kernel_rfl) (fun _ _ _ h => h) (Or.inl ⟨by rfl, ?hyr313⟩) hHeld hStay ?_
      case hyr313 => (intro w hSw; (try dsimp only at hSw); go_simp; try (with_reducible rfl))
      (try simp only [Act.put, zA, zB, zC, zD, zE, zF])
      refine wpAnyT_take (i := 14) (v := ?_) rfl (by kernel_rfl) (by kernel_rfl) (by kernel_rfl) (by kernel_rfl) (fun _ _ _ h => h) (Or.inl ⟨by rfl, ?hyr314⟩) hHeld hStay ?_
      case hyr314 => (intro w hSw; (try dsimp only at hSw); go_simp; try (with_reducible rfl))
      (try simp only [Act.put, zA, zB, zC, zD, zE, zF])
      refine wpAnyT_take (i := 15) (v := ?_) rfl (by kernel_rfl) (by kernel_rfl) (by kernel_rfl) (by kernel_rfl) (fun _ _ _ h => h) (Or.inl ⟨by rfl, ?hyr315⟩) hHeld hStay ?_
      case hyr315 => (intro w hSw; (try dsimp only at hSw); go_simp; try (with_reducible rfl))
      (try simp only [Act.put, zA, zB, zC, zD, zE, zF])
      refine wpAnyT_take (i := 16) (v := ?_) rfl (by kernel_rfl) (by kernel_rfl) (by kernel_rfl) (by kernel_rfl) (fun _ _ _ h => h) (Or.inl ⟨by rfl, ?hyr316⟩) hHeld hStay ?_
      case hyr316 => (intro w hSw; (try dsimp only at hSw); go_simp; try (with_reducible rfl))
      (try simp only [Act.put, zA, zB, zC, zD, zE, zF])
      refine wpAnyT_take2 (i := 17) (v := ?_) rfl (by kernel_rfl) (by kernel_rfl) (by kernel_rfl) (by kernel_rfl) (fun _ _ _ h => h) (Or.inl ⟨by rfl, ?hyr317⟩) (fun _ => hHeld) hStay ?_
      case hyr317 => (intro w hSw; (try dsimp only at hSw); go_simp; try (with_reducible rfl))
      (try simp only [Act.put, zA, zB, zC, zD, zE, zF])
      refine wpAnyT_take2 (i := 18) (v := undef) rfl (by kernel_rfl) (by kernel_rfl) (by kernel_rfl) (by kernel_rfl) (fun _ _ _ h => h) (Or.inr ⟨by rfl, rfl⟩) (fun _ => hHeld) hStay ?_
      (try simp only [Act.put, zA, zB, zC, zD, zE, zF])
      refine wpAnyT_take2 (i := 19) (v := undef) rfl (by kernel_rfl) (by kernel_rfl) (by kernel_rfl) (by kernel_rfl) (fun _ _ _ h => h) (Or.inr ⟨by rfl, rfl⟩) (fun _ => hHeld) hStay ?_
      (try simp only [Act.put, zA, zB, zC, zD, zE, zF])
      refine wpAnyT_take2 (i := 20) (v := ?_) rfl (by kernel_rfl) (by kernel_rfl) (by kernel_rfl) (by kernel_rfl) (fun _ _ _ h => h) (Or.inl ⟨by rfl, ?hyr320⟩) (fun _ => hHeld) hStay ?_
      case hyr320 => (intro w hSw; (try dsimp only at hSw); go_simp; try (with_reducible rfl))
      (try simp only [Act.put, zA, zB, zC, zD, zE, zF])
      refine wpAnyT_take (i := 21) (v := ?_) rfl (by kernel_rfl) (by kernel_rfl) (by kernel_rfl) (by kernel_rfl) (fun _ _ _ h => h) (Or.inl ⟨by rfl, ?hyr321⟩) hHeld hStay ?_
      case hyr321 => (intro w hSw; (try dsimp only at hSw); go_simp; try (with_reducible rfl))
      (try simp only [Act.put, zA, zB, zC, zD, zE, zF])
      refine wpAnyT_take (i := 22) (v := ?_) rfl (by kernel_rfl) (by kernel_rfl) (by kernel_rfl) (by kernel_rfl) (fun _ _ _ h => h) (Or.inl ⟨by rfl, ?hyr322⟩) hHeld hStay ?_
      case hyr322 => (intro w hSw; (try dsimp only at hSw); go_simp; try (with_reducible rfl))
      (try simp only [Act.put, zA, zB, zC, zD, zE, zF])
      refine wpAnyT_take (i := 23) (v := ?_) rfl (by kernel_rfl) (by kernel_rfl) (by kernel_rfl) (by kernel_rfl) (fun _ _ _ h => h) (Or.inl ⟨by rfl, ?hyr323⟩) hHeld hStay ?_
      case hyr323 => (intro w hSw; (try dsimp only at hSw); go_simp; try (with_reducible rfl))
      (try simp only [Act.put, zA, zB, zC, zD, zE, zF])
      refine wpAnyT_take (i := 24) (v := ?_) rfl (by kernel_rfl) (by kernel_rfl) (by kernel_rfl) (by kernel_rfl) (fun _ _ _ h => h) (Or.inl ⟨by rfl, ?hyr324⟩) hHeld hStay ?_
      case hyr324 => (intro w hSw; (try dsimp only at hSw); go_simp; try (with_reducible rfl))
      (try simp only [Act.put, zA, zB, zC, zD, zE, zF])
      refine wpAnyT_take (i := 25) (v := ?_) rfl (by kernel_rfl) (by kernel_rfl) (by kernel_rfl) (by kernel_rfl) (fun _ _ _ h => h) (Or.inl ⟨by rfl, ?hyr325⟩) hHeld hStay ?_
      case hyr325 => (intro w hSw; (try dsimp only at hSw); go_simp; try (with_reducible rfl))
      (try simp only [Act.put, zA, zB, zC, zD, zE, zF])
      refine wpAnyT_take2 (i := 26) (v := ?_) rfl (by kernel_rfl) (by kernel_rfl) (by kernel_rfl) (by kernel_rfl) (fun _ _ _ h => h) (Or.inl ⟨by rfl, ?hyr326⟩) (fun _ => hHeld) hStay ?_
      case hyr326 => (intro w hSw; (try dsimp only at hSw); go_simp; try (with_reducible rfl))
      (try simp only [Act.put, zA, zB, zC, zD, zE, zF])
      refine wpAnyT_take2 (i := 27) (v := undef) rfl (by kernel_rfl) (by kernel_rfl) (by kernel_rfl) (by kernel_rfl) (fun _ _ _ h => h) (Or.inr ⟨by rfl, rfl⟩) (fun _ => hHeld) hStay ?_
      (try simp only [Act.put, zA, zB, zC, zD, zE, zF])
      refine wpAnyT_take2 (i := 28) (v := undef) rfl (by kernel_rfl) (by kernel_rfl) (by kernel_rfl) (by kernel_rfl) (fun _ _ _ h => h) (Or.inr ⟨by rfl, rfl⟩) (fun _ => hHeld) hStay ?_
      (try simp only [Act.put, zA, zB, zC, zD, zE, zF])
      refine wpAnyT_take2 (i := 29) (v := ?_) rfl (by kernel_rfl) (by kernel_rfl) (by kernel_rfl) (by kernel_rfl) (fun _ _ _ h => h) (Or.inl ⟨by rfl, ?hyr329⟩) (fun _ => hHeld) hStay ?_
      case hyr329 => (intro w hSw; (try dsimp only at hSw); go_simp; try (with_reducible rfl))
      (try simp only [Act.put, zA, zB, zC, zD, zE, zF])
      refine wpAnyT_take2 (i := 30) (v := ?_) rfl (by kernel_rfl) (by kernel_rfl) (by kernel_rfl) (by kernel_rfl) (fun _ _ _ h => h) (Or.inl ⟨by rfl, ?hyr330⟩) (fun _ => hHeld) hStay ?_
      case hyr330 => (intro w hSw; (try dsimp only at hSw); go_simp; try (with_reducible rfl))
      (try simp only [Act.put, zA, zB, zC, zD, zE, zF])
      refine wpAnyT_take2 (i := 31) (v := ?_) rfl (by kernel_rfl) (by kernel_rfl) (by kernel_rfl) (by kernel_rfl) (fun _ _ _ h => h) (Or.inl ⟨by rfl, ?hyr331⟩) (fun _ => hHeld) hStay ?_
      case hyr331 => (intro w hSw; (try dsimp only at hSw); go_simp; try (with_reducible rfl))
      (try simp only [Act.put, zA, zB, zC, zD, zE, zF])
      refine wpAnyT_take2 (i := 32) (v := ?_) rfl (by kernel_rfl) (by kernel_rfl) (by kernel_rfl) (by kernel_rfl) (fun _ _ _ h => h) (Or.inl ⟨by rfl, ?hyr332⟩) (fun _ => hHeld) hStay ?_
      case hyr332 => (intro w hSw; (try dsimp only at hSw); go_simp; try (with_reducible rfl))
      (try simp only [Act.put, zA, zB, zC, zD, zE, zF])
      refine wpAnyT_late (i := 33) (by kernel_rfl) rfl (by kernel_rfl) (fun K hK9 => ?_)
      go_simp
      refine hK9.out _ _ (by refine ⟨?_, ?_, ?_, ?_⟩ <;> simp [go_sem, q1, f3, f4, f5, nb, nB, nC, Ne.symm nb, Ne.symm nB, Ne.symm nC]) (fun hStayx => ?_)
      clear hK9 K
      (try simp only [Act.put, zA, zB, zC, zD, zE, zF])
      refine wpAnyT_take2 (i := 34) (v := ?_) rfl (by kernel_rfl) (by kernel_rfl) (by kernel_rfl) (by kernel_rfl) (fun _ _ _ h => h) (Or.inl ⟨by rfl, ?hyr334⟩) (fun h => Bool.noConfusion (Eq.trans (Eq.symm (show anyL _ _ = true by kernel_rfl)) h)) hStayx ?_
      case hyr334 => (intro w hSw; (try dsimp only at hSw); go_simp; try (with_reducible rfl))
      (try simp only [Act.put, zA, zB, zC, zD, zE, zF])
      refine wpAnyT_take2 (i := 35) (v := ?_) rfl (by kernel_rfl) (by kernel_rfl) (by kernel_rfl) (by kernel_rfl) (fun _ _ _ h => h) (Or.inl ⟨by rfl, ?hyr335⟩) (fun h => Bool.noConfusion (Eq.trans (Eq.symm (show anyL _ _ = true by kernel_rfl)) h)) hStayx ?_
      case hyr335 => (intro w hSw; (try dsimp only at hSw); go_simp; try (with_reducible rfl))
      (try simp only [Act.put, zA, zB, zC, zD, zE, zF])
      refine wpAnyT_take2 (i := 36) (v := ?_) rfl (by kernel_rfl) (by kernel_rfl) (by kernel_rfl) (by kernel_rfl) (fun _ _ _ h => h) (Or.inl ⟨by rfl, ?hyr336⟩) (fun h => Bool.noConfusion (Eq.trans (Eq.symm (show anyL _ _ = true by kernel_rfl)) h)) hStayx ?_
      case hyr336 => (intro w hSw; (try dsimp only at hSw); go_simp; try (with_reducible rfl))
      (try simp only [Act.put, zA, zB, zC, zD, zE, zF])
      refine wpAnyT_late (i := 37) (by kernel_rfl) rfl (by kernel_rfl) (fun K hK9 => ?_)
      go_simp
      refine hK9.out _ _ (by refine ⟨?_, ?_, ?_, ?_⟩ <;> simp [go_sem, q1, f3, f4, f5, nb, nB, nC, Ne.symm nb, Ne.symm nB, Ne.symm nC]) (fun hStayy => ?_)
      clear hK9 K
      (try simp only [Act.put, zA, zB, zC, zD, zE, zF])
      refine wpAnyT_take2 (i := 38) (v := ?_) rfl (by kernel_rfl) (by kernel_rfl) (by kernel_rfl) (by kernel_rfl) (fun _ _ _ h => h) (Or.inl ⟨by rfl, ?hyr338⟩) (fun h => Bool.noConfusion (Eq.trans (Eq.symm (show anyL _ _ = true by kernel_rfl)) h)) hStayy ?_
      case hyr338 => (intro w hSw; (try dsimp only at hSw); go_simp; try (with_reducible rfl))
      (try simp only [Act.put, zA, zB, zC, zD, zE, zF])
      refine wpAnyT_take2 (i := 39) (v := ?_) rfl (by kernel_rfl) (by kernel_rfl) (by kernel_rfl) (by kernel_rfl) (fun _ _ _ h => h) (Or.inl ⟨by rfl, ?hyr339⟩) (fun h => Bool.noConfusion (Eq.trans (Eq.symm (show anyL _ _ = true by kernel_rfl)) h)) hStayy ?_
      case hyr339 => (intro w hSw; (try dsimp only at hSw); go_simp; try (with_reducible rfl))
      (try simp only [Act.put, zA, zB, zC, zD, zE, zF])
      refine wpAnyT_take2 (i := 40) (v := ?_) rfl (by kernel_rfl) (by kernel_rfl) (by kernel_rfl) (by kernel_rfl) (fun _ _ _ h => h) (Or.inl ⟨by rfl, ?hyr340⟩) (fun h => Bool.noConfusion (Eq.trans (Eq.symm (show anyL _ _ = true by kernel_rfl)) h)) hStayy ?_
      case hyr340 => (intro w hSw; (try dsimp only at hSw); go_simp; try (with_reducible rfl))
      (try simp only [Act.put, zA, zB, zC, zD, zE, zF])
      refine wpAnyT_late (i := 41) (by kernel_rfl) rfl (by kernel_rfl) (fun K hK9 => ?_)
      go_simp
      refine hK9.out _ _ (by refine ⟨?_, ?_, ?_, ?_⟩ <;> simp [go_sem, q1, f3, f4, f5, nb, nB, nC, Ne.symm nb, Ne.symm nB, Ne.symm nC]) (fun hStayz => ?_)
      clear hK9 K
      (try simp only [Act.put, zA, zB, zC, zD, zE, zF])
      refine wpAnyT_done (by kernel_rfl) ?_ _
      (try simp only [Act.put, zA, zB, zC, zD, zE, zF])
      go_wp2_with fail
      obtain ⟨e1, e2, e3⟩ := HP.out
      simp only [Bool.false_or, Bool.true_or] at e1 e2 e3
      refine bodyPost_end (v := .tuple #[]) (by simp [results, Tryz.results69, go_sem]) rfl ⟨rfl, ?_, ?_⟩
      · rw [e1, e2, e3]
        exact (((HF.out.1.setAc 3 (by decide) (.bool p2)).setAc 4 (by decide) (.bool true)).setAc 5 (by decide) (.bool true)).kept (Kept.refl _).drew
      · exact ((((((k0.trans HF.out.2).toGrw b).setCell _ _).setCell _ _).setCell _ _).trans ((Kept.refl _).drew.toGrw b))
    · go_upto_region 5 with fail
      refine wp_region_lateT [33, 37, 41] (fun u => (u.cell? ⟨b, 3, none⟩ = some (.bool true) ∧ u.cell? ⟨b, 4, none⟩ = some (.bool false) ∧ u.cell? ⟨b, 5, none⟩ = some (.bool false)) ∧ u.cell? ⟨w.heap.size, 0, none⟩ = some (.pointer (some ⟨b, 0, none⟩))) (fun u => u.cell? ⟨w.heap.size, 0, none⟩ = some (.pointer (some ⟨b, 0, none⟩)) ∧ u.cell? ⟨B, 3, none⟩ = some (.bool p2) ∧ u.cell? ⟨B, 4, none⟩ = some (.bool m2) ∧ u.cell? ⟨B, 5, none⟩ = some (.bool z2)) (by kernel_rfl) (by refine ⟨⟨?_, ?_, ?_⟩, ?_⟩ <;> simp [go_sem, q1, g3, g4, g5]) (by refine ⟨?_, ?_, ?_, ?_⟩ <;> simp [go_sem, q1, f3, f4, f5]) (fun hHeld hStay => ?_)
      refine wpAnyT_take2 (i := 0) (v := ?_) rfl (by kernel_rfl) (by kernel_rfl) (by kernel_rfl) (by kernel_rfl) (fun _ _ _ h => h) (Or.inl ⟨by rfl, ?hyr40⟩) (fun _ => hHeld) hStay ?_
      case hyr40 => (intro w hSw; (try dsimp only at hSw); go_simp; try (with_reducible rfl))
      (try simp only [Act.put, zA, zB, zC, zD, zE, zF])
      refine wpAnyT_take2 (i := 1) (v := ?_) rfl (by kernel_rfl) (by kernel_rfl) (by kernel_rfl) (by kernel_rfl) (fun _ _ _ h => h) (Or.inl ⟨by rfl, ?hyr41⟩) (fun _ => hHeld) hStay ?_
      case hyr41 => (intro w hSw; (try dsimp only at hSw); go_simp; try (with_reducible rfl))
      (try simp only [Act.put, zA, zB, zC, zD, zE, zF])
      refine wpAnyT_take2 (i := 2) (v := ?_) rfl (by kernel_rfl) (by kernel_rfl) (by kernel_rfl) (by kernel_rfl) (fun _ _ _ h => h) (Or.inl ⟨by rfl, ?hyr42⟩) (fun _ => hHeld) hStay ?_
      case hyr42 => (intro w hSw; (try dsimp only at hSw); go_simp; try (with_reducible rfl))
      (try simp only [Act.put, zA, zB, zC, zD, zE, zF])
      refine wpAnyT_take (i := 3) (v := ?_) rfl (by kernel_rfl) (by kernel_rfl) (by kernel_rfl) (by kernel_rfl) (fun _ _ _ h => h) (Or.inl ⟨by rfl, ?hyr43⟩) hHeld hStay ?_
      case hyr43 => (intro w hSw; (try dsimp only at hSw); go_simp; try (with_reducible rfl))
      (try simp only [Act.put, zA, zB, zC, zD, zE, zF])
      refine wpAnyT_take (i := 4) (v := ?_) rfl (by kernel_rfl) (by kernel_rfl) (by kernel_rfl) (by kernel_rfl) (fun _ _ _ h => h) (Or.inl ⟨by rfl, ?hyr44⟩) hHeld hStay ?_
      case hyr44 => (intro w hSw; (try dsimp only at hSw); go_simp; try (with_reducible rfl))
      (try simp only [Act.put, zA, zB, zC, zD, zE, zF])
      refine wpAnyT_take (i := 5) (v := ?_) rfl (by kernel_rfl) (by kernel_rfl) (by kernel_rfl) (by kernel_rfl) (fun _ _ _ h => h) (Or.inl ⟨by rfl, ?hyr45⟩) hHeld hStay ?_
      case hyr45 => (intro w hSw; (try dsimp only at hSw); go_simp; try (with_reducible rfl))
      (try simp only [Act.put, zA, zB, zC, zD, zE, zF])
      refine wpAnyT_take (i := 6) (v := ?_) rfl (by kernel_rfl) (by kernel_rfl) (by kernel_rfl) (by kernel_rfl) (fun _ _ _ h => h) (Or.inl ⟨by rfl, ?hyr46⟩) hHeld hStay ?_
      case hyr46 => (intro w hSw; (try dsimp only at hSw); go_simp; try (with_reducible rfl))
      (try simp only [Act.put, zA, zB, zC, zD, zE, zF])
      refine wpAnyT_take (i := 7) (v := ?_) rfl (by kernel_rfl) (by kernel_rfl) (by kernel_rfl) (by kernel_rfl) (fun _ _ _ h => h) (Or.inl ⟨by rfl, ?hyr47⟩) hHeld hStay ?_
      case hyr47 => (intro w hSw; (try dsimp only at hSw); go_simp; try (with_reducible rfl))
      (try simp only [Act.put, zA, zB, zC, zD, zE, zF])
      refine wpAnyT_take2 (i := 8) (v := ?_) rfl (by kernel_rfl) (by kernel_rfl) (by kernel_rfl) (by kernel_rfl) (fun _ _ _ h => h) (Or.inl ⟨by rfl, ?hyr48⟩) (fun _ => hHeld) hStay ?_
      case hyr48 => (intro w hSw; (try dsimp only at hSw); go_simp; try (with_reducible rfl))
      (try simp only [Act.put, zA, zB, zC, zD, zE, zF])
      refine wpAnyT_take2 (i := 9) (v := undef) rfl (by kernel_rfl) (by kernel_rfl) (by kernel_rfl) (by kernel_rfl) (fun _ _ _ h => h) (Or.inr ⟨by rfl, rfl⟩) (fun _ => hHeld) hStay ?_
      (try simp only [Act.put, zA, zB, zC, zD, zE, zF])
      refine wpAnyT_take2 (i := 10) (v := undef) rfl (by kernel_rfl) (by kernel_rfl) (by kernel_rfl) (by kernel_rfl) (fun _ _ _ h => h) (Or.inr ⟨by rfl, rfl⟩) (fun _ => hHeld) hStay ?_
      (try simp only [Act.put, zA, zB, zC, zD, zE, zF])
      refine wpAnyT_take2 (i := 11) (v := ?_) rfl (by kernel_rfl) (by kernel_rfl) (by kernel_rfl) (by kernel_rfl) (fun _ _ _ h => h) (Or.inl ⟨by rfl, ?hyr411⟩) (fun _ => hHeld) hStay ?_
      case hyr411 => (intro w hSw; (try dsimp only at hSw); go_simp; try (with_reducible rfl))
      (try simp only [Act.put, zA, zB, zC, zD, zE, zF])
      refine wpAnyT_take (i := 12) (v := ?_) rfl (by kernel_rfl) (by kernel_rfl) (by kernel_rfl) (by kernel_rfl) (fun _ _ _ h => h) (Or.inl ⟨by rfl, ?hyr412⟩) hHeld hStay ?_
      case hyr412 => (intro w hSw; (try dsimp only at hSw); go_simp; try (with_reducible rfl))
      (try simp only [Act.put, zA, zB, zC, zD, zE, zF])
      refine wpAnyT_take (i := 13) (v := ?_) rfl (by kernel_rfl) (by kernel_rfl) (by kernel_rfl) (by kernel_rfl) (fun _ _ _ h => h) (Or.inl ⟨by rfl, ?hyr413⟩) hHeld hStay ?_
      case hyr413 => (intro w hSw; (try dsimp only at hSw); go_simp; try (with_reducible rfl))
      (try simp only [Act.put, zA, zB, zC, zD, zE, zF])
      refine wpAnyT_take (i := 14) (v := ?_) rfl (by kernel_rfl) (by kernel_rfl) (by kernel_rfl) (by kernel_rfl) (fun _ _ _ h => h) (Or.inl ⟨by rfl, ?hyr414⟩) hHeld hStay ?_
      case hyr414 => (intro w hSw; (try dsimp only at hSw); go_simp; try (with_reducible rfl))
      (try simp only [Act.put, zA, zB, zC, zD, zE, zF])
      refine wpAnyT_take (i := 15) (v := ?_) rfl (by kernel_rfl) (by kernel_rfl) (by kernel_rfl) (by kernel_rfl) (fun _ _ _ h => h) (Or.inl ⟨by rfl, ?hyr415⟩) hHeld hStay ?_
      case hyr415 => (intro w hSw; (try dsimp only at hSw); go_simp; try (with_reducible rfl))
      (try simp only [Act.put, zA, zB, zC, zD, zE, zF])
      refine wpAnyT_take (i := 16) (v := ?_) rfl (by kernel_rfl) (by kernel_rfl) (by kernel_rfl) (by kernel_rfl) (fun _ _ _ h => h) (Or.inl ⟨by rfl, ?hyr416⟩) hHeld hStay ?_
      case hyr416 => (intro w hSw; (try dsimp only at hSw); go_simp; try (with_reducible rfl))
      (try simp only [Act.put, zA, zB, zC, zD, zE, zF])
      refine wpAnyT_take2 (i := 17) (v := ?_) rfl (by kernel_rfl) (by kernel_rfl) (by kernel_rfl) (by kernel_rfl) (fun _ _ _ h => h) (Or.inl ⟨by rfl, ?hyr417⟩) (fun _ => hHeld) hStay ?_
      case hyr417 => (intro w hSw; (try dsimp only at hSw); go_simp; try (with_reducible rfl))
      (try simp only [Act.put, zA, zB, zC, zD, zE, zF])
      refine wpAnyT_take2 (i := 18) (v := ?_) rfl (by kernel_rfl) (by kernel_rfl) (by kernel_rfl) (by kernel_rfl) (fun _ _ _ h => h) (Or.inl ⟨by rfl, ?hyr4b18⟩) (fun _ => hHeld) hStay ?_
      case hyr4b18 => (intro w hSw; (try dsimp only at hSw); go_simp; try (with_reducible rfl))
      (try simp only [Act.put, zA, zB, zC, zD, zE, zF])
      refine wpAnyT_take2 (i := 19) (v := ?_) rfl (by kernel_rfl) (by kernel_rfl) (by kernel_rfl) (by kernel_rfl) (fun _ _ _ h => h) (Or.inl ⟨by rfl, ?hyr4b19⟩) (fun _ => hHeld) hStay ?_
      case hyr4b19 => (intro w hSw; (try dsimp only at hSw); go_simp; try (with_reducible rfl))
      (try simp only [Act.put, zA, zB, zC, zD, zE, zF])
      refine wpAnyT_take2 (i := 20) (v := ?_) rfl (by kernel_rfl) (by kernel_rfl) (by kernel_rfl) (by kernel_rfl) (fun _ _ _ h => h) (Or.inl ⟨by rfl, ?hyr420⟩) (fun _ => hHeld) hStay ?_
      case hyr420 => (intro w hSw; (try dsimp only at hSw); go_simp; try (with_reducible rfl))
      (try simp only [Act.put, zA, zB, zC, zD, zE, zF])
      refine wpAnyT_take (i := 21) (v := ?_) rfl (by kernel_rfl) (by kernel_rfl) (by kernel_rfl) (by kernel_rfl) (fun _ _ _ h => h) (Or.inl ⟨by rfl, ?hyr421⟩) hHeld hStay ?_
      case hyr421 => (intro w hSw; (try dsimp only at hSw); go_simp; try (with_reducible rfl))
      (try simp only [Act.put, zA, zB, zC, zD, zE, zF])
      refine wpAnyT_take (i := 22) (v := ?_) rfl (by kernel_rfl) (by kernel_rfl) (by kernel_rfl) (by kernel_rfl) (fun _ _ _ h => h) (Or.inl ⟨by rfl, ?hyr422⟩) hHeld hStay ?_
      case hyr422 => (intro w hSw; (try dsimp only at hSw); go_simp; try (with_reducible rfl))
      (try simp only [Act.put, zA, zB, zC, zD, zE, zF])
      refine wpAnyT_take (i := 23) (v := ?_) rfl (by kernel_rfl) (by kernel_rfl) (by kernel_rfl) (by kernel_rfl) (fun _ _ _ h => h) (Or.inl ⟨by rfl, ?hyr423⟩) hHeld hStay ?_
      case hyr423 => (intro w hSw; (try dsimp only at hSw); go_simp; try (with_reducible rfl))
      (try simp only [Act.put, zA, zB, zC, zD, zE, zF])
      refine wpAnyT_take (i := 24) (v := ?_) rfl (by kernel_rfl) (by kernel_rfl) (by kernel_rfl) (by kernel_rfl) (fun _ _ _ h => h) (Or.inl ⟨by rfl, ?hyr424⟩) hHeld hStay ?_
      case hyr424 => (intro w hSw; (try dsimp only at hSw); go_simp; try (with_reducible rfl))
      (try simp only [Act.put, zA, zB, zC, zD, zE, zF])
      refine wpAnyT_take (i := 25) (v := ?_) rfl (by kernel_rfl) (by kernel_rfl) (by kernel_rfl) (by kernel_rfl) (fun _ _ _ h => h) (Or.inl ⟨by rfl, ?hyr425⟩) hHeld hStay ?_
      case hyr425 => (intro w hSw; (try dsimp only at hSw); go_simp; try (with_reducible rfl))
      (try simp only [Act.put, zA, zB, zC, zD, zE, zF])
      refine wpAnyT_take2 (i := 26) (v := ?_) rfl (by kernel_rfl) (by kernel_rfl) (by kernel_rfl) (by kernel_rfl) (fun _ _ _ h => h) (Or.inl ⟨by rfl, ?hyr426⟩) (fun _ => hHeld) hStay ?_
      case hyr426 => (intro w hSw; (try dsimp only at hSw); go_simp; try (with_reducible rfl))
      (try simp only [Act.put, zA, zB, zC, zD, zE, zF])
      refine wpAnyT_take2 (i := 27) (v := ?_) rfl (by kernel_rfl) (by kernel_rfl) (by kernel_rfl) (by kernel_rfl) (fun _ _ _ h => h) (Or.inl ⟨by rfl, ?hyr4c27⟩) (fun _ => hHeld) hStay ?_
      case hyr4c27 => (intro w hSw; (try dsimp only at hSw); go_simp; try (with_reducible rfl))
      (try simp only [Act.put, zA, zB, zC, zD, zE, zF])
      refine wpAnyT_take2 (i := 28) (v := ?_) rfl (by kernel_rfl) (by kernel_rfl) (by kernel_rfl) (by kernel_rfl) (fun _ _ _ h => h) (Or.inl ⟨by rfl, ?hyr4c28⟩) (fun _ => hHeld) hStay ?_
      case hyr4c28 => (intro w hSw; (try dsimp only at hSw); go_simp; try (with_reducible rfl))
      (try simp only [Act.put, zA, zB, zC, zD, zE, zF])
      refine wpAnyT_take2 (i := 29) (v := ?_) rfl (by kernel_rfl) (by kernel_rfl) (by kernel_rfl) (by kernel_rfl) (fun _ _ _ h => h) (Or.inl ⟨by rfl, ?hyr429⟩) (fun _ => hHeld) hStay ?_
      case hyr429 => (intro w hSw; (try dsimp only at hSw); go_simp; try (with_reducible rfl))
      (try simp only [Act.put, zA, zB, zC, zD, zE, zF])
      refine wpAnyT_take2 (i := 30) (v := ?_) rfl (by kernel_rfl) (by kernel_rfl) (by kernel_rfl) (by kernel_rfl) (fun _ _ _ h => h) (Or.inl ⟨by rfl, ?hyr430⟩) (fun _ => hHeld) hStay ?_
      case hyr430 => (intro w hSw; (try dsimp only at hSw); go_simp; try (with_reducible rfl))
      (try simp only [Act.put, zA, zB, zC, zD, zE, zF])
      refine wpAnyT_take2 (i := 31) (v := ?_) rfl (by kernel_rfl) (by kernel_rfl) (by kernel_rfl) (by kernel_rfl) (fun _ _ _ h => h) (Or.inl ⟨by rfl, ?hyr431⟩) (fun _ => hHeld) hStay ?_
      case hyr431 => (intro w hSw; (try dsimp only at hSw); go_simp; try (with_reducible rfl))
      (try simp only [Act.put, zA, zB, zC, zD, zE, zF])
      refine wpAnyT_take2 (i := 32) (v := ?_) rfl (by kernel_rfl) (by kernel_rfl) (by kernel_rfl) (by kernel_rfl) (fun _ _ _ h => h) (Or.inl ⟨by rfl, ?hyr432⟩) (fun _ => hHeld) hStay ?_
      case hyr432 => (intro w hSw; (try dsimp only at hSw); go_simp; try (with_reducible rfl))
      (try simp only [Act.put, zA, zB, zC, zD, zE, zF])
      refine wpAnyT_late (i := 33) (by kernel_rfl) rfl (by kernel_rfl) (fun K hK9 => ?_)
      go_simp
      refine hK9.out _ _ (by refine ⟨?_, ?_, ?_, ?_⟩ <;> simp [go_sem, q1, f3, f4, f5, nb, nB, nC, Ne.symm nb, Ne.symm nB, Ne.symm nC]) (fun hStayx => ?_)
      clear hK9 K
      (try simp only [Act.put, zA, zB, zC, zD, zE, zF])
      refine wpAnyT_take2 (i := 34) (v := ?_) rfl (by kernel_rfl) (by kernel_rfl) (by kernel_rfl) (by kernel_rfl) (fun _ _ _ h => h) (Or.inl ⟨by rfl, ?hyr434⟩) (fun h => Bool.noConfusion (Eq.trans (Eq.symm (show anyL _ _ = true by kernel_rfl)) h)) hStayx ?_
      case hyr434 => (intro w hSw; (try dsimp only at hSw); go_simp; try (with_reducible rfl))
      (try simp only [Act.put, zA, zB, zC, zD, zE, zF])
      refine wpAnyT_take2 (i := 35) (v := ?_) rfl (by kernel_rfl) (by kernel_rfl) (by kernel_rfl) (by kernel_rfl) (fun _ _ _ h => h) (Or.inl ⟨by rfl, ?hyr435⟩) (fun h => Bool.noConfusion (Eq.trans (Eq.symm (show anyL _ _ = true by kernel_rfl)) h)) hStayx ?_
      case hyr435 => (intro w hSw; (try dsimp only at hSw); go_simp; try (with_reducible rfl))
      (try simp only [Act.put, zA, zB, zC, zD, zE, zF])
      refine wpAnyT_take2 (i := 36) (v := ?_) rfl (by kernel_rfl) (by kernel_rfl) (by kernel_rfl) (by kernel_rfl) (fun _ _ _ h => h) (Or.inl ⟨by rfl, ?hyr436⟩) (fun h => Bool.noConfusion (Eq.trans (Eq.symm (show anyL _ _ = true by kernel_rfl)) h)) hStayx ?_
      case hyr436 => (intro w hSw; (try dsimp only at hSw); go_simp; try (with_reducible rfl))
      (try simp only [Act.put, zA, zB, zC, zD, zE, zF])
      refine wpAnyT_late (i := 37) (by kernel_rfl) rfl (by kernel_rfl) (fun K hK9 => ?_)
      go_simp
      refine hK9.out _ _ (by refine ⟨?_, ?_, ?_, ?_⟩ <;> simp [go_sem, q1, f3, f4, f5, nb, nB, nC, Ne.symm nb, Ne.symm nB, Ne.symm nC]) (fun hStayy => ?_)
      clear hK9 K
      (try simp only [Act.put, zA, zB, zC, zD, zE, zF])
      refine wpAnyT_take2 (i := 38) (v := ?_) rfl (by kernel_rfl) (by kernel_rfl) (by kernel_rfl) (by kernel_rfl) (fun _ _ _ h => h) (Or.inl ⟨by rfl, ?hyr438⟩) (fun h => Bool.noConfusion (Eq.trans (Eq.symm (show anyL _ _ = true by kernel_rfl)) h)) hStayy ?_
      case hyr438 => (intro w hSw; (try dsimp only at hSw); go_simp; try (with_reducible rfl))
      (try simp only [Act.put, zA, zB, zC, zD, zE, zF])
      refine wpAnyT_take2 (i := 39) (v := ?_) rfl (by kernel_rfl) (by kernel_rfl) (by kernel_rfl) (by kernel_rfl) (fun _ _ _ h => h) (Or.inl ⟨by rfl, ?hyr439⟩) (fun h => Bool.noConfusion (Eq.trans (Eq.symm (show anyL _ _ = true by kernel_rfl)) h)) hStayy ?_
      case hyr439 => (intro w hSw; (try dsimp only at hSw); go_simp; try (with_reducible rfl))
      (try simp only [Act.put, zA, zB, zC, zD, zE, zF])
      refine wpAnyT_take2 (i := 40) (v := ?_) rfl (by kernel_rfl) (by kernel_rfl) (by kernel_rfl) (by kernel_rfl) (fun _ _ _ h => h) (Or.inl ⟨by rfl, ?hyr440⟩) (fun h => Bool.noConfusion (Eq.trans (Eq.symm (show anyL _ _ = true by kernel_rfl)) h)) hStayy ?_
      case hyr440 => (intro w hSw; (try dsimp only at hSw); go_simp; try (with_reducible rfl))
      (try simp only [Act.put, zA, zB, zC, zD, zE, zF])
      refine wpAnyT_late (i := 41) (by kernel_rfl) rfl (by kernel_rfl) (fun K hK9 => ?_)
      go_simp
      refine hK9.out _ _ (by refine ⟨?_, ?_, ?_, ?_⟩ <;> simp [go_sem, q1, f3, f4, f5, nb, nB, nC, Ne.symm nb, Ne.symm nB, Ne.symm nC]) (fun hStayz => ?_)
      clear hK9 K
      (try simp only [Act.put, zA, zB, zC, zD, zE, zF])
      refine wpAnyT_done (by kernel_rfl) ?_ _
      (try simp only [Act.put, zA, zB, zC, zD, zE, zF])
      go_wp2_with fail
      obtain ⟨e1, e2, e3⟩ := HP.out
      simp only [Bool.false_or, Bool.true_or] at e1 e2 e3
      refine bodyPost_end (v := .tuple #[]) (by simp [results, Tryz.results69, go_sem]) rfl ⟨rfl, ?_, ?_⟩
      · rw [e1, e2, e3]
        exact (((HF.out.1.setAc 3 (by decide) (.bool true)).setAc 4 (by decide) (.bool m2)).setAc 5 (by decide) (.bool z2)).kept (Kept.refl _).drew
      · exact ((((((k0.trans HF.out.2).toGrw b).setCell _ _).setCell _ _).setCell _ _).trans ((Kept.refl _).drew.toGrw b))
    · go_upto_region 5 with fail
      refine wp_region_lateT [33, 37, 41] (fun u => (u.cell? ⟨b, 3, none⟩ = some (.bool true) ∧ u.cell? ⟨b, 4, none⟩ = some (.bool false) ∧ u.cell? ⟨b, 5, none⟩ = some (.bool true)) ∧ u.cell? ⟨w.heap.size, 0, none⟩ = some (.pointer (some ⟨b, 0, none⟩))) (fun u => u.cell? ⟨w.heap.size, 0, none⟩ = some (.pointer (some ⟨b, 0, none⟩)) ∧ u.cell? ⟨B, 3, none⟩ = some (.bool p2) ∧ u.cell? ⟨B, 4, none⟩ = some (.bool m2) ∧ u.cell? ⟨B, 5, none⟩ = some (.bool z2)) (by kernel_rfl) (by refine ⟨⟨?_, ?_, ?_⟩, ?_⟩ <;> simp [go_sem, q1, g3, g4, g5]) (by refine ⟨?_, ?_, ?_, ?_⟩ <;> simp [go_sem, q1, f3, f4, f5]) (fun hHeld hStay => ?_)
      refine wpAnyT_take2 (i := 0) (v := ?_) rfl (by kernel_rfl) (by kernel_rfl) (by kernel_rfl) (by kernel_rfl) (fun _ _ _ h => h) (Or.inl ⟨by rfl, ?hyr50⟩) (fun _ => hHeld) hStay ?_
      case hyr50 => (intro w hSw; (try dsimp only at hSw); go_simp; try (with_reducible rfl))
      (try simp only [Act.put, zA, zB, zC, zD, zE, zF])
      refine wpAnyT_take2 (i := 1) (v := ?_) rfl (by kernel_rfl) (by kernel_rfl) (by kernel_rfl) (by kernel_rfl) (fun _ _ _ h => h) (Or.inl ⟨by rfl, ?hyr51⟩) (fun _ => hHeld) hStay ?_
      case hyr51 => (intro w hSw; (try dsimp only at hSw); go_simp; try (with_reducible rfl))
      (try simp only [Act.put, zA, zB, zC, zD, zE, zF])
      refine wpAnyT_take2 (i := 2) (v := ?_) rfl (by kernel_rfl) (by kernel_rfl) (by kernel_rfl) (by kernel_rfl) (fun _ _ _ h => h) (Or.inl ⟨by rfl, ?hyr52⟩) (fun _ => hHeld) hStay ?_
      case hyr52 => (intro w hSw; (try dsimp only at hSw); go_simp; try (with_reducible rfl))
      (try simp only [Act.put, zA, zB, zC, zD, zE, zF])
      refine wpAnyT_take (i := 3) (v := ?_) rfl (by kernel_rfl) (by kernel_rfl) (by kernel_rfl) (by kernel_rfl) (fun _ _ _ h => h) (Or.inl ⟨by rfl, ?hyr53⟩) hHeld hStay ?_
      case hyr53 => (intro w hSw; (try dsimp only at hSw); go_simp; try (with_reducible rfl))
      (try simp only [Act.put, zA, zB, zC, zD, zE, zF])
      refine wpAnyT_take (i := 4) (v := ?_) rfl (by kernel_rfl) (by kernel_rfl) (by kernel_rfl) (by kernel_rfl) (fun _ _ _ h => h) (Or.inl ⟨by rfl, ?hyr54⟩) hHeld hStay ?_
      case hyr54 => (intro w hSw; (try dsimp only at hSw); go_simp; try (with_reducible rfl))
      (try simp only [Act.put, zA, zB, zC, zD, zE, zF])
      refine wpAnyT_take (i := 5) (v := ?_) rfl (by kernel_rfl) (by kernel_rfl) (by kernel_rfl) (by kernel_rfl) (fun _ _ _ h => h) (Or.inl ⟨by rfl, ?hyr55⟩) hHeld hStay ?_
      case hyr55 => (intro w hSw; (try dsimp only at hSw); go_simp; try (with_reducible rfl))
      (try simp only [Act.put, zA, zB, zC, zD, zE, zF])
      refine wpAnyT_take (i := 6) (v := ?_) rfl (by kernel_rfl) (by kernel_rfl) (by kernel_rfl) (by kernel_rfl) (fun _ _ _ h => h) (Or.inl ⟨by rfl, ?hyr56⟩) hHeld hStay ?_
      case hyr56 => (intro w hSw; (try dsimp only at hSw); go_simp; try (with_reducible rfl))
      (try simp only [Act.put, zA, zB, zC, zD, zE, zF])
      refine wpAnyT_take (i := 7) (v := ?_) rfl (by kernel_rfl) (by kernel_rfl) (by kernel_rfl) (by kernel_rfl) (fun _ _ _ h => h) (Or.inl ⟨by rfl, ?hyr57⟩) hHeld hStay ?_
      case hyr57 => (intro w hSw; (try dsimp only at hSw); go_simp; try (with_reducible rfl))
      (try simp only [Act.put, zA, zB, zC, zD, zE, zF])
      refine wpAnyT_take2 (i := 8) (v := ?_) rfl (by kernel_rfl) (by kernel_rfl) (by kernel_rfl) (by kernel_rfl) (fun _ _ _ h => h) (Or.inl ⟨by rfl, ?hyr58⟩) (fun _ => hHeld) hStay ?_
      case hyr58 => (intro w hSw; (try dsimp only at hSw); go_simp; try (with_reducible rfl))
      (try simp only [Act.put, zA, zB, zC, zD, zE, zF])
      refine wpAnyT_take2 (i := 9) (v := undef) rfl (by kernel_rfl) (by kernel_rfl) (by kernel_rfl) (by kernel_rfl) (fun _ _ _ h => h) (Or.inr ⟨by rfl, rfl⟩) (fun _ => hHeld) hStay ?_
      (try simp only [Act.put, zA, zB, zC, zD, zE, zF])
      refine wpAnyT_take2 (i := 10) (v := undef) rfl (by kernel_rfl) (by kernel_rfl) (by kernel_rfl) (by kernel_rfl) (fun _ _ _ h => h) (Or.inr ⟨by rfl, rfl⟩) (fun _ => hHeld) hStay ?_
      (try simp only [Act.put, zA, zB, zC, zD, zE, zF])
      refine wpAnyT_take2 (i := 11) (v := ?_) rfl (by kernel_rfl) (by kernel_rfl) (by kernel_rfl) (by kernel_rfl) (fun _ _ _ h => h) (Or.inl ⟨by rfl, ?hyr511⟩) (fun _ => hHeld) hStay ?_
      case hyr511 => (intro w hSw; (try dsimp only at hSw); go_simp; try (with_reducible rfl))
      (try simp only [Act.put, zA, zB, zC, zD, zE, zF])
      refine wpAnyT_take (i := 12) (v := ?_) rfl (by kernel_rfl) (by kernel_rfl) (by kernel_rfl) (by kernel_rfl) (fun _ _ _ h => h) (Or.inl ⟨by rfl, ?hyr512⟩) hHeld hStay ?_
      case hyr512 => (intro w hSw; (try dsimp only at hSw); go_simp; try (with_reducible rfl))
      (try simp only [Act.put, zA, zB, zC, zD, zE, zF])
      refine wpAnyT_take (i := 13) (v := ?_) rfl (by kernel_rfl) (by kernel_rfl) (by kernel_rfl) (by kernel_rfl) (fun _ _ _ h => h) (Or.inl ⟨by rfl, ?hyr513⟩) hHeld hStay ?_
      case hyr513 => (intro w hSw; (try dsimp only at hSw); go_simp; try (with_reducible rfl))
      (try simp only [Act.put, zA, zB, zC, zD, zE, zF])
      refine wpAnyT_take (i := 14) (v := ?_) rfl (by kernel_rfl) (by kernel_rfl) (by kernel_rfl) (by kernel_rfl) (fun _ _ _ h => h) (Or.inl ⟨by rfl, ?hyr514⟩) hHeld hStay ?_
      case hyr514 => (intro w hSw; (try dsimp only at hSw); go_simp; try (with_reducible rfl))
      (try simp only [Act.put, zA, zB, zC, zD, zE, zF])
      refine wpAnyT_take (i := 15) (v := ?_) rfl (by kernel_rfl) (by kernel_rfl) (by kernel_rfl) (by kernel_rfl) (fun _ _ _ h => h) (Or.inl ⟨by rfl, ?hyr515⟩) hHeld hStay ?_
      case hyr515 => (intro w hSw; (try dsimp only at hSw); go_simp; try (with_reducible rfl))
      (try simp only [Act.put, zA, zB, zC, zD, zE, zF])
      refine wpAnyT_take (i := 16) (v := ?_) rfl (by kernel_rfl) (by kernel_rfl) (by kernel_rfl) (by kernel_rfl) (fun _ _ _ h => h) (Or.inl ⟨by rfl, ?hyr516⟩) hHeld hStay ?_
      case hyr516 => (intro w hSw; (try dsimp only at hSw); go_simp; try (with_reducible rfl))
      (try simp only [Act.put, zA, zB, zC, zD, zE, zF])
      refine wpAnyT_take2 (i := 17) (v := ?_) rfl (by kernel_rfl) (by kernel_rfl) (by kernel_rfl) (by kernel_rfl) (fun _ _ _ h => h) (Or.inl ⟨by rfl, ?hyr517⟩) (fun _ => hHeld) hStay ?_
      case hyr517 => (intro w hSw; (try dsimp only at hSw); go_simp; try (with_reducible rfl))
      (try simp only [Act.put, zA, zB, zC, zD, zE, zF])
      refine wpAnyT_take2 (i := 18) (v := ?_) rfl (by kernel_rfl) (by kernel_rfl) (by kernel_rfl) (by kernel_rfl) (fun _ _ _ h => h) (Or.inl ⟨by rfl, ?hyr5b18⟩) (fun _ => hHeld) hStay ?_
      case hyr5b18 => (intro w hSw; (try dsimp only at hSw); go_simp; try (with_reducible rfl))
      (try simp only [Act.put, zA, zB, zC, zD, zE, zF])
      refine wpAnyT_take2 (i := 19) (v := ?_) rfl (by kernel_rfl) (by kernel_rfl) (by kernel_rfl) (by kernel_rfl) (fun _ _ _ h => h) (Or.inl ⟨by rfl, ?hyr5b19⟩) (fun _ => hHeld) hStay ?_
      case hyr5b19 => (intro w hSw; (try dsimp only at hSw); go_simp; try (with_reducible rfl))
      (try simp only [Act.put, zA, zB, zC, zD, zE, zF])
      refine wpAnyT_take2 (i := 20) (v := ?_) rfl (by kernel_rfl) (by kernel_rfl) (by kernel_rfl) (by kernel_rfl) (fun _ _ _ h => h) (Or.inl ⟨by rfl, ?hyr520⟩) (fun _ => hHeld) hStay ?_
      case hyr520 => (intro w hSw; (try dsimp only at hSw); go_simp; try (with_reducible rfl))
      (try simp only [Act.put, zA, zB, zC, zD, zE, zF])
      refine wpAnyT_take (i := 21) (v := ?_) rfl (by kernel_rfl) (by kernel_rfl) (by kernel_rfl) (by kernel_rfl) (fun _ _ _ h => h) (Or.inl ⟨by rfl, ?hyr521⟩) hHeld hStay ?_
      case hyr521 => (intro w hSw; (try dsimp only at hSw); go_simp; try (with_reducible rfl))
      (try simp only [Act.put, zA, zB, zC, zD, zE, zF])
      refine wpAnyT_take (i := 22) (v := ?_) rfl (by kernel_rfl) (by kernel_rfl) (by kernel_rfl) (by kernel_rfl) (fun _ _ _ h => h) (Or.inl ⟨by rfl, ?hyr522⟩) hHeld hStay ?_
      case hyr522 => (intro w hSw; (try dsimp only at hSw); go_simp; try (with_reducible rfl))
      (try simp only [Act.put, zA, zB, zC, zD, zE, zF])
      refine wpAnyT_take (i := 23) (v := ?_) rfl (by kernel_rfl) (by kernel_rfl) (by kernel_rfl) (by kernel_rfl) (fun _ _ _ h => h) (Or.inl ⟨by rfl, ?hyr523⟩) hHeld hStay ?_
      case hyr523 => (intro w hSw; (try dsimp only at hSw); go_simp; try (with_reducible rfl))
      (try simp only [Act.put, zA, zB, zC, zD, zE, zF])
      refine wpAnyT_take (i := 24) (v := ?_) rfl (by kernel_rfl) (by kernel_rfl) (by kernel_rfl) (by kernel_rfl) (fun _ _ _ h => h) (Or.inl ⟨by rfl, ?hyr524⟩) hHeld hStay ?_
      case hyr524 => (intro w hSw; (try dsimp only at hSw); go_simp; try (with_reducible rfl))
      (try simp only [Act.put, zA, zB, zC, zD, zE, zF])
      refine wpAnyT_take (i := 25) (v := ?_) rfl (by kernel_rfl) (by kernel_rfl) (by kernel_rfl) (by kernel_rfl) (fun _ _ _ h => h) (Or.inl ⟨by rfl, ?hyr525⟩) hHeld hStay ?_
      case hyr525 => (intro w hSw; (try dsimp only at hSw); go_simp; try (with_reducible rfl))
      (try simp only [Act.put, zA, zB, zC, zD, zE, zF])
      refine wpAnyT_take2 (i := 26) (v := ?_) rfl (by kernel_rfl) (by kernel_rfl) (by kernel_rfl) (by kernel_rfl) (fun _ _ _ h => h) (Or.inl ⟨by rfl, ?hyr526⟩) (fun _ => hHeld) hStay ?_
      case hyr526 => (intro w hSw; (try dsimp only at hSw); go_simp; try (with_reducible rfl))
      (try simp only [Act.put, zA, zB, zC, zD, zE, zF])
      refine wpAnyT_take2 (i := 27) (v := undef) rfl (by kernel_rfl) (by kernel_rfl) (by kernel_rfl) (by kernel_rfl) (fun _ _ _ h => h) (Or.inr ⟨by rfl, rfl⟩) (fun _ => hHeld) hStay ?_
      (try simp only [Act.put, zA, zB, zC, zD, zE, zF])
      refine wpAnyT_take2 (i := 28) (v := undef) rfl (by kernel_rfl) (by kernel_rfl) (by kernel_rfl) (by kernel_rfl) (fun _ _ _ h => h) (Or.inr ⟨by rfl, rfl⟩) (fun _ => hHeld) hStay ?_
      (try simp only [Act.put, zA, zB, zC, zD, zE, zF])
      refine wpAnyT_take2 (i := 29) (v := ?_) rfl (by kernel_rfl) (by kernel_rfl) (by kernel_rfl) (by kernel_rfl) (fun _ _ _ h => h) (Or.inl ⟨by rfl, ?hyr529⟩) (fun _ => hHeld) hStay ?_
      case hyr529 => (intro w hSw; (try dsimp only at hSw); go_simp; try (with_reducible rfl))
      (try simp only [Act.put, zA, zB, zC, zD, zE, zF])
      refine wpAnyT_take2 (i := 30) (v := ?_) rfl (by kernel_rfl) (by kernel_rfl) (by kernel_rfl) (by kernel_rfl) (fun _ _ _ h => h) (Or.inl ⟨by rfl, ?hyr530⟩) (fun _ => hHeld) hStay ?_
      case hyr530 => (intro w hSw; (try dsimp only at hSw); go_simp; try (with_reducible rfl))
      (try simp only [Act.put, zA, zB, zC, zD, zE, zF])
      refine wpAnyT_take2 (i := 31) (v := ?_) rfl (by kernel_rfl) (by kernel_rfl) (by kernel_rfl) (by kernel_rfl) (fun _ _ _ h => h) (Or.inl ⟨by rfl, ?hyr531⟩) (fun _ => hHeld) hStay ?_
      case hyr531 => (intro w hSw; (try dsimp only at hSw); go_simp; try (with_reducible rfl))
      (try simp only [Act.put, zA, zB, zC, zD, zE, zF])
      refine wpAnyT_take2 (i := 32) (v := ?_) rfl (by kernel_rfl) (by kernel_rfl) (by kernel_rfl) (by kernel_rfl) (fun _ _ _ h => h) (Or.inl ⟨by rfl, ?hyr532⟩) (fun _ => hHeld) hStay ?_
      case hyr532 => (intro w hSw; (try dsimp only at hSw); go_simp; try (with_reducible rfl))
      (try simp only [Act.put, zA, zB, zC, zD, zE, zF])
      refine wpAnyT_late (i := 33) (by kernel_rfl) rfl (by kernel_rfl) (fun K hK9 => ?_)
      go_simp
      refine hK9.out _ _ (by refine ⟨?_, ?_, ?_, ?_⟩ <;> simp [go_sem, q1, f3, f4, f5, nb, nB, nC, Ne.symm nb, Ne.symm nB, Ne.symm nC]) (fun hStayx => ?_)
      clear hK9 K
      (try simp only [Act.put, zA, zB, zC, zD, zE, zF])
      refine wpAnyT_take2 (i := 34) (v := ?_) rfl (by kernel_rfl) (by kernel_rfl) (by kernel_rfl) (by kernel_rfl) (fun _ _ _ h => h) (Or.inl ⟨by rfl, ?hyr534⟩) (fun h => Bool.noConfusion (Eq.trans (Eq.symm (show anyL _ _ = true by kernel_rfl)) h)) hStayx ?_
      case hyr534 => (intro w hSw; (try dsimp only at hSw); go_simp; try (with_reducible rfl))
      (try simp only [Act.put, zA, zB, zC, zD, zE, zF])
      refine wpAnyT_take2 (i := 35) (v := ?_) rfl (by kernel_rfl) (by kernel_rfl) (by kernel_rfl) (by kernel_rfl) (fun _ _ _ h => h) (Or.inl ⟨by rfl, ?hyr535⟩) (fun h => Bool.noConfusion (Eq.trans (Eq.symm (show anyL _ _ = true by kernel_rfl)) h)) hStayx ?_
      case hyr535 => (intro w hSw; (try dsimp only at hSw); go_simp; try (with_reducible rfl))
      (try simp only [Act.put, zA, zB, zC, zD, zE, zF])
      refine wpAnyT_take2 (i := 36) (v := ?_) rfl (by kernel_rfl) (by kernel_rfl) (by kernel_rfl) (by kernel_rfl) (fun _ _ _ h => h) (Or.inl ⟨by rfl, ?hyr536⟩) (fun h => Bool.noConfusion (Eq.trans (Eq.symm (show anyL _ _ = true by kernel_rfl)) h)) hStayx ?_
      case hyr536 => (intro w hSw; (try dsimp only at hSw); go_simp; try (with_reducible rfl))
      (try simp only [Act.put, zA, zB, zC, zD, zE, zF])
      refine wpAnyT_late (i := 37) (by kernel_rfl) rfl (by kernel_rfl) (fun K hK9 => ?_)
      go_simp
      refine hK9.out _ _ (by refine ⟨?_, ?_, ?_, ?_⟩ <;> simp [go_sem, q1, f3, f4, f5, nb, nB, nC, Ne.symm nb, Ne.symm nB, Ne.symm nC]) (fun hStayy => ?_)
      clear hK9 K
      (try simp only [Act.put, zA, zB, zC, zD, zE, zF])
      refine wpAnyT_take2 (i := 38) (v := ?_) rfl (by kernel_rfl) (by kernel_rfl) (by kernel_rfl) (by kernel_rfl) (fun _ _ _ h => h) (Or.inl ⟨by rfl, ?hyr538⟩) (fun h => Bool.noConfusion (Eq.trans (Eq.symm (show anyL _ _ = true by kernel_rfl)) h)) hStayy ?_
      case hyr538 => (intro w hSw; (try dsimp only at hSw); go_simp; try (with_reducible rfl))
      (try simp only [Act.put, zA, zB, zC, zD, zE, zF])
      refine wpAnyT_take2 (i := 39) (v := ?_) rfl (by kernel_rfl) (by kernel_rfl) (by kernel_rfl) (by kernel_rfl) (fun _ _ _ h => h) (Or.inl ⟨by rfl, ?hyr539⟩) (fun h => Bool.noConfusion (Eq.trans (Eq.symm (show anyL _ _ = true by kernel_rfl)) h)) hStayy ?_
      case hyr539 => (intro w hSw; (try dsimp only at hSw); go_simp; try (with_reducible rfl))
      (try simp only [Act.put, zA, zB, zC, zD, zE, zF])
      refine wpAnyT_take2 (i := 40) (v := ?_) rfl (by kernel_rfl) (by kernel_rfl) (by kernel_rfl) (by kernel_rfl) (fun _ _ _ h => h) (Or.inl ⟨by rfl, ?hyr540⟩) (fun h => Bool.noConfusion (Eq.trans (Eq.symm (show anyL _ _ = true by kernel_rfl)) h)) hStayy ?_
      case hyr540 => (intro w hSw; (try dsimp only at hSw); go_simp; try (with_reducible rfl))
      (try simp only [Act.put, zA, zB, zC, zD, zE, zF])
      refine wpAnyT_late (i := 41) (by kernel_rfl) rfl (by kernel_rfl) (fun K hK9 => ?_)
      go_simp
      refine hK9.out _ _ (by refine ⟨?_, ?_, ?_, ?_⟩ <;> simp [go_sem, q1, f3, f4, f5, nb, nB, nC, Ne.symm nb, Ne.symm nB, Ne.symm nC]) (fun hStayz => ?_)
      clear hK9 K
      (try simp only [Act.put, zA, zB, zC, zD, zE, zF])
      refine wpAnyT_done (by kernel_rfl) ?_ _
      (try simp only [Act.put, zA, zB, zC, zD, zE, zF])
      go_wp2_with fail
      obtain ⟨e1, e2, e3⟩ := HP.out
      simp only [Bool.false_or, Bool.true_or] at e1 e2 e3
      refine bodyPost_end (v := .tuple #[]) (by simp [results, Tryz.results69, go_sem]) rfl ⟨rfl, ?_, ?_⟩
      · rw [e1, e2, e3]
        exact (((HF.out.1.setAc 3 (by decide) (.bool true)).setAc 4 (by decide) (.bool m2)).setAc 5 (by decide) (.bool true)).kept (Kept.refl _).drew
      · exact ((((((k0.trans HF.out.2).toGrw b).setCell _ _).setCell _ _).setCell _ _).trans ((Kept.refl _).drew.toGrw b))
    · go_upto_region 5 with fail
      refine wp_region_lateT [33, 37, 41] (fun u => (u.cell? ⟨b, 3, none⟩ = some (.bool true) ∧ u.cell? ⟨b, 4, none⟩ = some (.bool true) ∧ u.cell? ⟨b, 5, none⟩ = some (.bool false)) ∧ u.cell? ⟨w.heap.size, 0, none⟩ = some (.pointer (some ⟨b, 0, none⟩))) (fun u => u.cell? ⟨w.heap.size, 0, none⟩ = some (.pointer (some ⟨b, 0, none⟩)) ∧ u.cell? ⟨B, 3, none⟩ = some (.bool p2) ∧ u.cell? ⟨B, 4, none⟩ = some (.bool m2) ∧ u.cell? ⟨B, 5, none⟩ = some (.bool z2)) (by kernel_rfl) (by refine ⟨⟨?_, ?_, ?_⟩, ?_⟩ <;> simp [go_sem, q1, g3, g4, g5]) (by refine ⟨?_, ?_, ?_, ?_⟩ <;> simp [go_sem, q1, f3, f4, f5]) (fun hHeld hStay => ?_)
      refine wpAnyT_take2 (i := 0) (v := ?_) rfl (by kernel_rfl) (by kernel_rfl) (by kernel_rfl) (by kernel_rfl) (fun _ _ _ h => h) (Or.inl ⟨by rfl, ?hyr60⟩) (fun _ => hHeld) hStay ?_
      case hyr60 => (intro w hSw; (try dsimp only at hSw); go_simp; try (with_reducible rfl))
      (try simp only [Act.put, zA, zB, zC, zD, zE, zF])
      refine wpAnyT_take2 (i := 1) (v := ?_) rfl (by kernel_rfl) (by kernel_rfl) (by kernel_rfl) (by kernel_rfl) (fun _ _ _ h => h) (Or.inl ⟨by rfl, ?hyr61⟩) (fun _ => hHeld) hStay ?_
      case hyr61 => (intro w hSw; (try dsimp only at hSw); go_simp; try (with_reducible rfl))
      (try simp only [Act.put, zA, zB, zC, zD, zE, zF])
      refine wpAnyT_take2 (i := 2) (v := ?_) rfl (by kernel_rfl) (by kernel_rfl) (by kernel_rfl) (by kernel_rfl) (fun _ _ _ h => h) (Or.inl ⟨by rfl, ?hyr62⟩) (fun _ => hHeld) hStay ?_
      case hyr62 => (intro w hSw; (try dsimp only at hSw); go_simp; try (with_reducible rfl))
      (try simp only [Act.put, zA, zB, zC, zD, zE, zF])
      refine wpAnyT_take (i := 3) (v := ?_) rfl (by kernel_rfl) (by kernel_rfl) (by kernel_rfl) (by kernel_rfl) (fun _ _ _ h => h) (Or.inl ⟨by rfl, ?hyr63⟩) hHeld hStay ?_
      case hyr63 => (intro w hSw; (try dsimp only at hSw); go_simp; try (with_reducible rfl))
      (try simp only [Act.put, zA, zB, zC, zD, zE, zF])
      refine wpAnyT_take (i := 4) (v := ?_) rfl (by kernel_rfl) (by kernel_rfl) (by kernel_rfl) (by kernel_rfl) (fun _ _ _ h => h) (Or.inl ⟨by rfl, ?hyr64⟩) hHeld hStay ?_
      case hyr64 => (intro w hSw; (try dsimp only at hSw); go_simp; try (with_reducible rfl))
      (try simp only [Act.put, zA, zB, zC, zD, zE, zF])
      refine wpAnyT_take (i := 5) (v := ?_) rfl (by kernel_rfl) (by kernel_rfl) (by kernel_rfl) (by kernel_rfl) (fun _ _ _ h => h) (Or.inl ⟨by rfl, ?hyr65⟩) hHeld hStay ?_
      case hyr65 => (intro w hSw; (try dsimp only at hSw); go_simp; try (with_reducible rfl))
      (try simp only [Act.put, zA, zB, zC, zD, zE, zF])
      refine wpAnyT_take (i := 6) (v := ?_) rfl (by kernel_rfl) (by kernel_rfl) (by kernel_rfl) (by kernel_rfl) (fun _ _ _ h => h) (Or.inl ⟨by rfl, ?hyr66⟩) hHeld hStay ?_
      case hyr66 => (intro w hSw; (try dsimp only at hSw); go_simp; try (with_reducible rfl))
      (try simp only [Act.put, zA, zB, zC, zD, zE, zF])
      refine wpAnyT_take (i := 7) (v := ?_) rfl (by kernel_rfl) (by kernel_rfl) (by kernel_rfl) (by kernel_rfl) (fun _ _ _ h => h) (Or.inl ⟨by rfl, ?hyr67⟩) hHeld hStay ?_
      case hyr67 => (intro w hSw; (try dsimp only at hSw); go_simp; try (with_reducible rfl))
      (try simp only [Act.put, zA, zB, zC, zD, zE, zF])
      refine wpAnyT_take2 (i := 8) (v := ?_) rfl (by kernel_rfl) (by kernel_rfl) (by kernel_rfl) (by kernel_rfl) (fun _ _ _ h => h) (Or.inl ⟨by rfl, ?hyr68⟩) (fun _ => hHeld) hStay ?_
      case hyr68 => (intro w hSw; (try dsimp only at hSw); go_simp; try (with_reducible rfl))
      (try simp only [Act.put, zA, zB, zC, zD, zE, zF])
      refine wpAnyT_take2 (i := 9) (v := undef) rfl (by kernel_rfl) (by kernel_rfl) (by kernel_rfl) (by kernel_rfl) (fun _ _ _ h => h) (Or.inr ⟨by rfl, rfl⟩) (fun _ => hHeld) hStay ?_
      (try simp only [Act.put, zA, zB, zC, zD, zE, zF])
      refine wpAnyT_take2 (i := 10) (v := undef) rfl (by kernel_rfl) (by kernel_rfl) (by kernel_rfl) (by kernel_rfl) (fun _ _ _ h => h) (Or.inr ⟨by rfl, rfl⟩) (fun _ => hHeld) hStay ?_
      (try simp only [Act.put, zA, zB, zC, zD, zE, zF])
      refine wpAnyT_take2 (i := 11) (v := ?_) rfl (by kernel_rfl) (by kernel_rfl) (by kernel_rfl) (by kernel_rfl) (fun _ _ _ h => h) (Or.inl ⟨by rfl, ?hyr611⟩) (fun _ => hHeld) hStay ?_
      case hyr611 => (intro w hSw; (try dsimp only at hSw); go_simp; try (with_reducible rfl))
      (try simp only [Act.put, zA, zB, zC, zD, zE, zF])
      refine wpAnyT_take (i := 12) (v := ?_) rfl (by kernel_rfl) (by kernel_rfl) (by kernel_rfl) (by kernel_rfl) (fun _ _ _ h => h) (Or.inl ⟨by rfl, ?hyr612⟩) hHeld hStay ?_
      case hyr612 => (intro w hSw; (try dsimp only at hSw); go_simp; try (with_reducible rfl))
      (try simp only [Act.put, zA, zB, zC, zD, zE, zF])
      refine wpAnyT_take (i := 13) (v := ?_) rfl (by kernel_rfl) (by kernel_rfl) (by kernel_rfl) (by kernel_rfl) (fun _ _ _ h => h) (Or.inl ⟨by rfl, ?hyr613⟩) hHeld hStay ?_
      case hyr613 => (intro w hSw; (try dsimp only at hSw); go_simp; try (with_reducible rfl))
      (try simp only [Act.put, zA, zB, zC, zD, zE, zF])
      refine wpAnyT_take (i := 14) (v := ?_) rfl (by kernel_rfl) (by kernel_rfl) (by kernel_rfl) (by kernel_rfl) (fun _ _ _ h => h) (Or.inl ⟨by rfl, ?hyr614⟩) hHeld hStay ?_
      case hyr614 => (intro w hSw; (try dsimp only at hSw); go_simp; try (with_reducible rfl))
      (try simp only [Act.put, zA, zB, zC, zD, zE, zF])
      refine wpAnyT_take (i := 15) (v := ?_) rfl (by kernel_rfl) (by kernel_rfl) (by kernel_rfl) (by kernel_rfl) (fun _ _ _ h => h) (Or.inl ⟨by rfl, ?hyr615⟩) hHeld hStay ?_
      case hyr615 => (intro w hSw; (try dsimp only at hSw); go_simp; try (with_reducible rfl))
      (try simp only [Act.put, zA, zB, zC, zD, zE, zF])
      refine wpAnyT_take (i := 16) (v := ?_) rfl (by kernel_rfl) (by kernel_rfl) (by kernel_rfl) (by kernel_rfl) (fun _ _ _ h => h) (Or.inl ⟨by rfl, ?hyr616⟩) hHeld hStay ?_
      case hyr616 => (intro w hSw; (try dsimp only at hSw); go_simp; try (with_reducible rfl))
      (try simp only [Act.put, zA, zB, zC, zD, zE, zF])
      refine wpAnyT_take2 (i := 17) (v := ?_) rfl (by kernel_rfl) (by kernel_rfl) (by kernel_rfl) (by kernel_rfl) (fun _ _ _ h => h) (Or.inl ⟨by rfl, ?hyr617⟩) (fun _ => hHeld) hStay ?_
      case hyr617 => (intro w hSw; (try dsimp only at hSw); go_simp; try (with_reducible rfl))
      (try simp only [Act.put, zA, zB, zC, zD, zE, zF])
      refine wpAnyT_take2 (i := 18) (v := undef) rfl (by kernel_rfl) (by kernel_rfl) (by kernel_rfl) (by kernel_rfl) (fun _ _ _ h => h) (Or.inr ⟨by rfl, rfl⟩) (fun _ => hHeld) hStay ?_
      (try simp only [Act.put, zA, zB, zC, zD, zE, zF])
      refine wpAnyT_take2 (i := 19) (v := undef) rfl (by kernel_rfl) (by kernel_rfl) (by kernel_rfl) (by kernel_rfl) (fun _ _ _ h => h) (Or.inr ⟨by rfl, rfl⟩) (fun _ => hHeld) hStay ?_
      (try simp only [Act.put, zA, zB, zC, zD, zE, zF])
      refine wpAnyT_take2 (i := 20) (v := ?_) rfl (by kernel_rfl) (by kernel_rfl) (by kernel_rfl) (by kernel_rfl) (fun _ _ _ h => h) (Or.inl ⟨by rfl, ?hyr620⟩) (fun _ => hHeld) hStay ?_
      case hyr620 => (intro w hSw; (try dsimp only at hSw); go_simp; try (with_reducible rfl))
      (try simp only [Act.put, zA, zB, zC, zD, zE, zF])
      refine wpAnyT_take (i := 21) (v := ?_) rfl (by kernel_rfl) (by kernel_rfl) (by kernel_rfl) (by kernel_rfl) (fun _ _ _ h => h) (Or.inl ⟨by rfl, ?hyr621⟩) hHeld hStay ?_
      case hyr621 => (intro w hSw; (try dsimp only at hSw); go_simp; try (with_reducible rfl))
      (try simp only [Act.put, zA, zB, zC, zD, zE, zF])
      refine wpAnyT_take (i := 22) (v := ?_) rfl (by kernel_rfl) (by kernel_rfl) (by kernel_rfl) (by kernel_rfl) (fun _ _ _ h => h) (Or.inl ⟨by rfl, ?hyr622⟩) hHeld hStay ?_
      case hyr622 => (intro w hSw; (try dsimp only at hSw); go_simp; try (with_reducible rfl))
      (try simp only [Act.put, zA, zB, zC, zD, zE, zF])
      refine wpAnyT_take (i := 23) (v := ?_) rfl (by kernel_rfl) (by kernel_rfl) (by kernel_rfl) (by kernel_rfl) (fun _ _ _ h => h) (Or.inl ⟨by rfl, ?hyr623⟩) hHeld hStay ?_
      case hyr623 => (intro w hSw; (try dsimp only at hSw); go_simp; try (with_reducible rfl))
      (try simp only [Act.put, zA, zB, zC, zD, zE, zF])
      refine wpAnyT_take (i := 24) (v := ?_) rfl (by kernel_rfl) (by kernel_rfl) (by kernel_rfl) (by kernel_rfl) (fun _ _ _ h => h) (Or.inl ⟨by rfl, ?hyr624⟩) hHeld hStay ?_
      case hyr624 => (intro w hSw; (try dsimp only at hSw); go_simp; try (with_reducible rfl))
      (try simp only [Act.put, zA, zB, zC, zD, zE, zF])
      refine wpAnyT_take (i := 25) (v := ?_) rfl (by kernel_rfl) (by kernel_rfl) (by kernel_rfl) (by kernel_rfl) (fun _ _ _ h => h) (Or.inl ⟨by rfl, ?hyr625⟩) hHeld hStay ?_
      case hyr625 => (intro w hSw; (try dsimp only at hSw); go_simp; try (with_reducible rfl))
      (try simp only [Act.put, zA, zB, zC, zD, zE, zF])
      refine wpAnyT_take2 (i := 26) (v := ?_) rfl (by kernel_rfl) (by kernel_rfl) (by kernel_rfl) (by kernel_rfl) (fun _ _ _ h => h) (Or.inl ⟨by rfl, ?hyr626⟩) (fun _ => hHeld) hStay ?_
      case hyr626 => (intro w hSw; (try dsimp only at hSw); go_simp; try (with_reducible rfl))
      (try simp only [Act.put, zA, zB, zC, zD, zE, zF])
      refine wpAnyT_take2 (i := 27) (v := ?_) rfl (by kernel_rfl) (by kernel_rfl) (by kernel_rfl) (by kernel_rfl) (fun _ _ _ h => h) (Or.inl ⟨by rfl, ?hyr6c27⟩) (fun _ => hHeld) hStay ?_
      case hyr6c27 => (intro w hSw; (try dsimp only at hSw); go_simp; try (with_reducible rfl))
      (try simp only [Act.put, zA, zB, zC, zD, zE, zF])
      refine wpAnyT_take2 (i := 28) (v := ?_) rfl (by kernel_rfl) (by kernel_rfl) (by kernel_rfl) (by kernel_rfl) (fun _ _ _ h => h) (Or.inl ⟨by rfl, ?hyr6c28⟩) (fun _ => hHeld) hStay ?_
      case hyr6c28 => (intro w hSw; (try dsimp only at hSw); go_simp; try (with_reducible rfl))
      (try simp only [Act.put, zA, zB, zC, zD, zE, zF])
      refine wpAnyT_take2 (i := 29) (v := ?_) rfl (by kernel_rfl) (by kernel_rfl) (by kernel_rfl) (by kernel_rfl) (fun _ _ _ h => h) (Or.inl ⟨by rfl, ?hyr629⟩) (fun _ => hHeld) hStay ?_
      case hyr629 => (intro w hSw; (try dsimp only at hSw); go_simp; try (with_reducible rfl))
      (try simp only [Act.put, zA, zB, zC, zD, zE, zF])
      refine wpAnyT_take2 (i := 30) (v := ?_) rfl (by kernel_rfl) (by kernel_rfl) (by kernel_rfl) (by kernel_rfl) (fun _ _ _ h => h) (Or.inl ⟨by rfl, ?hyr630⟩) (fun _ => hHeld) hStay ?_
      case hyr630 => (intro w hSw; (try dsimp only at hSw); go_simp; try (with_reducible rfl))
      (try simp only [Act.put, zA, zB, zC, zD, zE, zF])
      refine wpAnyT_take2 (i := 31) (v := ?_) rfl (by kernel_rfl) (by kernel_rfl) (by kernel_rfl) (by kernel_rfl) (fun _ _ _ h => h) (Or.inl ⟨by rfl, ?hyr631⟩) (fun _ => hHeld) hStay ?_
      case hyr631 => (intro w hSw; (try dsimp only at hSw); go_simp; try (with_reducible rfl))
      (try simp only [Act.put, zA, zB, zC, zD, zE, zF])
      refine wpAnyT_take2 (i := 32) (v := ?_) rfl (by kernel_rfl) (by kernel_rfl) (by kernel_rfl) (by kernel_rfl) (fun _ _ _ h => h) (Or.inl ⟨by rfl, ?hyr632⟩) (fun _ => hHeld) hStay ?_
      case hyr632 => (intro w hSw; (try dsimp only at hSw); go_simp; try (with_reducible rfl))
      (try simp only [Act.put, zA, zB, zC, zD, zE, zF])
      refine wpAnyT_late (i := 33) (by kernel_rfl) rfl (by kernel_rfl) (fun K hK9 => ?_)
      go_simp
      refine hK9.out _ _ (by refine ⟨?_, ?_, ?_, ?_⟩ <;> simp [go_sem, q1, f3, f4, f5, nb, nB, nC, Ne.symm nb, Ne.symm nB, Ne.symm nC]) (fun hStayx => ?_)
      clear hK9 K
      (try simp only [Act.put, zA, zB, zC, zD, zE, zF])
      refine wpAnyT_take2 (i := 34) (v := ?_) rfl (by kernel_rfl) (by kernel_rfl) (by kernel_rfl) (by kernel_rfl) (fun _ _ _ h => h) (Or.inl ⟨by rfl, ?hyr634⟩) (fun h => Bool.noConfusion (Eq.trans (Eq.symm (show anyL _ _ = true by kernel_rfl)) h)) hStayx ?_
      case hyr634 => (intro w hSw; (try dsimp only at hSw); go_simp; try (with_reducible rfl))
      (try simp only [Act.put, zA, zB, zC, zD, zE, zF])
      refine wpAnyT_take2 (i := 35) (v := ?_) rfl (by kernel_rfl) (by kernel_rfl) (by kernel_rfl) (by kernel_rfl) (fun _ _ _ h => h) (Or.inl ⟨by rfl, ?hyr635⟩) (fun h => Bool.noConfusion (Eq.trans (Eq.symm (show anyL _ _ = true by kernel_rfl)) h)) hStayx ?_
      case hyr635 => (intro w hSw; (try dsimp only at hSw); go_simp; try (with_reducible rfl))
      (try simp only [Act.put, zA, zB, zC, zD, zE, zF])
      refine wpAnyT_take2 (i := 36) (v := ?_) rfl (by kernel_rfl) (by kernel_rfl) (by kernel_rfl) (by kernel_rfl) (fun _ _ _ h => h) (Or.inl ⟨by rfl, ?hyr636⟩) (fun h => Bool.noConfusion (Eq.trans (Eq.symm (show anyL _ _ = true by kernel_rfl)) h)) hStayx ?_
      case hyr636 => (intro w hSw; (try dsimp only at hSw); go_simp; try (with_reducible rfl))
      (try simp only [Act.put, zA, zB, zC, zD, zE, zF])
      refine wpAnyT_late (i := 37) (by kernel_rfl) rfl (by kernel_rfl) (fun K hK9 => ?_)
      go_simp
      refine hK9.out _ _ (by refine ⟨?_, ?_, ?_, ?_⟩ <;> simp [go_sem, q1, f3, f4, f5, nb, nB, nC, Ne.symm nb, Ne.symm nB, Ne.symm nC]) (fun hStayy => ?_)
      clear hK9 K
      (try simp only [Act.put, zA, zB, zC, zD, zE, zF])
      refine wpAnyT_take2 (i := 38) (v := ?_) rfl (by kernel_rfl) (by kernel_rfl) (by kernel_rfl) (by kernel_rfl) (fun _ _ _ h => h) (Or.inl ⟨by rfl, ?hyr638⟩) (fun h => Bool.noConfusion (Eq.trans (Eq.symm (show anyL _ _ = true by kernel_rfl)) h)) hStayy ?_
      case hyr638 => (intro w hSw; (try dsimp only at hSw); go_simp; try (with_reducible rfl))
      (try simp only [Act.put, zA, zB, zC, zD, zE, zF])
      refine wpAnyT_take2 (i := 39) (v := ?_) rfl (by kernel_rfl) (by kernel_rfl) (by kernel_rfl) (by kernel_rfl) (fun _ _ _ h => h) (Or.inl ⟨by rfl, ?hyr639⟩) (fun h => Bool.noConfusion (Eq.trans (Eq.symm (show anyL _ _ = true by kernel_rfl)) h)) hStayy ?_
      case hyr639 => (intro w hSw; (try dsimp only at hSw); go_simp; try (with_reducible rfl))
      (try simp only [Act.put, zA, zB, zC, zD, zE, zF])
      refine wpAnyT_take2 (i := 40) (v := ?_) rfl (by kernel_rfl) (by kernel_rfl) (by kernel_rfl) (by kernel_rfl) (fun _ _ _ h => h) (Or.inl ⟨by rfl, ?hyr640⟩) (fun h => Bool.noConfusion (Eq.trans (Eq.symm (show anyL _ _ = true by kernel_rfl)) h)) hStayy ?_
      case hyr640 => (intro w hSw; (try dsimp only at hSw); go_simp; try (with_reducible rfl))
      (try simp only [Act.put, zA, zB, zC, zD, zE, zF])
      refine wpAnyT_late (i := 41) (by kernel_rfl) rfl (by kernel_rfl) (fun K hK9 => ?_)
      go_simp
      refine hK9.out _ _ (by refine ⟨?_, ?_, ?_, ?_⟩ <;> simp [go_sem, q1, f3, f4, f5, nb, nB, nC, Ne.symm nb, Ne.symm nB, Ne.symm nC]) (fun hStayz => ?_)
      clear hK9 K
      (try simp only [Act.put, zA, zB, zC, zD, zE, zF])
      refine wpAnyT_done (by kernel_rfl) ?_ _
      (try simp only [Act.put, zA, zB, zC, zD, zE, zF])
      go_wp2_with fail
      obtain ⟨e1, e2, e3⟩ := HP.out
      simp only [Bool.false_or, Bool.true_or] at e1 e2 e3
      refine bodyPost_end (v := .tuple #[]) (by simp [results, Tryz.results69, go_sem]) rfl ⟨rfl, ?_, ?_⟩
      · rw [e1, e2, e3]
        exact (((HF.out.1.setAc 3 (by decide) (.bool true)).setAc 4 (by decide) (.bool true)).setAc 5 (by decide) (.bool z2)).kept (Kept.refl _).drew
      · exact ((((((k0.trans HF.out.2).toGrw b).setCell _ _).setCell _ _).setCell _ _).trans ((Kept.refl _).drew.toGrw b))
    · go_upto_region 5 with fail
      refine wp_region_lateT [33, 37, 41] (fun u => (u.cell? ⟨b, 3, none⟩ = some (.bool true) ∧ u.cell? ⟨b, 4, none⟩ = some (.bool true) ∧ u.cell? ⟨b, 5, none⟩ = some (.bool true)) ∧ u.cell? ⟨w.heap.size, 0, none⟩ = some (.pointer (some ⟨b, 0, none⟩))) (fun u => u.cell? ⟨w.heap.size, 0, none⟩ = some (.pointer (some ⟨b, 0, none⟩)) ∧ u.cell? ⟨B, 3, none⟩ = some (.bool p2) ∧ u.cell? ⟨B, 4, none⟩ = some (.bool m2) ∧ u.cell? ⟨B, 5, none⟩ = some (.bool z2)) (by kernel_rfl) (by refine ⟨⟨?_, ?_, ?_⟩, ?_⟩ <;> simp [go_sem, q1, g3, g4, g5]) (by refine ⟨?_, ?_, ?_, ?_⟩ <;> simp [go_sem, q1, f3, f4, f5]) (fun hHeld hStay => ?_)
      refine wpAnyT_take2 (i := 0) (v := ?_) rfl (by kernel_rfl) (by kernel_rfl) (by kernel_rfl) (by kernel_rfl) (fun _ _ _ h => h) (Or.inl ⟨by rfl, ?hyr70⟩) (fun _ => hHeld) hStay ?_
      case hyr70 => (intro w hSw; (try dsimp only at hSw); go_simp; try (with_reducible rfl))
      (try simp only [Act.put, zA, zB, zC, zD, zE, zF])
      refine wpAnyT_take2 (i := 1) (v := ?_) rfl (by kernel_rfl) (by kernel_rfl) (by kernel_rfl) (by kernel_rfl) (fun _ _ _ h => h) (Or.inl ⟨by rfl, ?hyr71⟩) (fun _ => hHeld) hStay ?_
      case hyr71 => (intro w hSw; (try dsimp only at hSw); go_simp; try (with_reducible rfl))
      (try simp only [Act.put, zA, zB, zC, zD, zE, zF])
      refine wpAnyT_take2 (i := 2) (v := ?_) rfl (by kernel_rfl) (by kernel_rfl) (by kernel_rfl) (by kernel_rfl) (fun _ _ _ h => h) (Or.inl ⟨by rfl, ?hyr72⟩) (fun _ => hHeld) hStay ?_
      case hyr72 => (intro w hSw; (try dsimp only at hSw); go_simp; try (with_reducible rfl))
      (try simp only [Act.put, zA, zB, zC, zD, zE, zF])
      refine wpAnyT_take (i := 3) (v := ?_) rfl (by kernel_rfl) (by kernel_rfl) (by kernel_rfl) (by kernel_rfl) (fun _ _ _ h => h) (Or.inl ⟨by rfl, ?hyr73⟩) hHeld hStay ?_
      case hyr73 => (intro w hSw; (try dsimp only at hSw); go_simp; try (with_reducible rfl))
      (try simp only [Act.put, zA, zB, zC, zD, zE, zF])
      refine wpAnyT_take (i := 4) (v := ?_) rfl (by kernel_rfl) (by kernel_rfl) (by kernel_rfl) (by kernel_rfl) (fun _ _ _ h => h) (Or.inl ⟨by rfl, ?hyr74⟩) hHeld hStay ?_
      case hyr74 => (intro w hSw; (try dsimp only at hSw); go_simp; try (with_reducible rfl))
      (try simp only [Act.put, zA, zB, zC, zD, zE, zF])
      refine wpAnyT_take (i := 5) (v := ?_) rfl (by kernel_rfl) (by kernel_rfl) (by kernel_rfl) (by kernel_rfl) (fun _ _ _ h => h) (Or.inl ⟨by rfl, ?hyr75⟩) hHeld hStay ?_
      case hyr75 => (intro w hSw; (try dsimp only at hSw); go_simp; try (with_reducible rfl))
      (try simp only [Act.put, zA, zB, zC, zD, zE, zF])
      refine wpAnyT_take (i := 6) (v := ?_) rfl (by kernel_rfl) (by kernel_rfl) (by kernel_rfl) (by kernel_rfl) (fun _ _ _ h => h) (Or.inl ⟨by rfl, ?hyr76⟩) hHeld hStay ?_
      case hyr76 => (intro w hSw; (try dsimp only at hSw); go_simp; try (with_reducible rfl))
      (try simp only [Act.put, zA, zB, zC, zD, zE, zF])
      refine wpAnyT_take (i := 7) (v := ?_) rfl (by kernel_rfl) (by kernel_rfl) (by kernel_rfl) (by kernel_rfl) (fun _ _ _ h => h) (Or.inl ⟨by rfl, ?hyr77⟩) hHeld hStay ?_
      case hyr77 => (intro w hSw; (try dsimp only at hSw); go_simp; try (with_reducible rfl))
      (try simp only [Act.put, zA, zB, zC, zD, zE, zF])
      refine wpAnyT_take2 (i := 8) (v := ?_) rfl (by kernel_rfl) (by kernel_rfl) (by kernel_rfl) (by kernel_rfl) (fun _ _ _ h => h) (Or.inl ⟨by rfl, ?hyr78⟩) (fun _ => hHeld) hStay ?_
      case hyr78 => (intro w hSw; (try dsimp only at hSw); go_simp; try (with_reducible rfl))
      (try simp only [Act.put, zA, zB, zC, zD, zE, zF])
      refine wpAnyT_take2 (i := 9) (v := undef) rfl (by kernel_rfl) (by kernel_rfl) (by kernel_rfl) (by kernel_rfl) (fun _ _ _ h => h) (Or.inr ⟨by rfl, rfl⟩) (fun _ => hHeld) hStay ?_
      (try simp only [Act.put, zA, zB, zC, zD, zE, zF])
      refine wpAnyT_take2 (i := 10) (v := undef) rfl (by kernel_rfl) (by kernel_rfl) (by kernel_rfl) (by kernel_rfl) (fun _ _ _ h => h) (Or.inr ⟨by rfl, rfl⟩) (fun _ => hHeld) hStay ?_
      (try simp only [Act.put, zA, zB, zC, zD, zE, zF])
      refine wpAnyT_take2 (i := 11) (v := ?_) rfl (by kernel_rfl) (by kernel_rfl) (by kernel_rfl) (by kernel_rfl) (fun _ _ _ h => h) (Or.inl ⟨by rfl, ?hyr711⟩) (fun _ => hHeld) hStay ?_
      case hyr711 => (intro w hSw; (try dsimp only at hSw); go_simp; try (with_reducible rfl))
      (try simp only [Act.put, zA, zB, zC, zD, zE, zF])
      refine wpAnyT_take (i := 12) (v := ?_) rfl (by kernel_rfl) (by kernel_rfl) (by kernel_rfl) (by kernel_rfl) (fun _ _ _ h => h) (Or.inl ⟨by rfl, ?hyr712⟩) hHeld hStay ?_
      case hyr712 => (intro w hSw; (try dsimp only at hSw); go_simp; try (with_reducible rfl))
      (try simp only [Act.put, zA, zB, zC, zD, zE, zF])
      refine wpAnyT_take (i := 13) (v := ?_) rfl (by kernel_rfl) (by kernel_rfl) (by kernel_rfl) (by kernel_rfl) (fun _ _ _ h => h) (Or.inl ⟨by rfl, ?hyr713⟩) hHeld hStay ?_
      case hyr713 => (intro w hSw; (try dsimp only at hSw); go_simp; try (with_reducible rfl))
      (try simp only [Act.put, zA, zB, zC, zD, zE, zF])
      refine wpAnyT_take (i := 14) (v := ?_) rfl (by kernel_rfl) (by kernel_rfl) (by kernel_rfl) (by kernel_rfl) (fun _ _ _ h => h) (Or.inl ⟨by rfl, ?hyr714⟩) hHeld hStay ?_
      case hyr714 => (intro w hSw; (try dsimp only at hSw); go_simp; try (with_reducible rfl))
      (try simp only [Act.put, zA, zB, zC, zD, zE, zF])
      refine wpAnyT_take (i := 15) (v := ?_) rfl (by kernel_rfl) (by kernel_rfl) (by kernel_rfl) (by kernel_rfl) (fun _ _ _ h => h) (Or.inl ⟨by rfl, ?hyr715⟩) hHeld hStay ?_
      case hyr715 => (intro w hSw; (try dsimp only at hSw); go_simp; try (with_reducible rfl))
      (try simp only [Act.put, zA, zB, zC, zD, zE, zF])
      refine wpAnyT_take (i := 16) (v := ?_) rfl (by kernel_rfl) (by kernel_rfl) (by kernel_rfl) (by kernel_rfl) (fun _ _ _ h => h) (Or.inl ⟨by rfl, ?hyr716⟩) hHeld hStay ?_
      case hyr716 => (intro w hSw; (try dsimp only at hSw); go_simp; try (with_reducible rfl))
      (try simp only [Act.put, zA, zB, zC, zD, zE, zF])
      refine wpAnyT_take2 (i := 17) (v := ?_) rfl (by kernel_rfl) (by kernel_rfl) (by kernel_rfl) (by kernel_rfl) (fun _ _ _ h => h) (Or.inl ⟨by rfl, ?hyr717⟩) (fun _ => hHeld) hStay ?_
      case hyr717 => (intro w hSw; (try dsimp only at hSw); go_simp; try (with_reducible rfl))
      (try simp only [Act.put, zA, zB, zC, zD, zE, zF])
      refine wpAnyT_take2 (i := 18) (v := undef) rfl (by kernel_rfl) (by kernel_rfl) (by kernel_rfl) (by kernel_rfl) (fun _ _ _ h => h) (Or.inr ⟨by rfl, rfl⟩) (fun _ => hHeld) hStay ?_
      (try simp only [Act.put, zA, zB, zC, zD, zE, zF])
      refine wpAnyT_take2 (i := 19) (v := undef) rfl (by kernel_rfl) (by kernel_rfl) (by kernel_rfl) (by kernel_rfl) (fun _ _ _ h => h) (Or.inr ⟨by rfl, rfl⟩) (fun _ => hHeld) hStay ?_
      (try simp only [Act.put, zA, zB, zC, zD, zE, zF])
      refine wpAnyT_take2 (i := 20) (v := ?_) rfl (by kernel_rfl) (by kernel_rfl) (by kernel_rfl) (by kernel_rfl) (fun _ _ _ h => h) (Or.inl ⟨by rfl, ?hyr720⟩) (fun _ => hHeld) hStay ?_
      case hyr720 => (intro w hSw; (try dsimp only at hSw); go_simp; try (with_reducible rfl))
      (try simp only [Act.put, zA, zB, zC, zD, zE, zF])
      refine wpAnyT_take (i := 21) (v := ?_) rfl (by kernel_rfl) (by kernel_rfl) (by kernel_rfl) (by kernel_rfl) (fun _ _ _ h => h) (Or.inl ⟨by rfl, ?hyr721⟩) hHeld hStay ?_
      case hyr721 => (intro w hSw; (try dsimp only at hSw); go_simp; try (with_reducible rfl))
      (try simp only [Act.put, zA, zB, zC, zD, zE, zF])
      refine wpAnyT_take (i := 22) (v := ?_) rfl (by kernel_rfl) (by kernel_rfl) (by kernel_rfl) (by kernel_rfl) (fun _ _ _ h => h) (Or.inl ⟨by rfl, ?hyr722⟩) hHeld hStay ?_
      case hyr722 => (intro w hSw; (try dsimp only at hSw); go_simp; try (with_reducible rfl))
      (try simp only [Act.put, zA, zB, zC, zD, zE, zF])
      refine wpAnyT_take (i := 23) (v := ?_) rfl (by kernel_rfl) (by kernel_rfl) (by kernel_rfl) (by kernel_rfl) (fun _ _ _ h => h) (Or.inl ⟨by rfl, ?hyr723⟩) hHeld hStay ?_
      case hyr723 => (intro w hSw; (try dsimp only at hSw); go_simp; try (with_reducible rfl))
      (try simp only [Act.put, zA, zB, zC, zD, zE, zF])
      refine wpAnyT_take (i := 24) (v := ?_) rfl (by kernel_rfl) (by kernel_rfl) (by kernel_rfl) (by kernel_rfl) (fun _ _ _ h => h) (Or.inl ⟨by rfl, ?hyr724⟩) hHeld hStay ?_
      case hyr724 => (intro w hSw; (try dsimp only at hSw); go_simp; try (with_reducible rfl))
      (try simp only [Act.put, zA, zB, zC, zD, zE, zF])
      refine wpAnyT_take (i := 25) (v := ?_) rfl (by kernel_rfl) (by kernel_rfl) (by kernel_rfl) (by kernel_rfl) (fun _ _ _ h => h) (Or.inl ⟨by rfl, ?hyr725⟩) hHeld hStay ?_
      case hyr725 => (intro w hSw; (try dsimp only at hSw); go_simp; try (with_reducible rfl))
      (try simp only [Act.put, zA, zB, zC, zD, zE, zF])
      refine wpAnyT_take2 (i := 26) (v := ?_) rfl (by kernel_rfl) (by kernel_rfl) (by kernel_rfl) (by kernel_rfl) (fun _ _ _ h => h) (Or.inl ⟨by rfl, ?hyr726⟩) (fun _ => hHeld) hStay ?_
      case hyr726 => (intro w hSw; (try dsimp only at hSw); go_simp; try (with_reducible rfl))
      (try simp only [Act.put, zA, zB, zC, zD, zE, zF])
      refine wpAnyT_take2 (i := 27) (v := undef) rfl (by kernel_rfl) (by kernel_rfl) (by kernel_rfl) (by kernel_rfl) (fun _ _ _ h => h) (Or.inr ⟨by rfl, rfl⟩) (fun _ => hHeld) hStay ?_
      (try simp only [Act.put, zA, zB, zC, zD, zE, zF])
      refine wpAnyT_take2 (i := 28) (v := undef) rfl (by kernel_rfl) (by kernel_rfl) (by kernel_rfl) (by kernel_rfl) (fun _ _ _ h => h) (Or.inr ⟨by rfl, rfl⟩) (fun _ => hHeld) hStay ?_
      (try simp only [Act.put, zA, zB, zC, zD, zE, zF])
      refine wpAnyT_take2 (i := 29) (v := ?_) rfl (by kernel_rfl) (by kernel_rfl) (by kernel_rfl) (by kernel_rfl) (fun _ _ _ h => h) (Or.inl ⟨by rfl, ?hyr729⟩) (fun _ => hHeld) hStay ?_
      case hyr729 => (intro w hSw; (try dsimp only at hSw); go_simp; try (with_reducible rfl))
      (try simp only [Act.put, zA, zB, zC, zD, zE, zF])
      refine wpAnyT_take2 (i := 30) (v := ?_) rfl (by kernel_rfl) (by kernel_rfl) (by kernel_rfl) (by kernel_rfl) (fun _ _ _ h => h) (Or.inl ⟨by rfl, ?hyr730⟩) (fun _ => hHeld) hStay ?_
      case hyr730 => (intro w hSw; (try dsimp only at hSw); go_simp; try (with_reducible rfl))
      (try simp only [Act.put, zA, zB, zC, zD, zE, zF])
      refine wpAnyT_take2 (i := 31) (v := ?_) rfl (by kernel_rfl) (by kernel_rfl) (by kernel_rfl) (by kernel_rfl) (fun _ _ _ h => h) (Or.inl ⟨by rfl, ?hyr731⟩) (fun _ => hHeld) hStay ?_
      case hyr731 => (intro w hSw; (try dsimp only at hSw); go_simp; try (with_reducible rfl))
      (try simp only [Act.put, zA, zB, zC, zD, zE, zF])
      refine wpAnyT_take2 (i := 32) (v := ?_) rfl (by kernel_rfl) (by kernel_rfl) (by kernel_rfl) (by kernel_rfl) (fun _ _ _ h => h) (Or.inl ⟨by rfl, ?hyr732⟩) (fun _ => hHeld) hStay ?_
      case hyr732 => (intro w hSw; (try dsimp only at hSw); go_simp; try (with_reducible rfl))
      (try simp only [Act.put, zA, zB, zC, zD, zE, zF])
      refine wpAnyT_late (i := 33) (by kernel_rfl) rfl (by kernel_rfl) (fun K hK9 => ?_)
      go_simp
      refine hK9.out _ _ (by refine ⟨?_, ?_, ?_, ?_⟩ <;> simp [go_sem, q1, f3, f4, f5, nb, nB, nC, Ne.symm nb, Ne.symm nB, Ne.symm nC]) (fun hStayx => ?_)
      clear hK9 K
      (try simp only [Act.put, zA, zB, zC, zD, zE, zF])
      refine wpAnyT_take2 (i := 34) (v := ?_) rfl (by kernel_rfl) (by kernel_rfl) (by kernel_rfl) (by kernel_rfl) (fun _ _ _ h => h) (Or.inl ⟨by rfl, ?hyr734⟩) (fun h => Bool.noConfusion (Eq.trans (Eq.symm (show anyL _ _ = true by kernel_rfl)) h)) hStayx ?_
      case hyr734 => (intro w hSw; (try dsimp only at hSw); go_simp; try (with_reducible rfl))
      (try simp only [Act.put, zA, zB, zC, zD, zE, zF])
      refine wpAnyT_take2 (i := 35) (v := ?_) rfl (by kernel_rfl) (by kernel_rfl) (by kernel_rfl) (by kernel_rfl) (fun _ _ _ h => h) (Or.inl ⟨by rfl, ?hyr735⟩) (fun h => Bool.noConfusion (Eq.trans (Eq.symm (show anyL _ _ = true by kernel_rfl)) h)) hStayx ?_
      case hyr735 => (intro w hSw; (try dsimp only at hSw); go_simp; try (with_reducible rfl))
      (try simp only [Act.put, zA, zB, zC, zD, zE, zF])
      refine wpAnyT_take2 (i := 36) (v := ?_) rfl (by kernel_rfl) (by kernel_rfl) (by kernel_rfl) (by kernel_rfl) (fun _ _ _ h => h) (Or.inl ⟨by rfl, ?hyr736⟩) (fun h => Bool.noConfusion (Eq.trans (Eq.symm (show anyL _ _ = true by kernel_rfl)) h)) hStayx ?_
      case hyr736 => (intro w hSw; (try dsimp only at hSw); go_simp; try (with_reducible rfl))
      (try simp only [Act.put, zA, zB, zC, zD, zE, zF])
      refine wpAnyT_late (i := 37) (by kernel_rfl) rfl (by kernel_rfl) (fun K hK9 => ?_)
      go_simp
      refine hK9.out _ _ (by refine ⟨?_, ?_, ?_, ?_⟩ <;> simp [go_sem, q1, f3, f4, f5, nb, nB, nC, Ne.symm nb, Ne.symm nB, Ne.symm nC]) (fun hStayy => ?_)
      clear hK9 K
      (try simp only [Act.put, zA, zB, zC, zD, zE, zF])
      refine wpAnyT_take2 (i := 38) (v := ?_) rfl (by kernel_rfl) (by kernel_rfl) (by kernel_rfl) (by kernel_rfl) (fun _ _ _ h => h) (Or.inl ⟨by rfl, ?hyr738⟩) (fun h => Bool.noConfusion (Eq.trans (Eq.symm (show anyL _ _ = true by kernel_rfl)) h)) hStayy ?_
      case hyr738 => (intro w hSw; (try dsimp only at hSw); go_simp; try (with_reducible rfl))
      (try simp only [Act.put, zA, zB, zC, zD, zE, zF])
      refine wpAnyT_take2 (i := 39) (v := ?_) rfl (by kernel_rfl) (by kernel_rfl) (by kernel_rfl) (by kernel_rfl) (fun _ _ _ h => h) (Or.inl ⟨by rfl, ?hyr739⟩) (fun h => Bool.noConfusion (Eq.trans (Eq.symm (show anyL _ _ = true by kernel_rfl)) h)) hStayy ?_
      case hyr739 => (intro w hSw; (try dsimp only at hSw); go_simp; try (with_reducible rfl))
      (try simp only [Act.put, zA, zB, zC, zD, zE, zF])
      refine wpAnyT_take2 (i := 40) (v := ?_) rfl (by kernel_rfl) (by kernel_rfl) (by kernel_rfl) (by kernel_rfl) (fun _ _ _ h => h) (Or.inl ⟨by rfl, ?hyr740⟩) (fun h => Bool.noConfusion (Eq.trans (Eq.symm (show anyL _ _ = true by kernel_rfl)) h)) hStayy ?_
      case hyr740 => (intro w hSw; (try dsimp only at hSw); go_simp; try (with_reducible rfl))
      (try simp only [Act.put, zA, zB, zC, zD, zE, zF])
      refine wpAnyT_late (i := 41) (by kernel_rfl) rfl (by kernel_rfl) (fun K hK9 => ?_)
      go_simp
      refine hK9.out _ _ (by refine ⟨?_, ?_, ?_, ?_⟩ <;> simp [go_sem, q1, f3, f4, f5, nb, nB, nC, Ne.symm nb, Ne.symm nB, Ne.symm nC]) (fun hStayz => ?_)
      clear hK9 K
      (try simp only [Act.put, zA, zB, zC, zD, zE, zF])
      refine wpAnyT_done (by kernel_rfl) ?_ _
      (try simp only [Act.put, zA, zB, zC, zD, zE, zF])
      go_wp2_with fail
      obtain ⟨e1, e2, e3⟩ := HP.out
      simp only [Bool.false_or, Bool.true_or] at e1 e2 e3
      refine bodyPost_end (v := .tuple #[]) (by simp [results, Tryz.results69, go_sem]) rfl ⟨rfl, ?_, ?_⟩
      · rw [e1, e2, e3]
        exact (((HF.out.1.setAc 3 (by decide) (.bool true)).setAc 4 (by decide) (.bool true)).setAc 5 (by decide) (.bool true)).kept (Kept.refl _).drew
      · exact ((((((k0.trans HF.out.2).toGrw b).setCell _ _).setCell _ _).setCell _ _).trans ((Kept.refl _).drew.toGrw b))
end Go.Proofs.YtoflafgbbjinpaaGreatDoor
