/- The statement on roots. -/
import Derived.Test.YtbheglkpmgmkoaaDoorRT3
import Derived.Test.YtbheglkpmgmkoaaDoorMR2
namespace Go.Proofs.YtbheglkpmgmkoaaDoor
open Go.ChangeShapes Go.WideShapes Go.ChangeAt Go.RowKit
set_option linter.unusedVariables false
set_option linter.unusedSimpArgs false

set_option maxHeartbeats 4000000 in
set_option maxRecDepth 100000 in
theorem Num4_walk (n1 : Bool) (a1 : Option Addr) (l1 c1 : Nat) (x1 y : Int) (L : List Int) (HL : Hid (L.length = l1)) (m : Nat) (hm : min l1 4 = m) (hy : x1.tmod 90 = y) (hl : l1 ≤ 9223372036854775807) (w : World) (r : Nm)
    (HA : Hid (∀ u, Kept w u → ∀ i, i < l1 → ∃ b off, a1 = some ⟨b, off, none⟩ ∧ u.cell? ⟨b, off + i, none⟩ = some (.int .i64 (L.getD i 0))))
    (KM0 : Hid (∀ H u lv, Kept w u → MR H u lv (msk L m) → Calls Tryd.prog 26 #[.bool n1, lv, .int .i64 y] u fun e w' => ∃ v, e = .returned (.tuple #[v, .int .i64 0]) ∧ New u w' v r ∧ Kept u w')) :
    Calls Tryd.prog 24 #[.agg #[.bool n1, .slice a1 l1 c1, .int .i64 x1], .int .i64 4, .int .i64 90] w fun e w' => (∃ v, e = .returned v ∧ New w w' v r) ∧ Kept w w' := by
  obtain ⟨W, hW⟩ : ∃ W, W = ((w.alloc (.cells #[.bool n1, .slice a1 l1 c1, .int .i64 x1] 24)).alloc nilNum) := ⟨_, rfl⟩
  have hK : Kept w W := by rw [hW]; exact ((Kept.refl w).alloc _ _).alloc _ _
  have hWs : W.heap.size = w.heap.size + 2 := by rw [hW]; simp
  have HS : Hid (∀ u, Kept W u → Kept W u ∧ (u.cell? ⟨w.heap.size, 0, none⟩ = some (.bool n1) ∧ u.cell? ⟨w.heap.size, 1, none⟩ = some (.slice a1 l1 c1)) ∧ u.cell? ⟨w.heap.size, 2, none⟩ = some (.int .i64 x1)) := fun u k => ⟨k, ⟨((k.below.cell (p := ⟨w.heap.size, 0, none⟩) (by show w.heap.size < W.heap.size; omega)).trans (by rw [hW]; simp [go_sem])), ((k.below.cell (p := ⟨w.heap.size, 1, none⟩) (by show w.heap.size < W.heap.size; omega)).trans (by rw [hW]; simp [go_sem]))⟩, ((k.below.cell (p := ⟨w.heap.size, 2, none⟩) (by show w.heap.size < W.heap.size; omega)).trans (by rw [hW]; simp [go_sem]))⟩
  have HC : Hid (W.cell? ⟨w.heap.size + 1, 0, none⟩ = some (.bool false) ∧ W.cell? ⟨w.heap.size + 1, 1, none⟩ = some (.slice none 0 0) ∧ W.cell? ⟨w.heap.size + 1, 2, none⟩ = some (.int .i64 0) ∧ ∀ o, W.frozen? ⟨w.heap.size + 1, o, none⟩ = false) := by rw [hW]; exact ⟨by simp [go_sem], by simp [go_sem], by simp [go_sem], fun o => by simp [go_sem]⟩
  have KM : Hid (∀ u lv, Kept W u → MR W.heap.size u lv (msk L m) → Calls Tryd.prog 26 #[.bool n1, lv, .int .i64 y] u fun e w' => ∃ v, e = .returned (.tuple #[v, .int .i64 0]) ∧ New u w' v r ∧ Kept u w') := fun u lv k h => KM0.out _ u lv (hK.trans k) h
  go_enter Tryd.func24, Tryd.ntmps24
  go_wp2_with fail
  rw [← hW]
  clear hW KM0
  go_loopw [7, 8] (fun sv iv wr => ∃ (k : Nat) (lv : Value), k ≤ m ∧ iv = .int .i64 k ∧ sv = lv ∧ MR W.heap.size wr lv (msk L k) ∧ Kept W wr) (fun _ iv _ => m - (intOf iv).toNat)
  case atStart => exact ⟨0, _, Nat.zero_le _, rfl, rfl, .inl ⟨rfl, rfl⟩, Kept.refl _⟩
  case round =>
    obtain ⟨k, lv, hk, rfl, hlv, hM, hKr⟩ := hrel
    have hlv' := hlv.symm
    clear hlv
    subst hlv'
    have er := HS.out _ hKr
    by_cases hkm : k < m
    · have g1 : k < l1 := by omega
      have g2 : k < 4 := by omega
      obtain ⟨b, off, rfl, ca⟩ := HA.out _ (hK.trans hKr) k g1
      have hl1 : (msk L k).length = k := msk_length L k (by rw [HL.out]; omega)
      have hs := msk_succ L k (by rw [HL.out]; omega)
      have hmask := mask30 (L.getD k 0)
      obtain ⟨v', w', hr, hM', hK'⟩ := app_step W.heap.size wr lv (msk L k) hM (L.getD k 0 % 1073741824) hKr.below.size (by omega)
      have HR : Hid (∀ ty, (Builtin.append_ #[22, 22] ty #[lv, .slice (some ⟨wr.heap.size, 0, none⟩) 1 1]).run Tryd.prog (wr.alloc (.cells #[.int .i64 (L.getD k 0 % 1073741824)] 3)) = .ok v' w') := hr
      rw [← hs] at hM'
      have HM : Hid (MR W.heap.size w' v' (msk L (k + 1))) := hM'
      have HKK : Hid (Kept W w') := hK' W (Nat.le_refl _) hKr
      have z1 : IntKind.i64.wrap ((k : Int) + 1) = (k : Int) + 1 := by rw [wrap_i64]; omega
      clear hr hM' hK' hs hl1 hM
      generalize hd : L.getD k 0 = d at *
      generalize hd2 : d % 1073741824 = d2 at *
      clear hd hd2
      go_wp2_with (first | (at_builtin; refine wpList_append_run rfl _ _ _ rfl _ _ rfl rfl _ _ (HR.out _) ?_))
      go_roundw
      case rel => exact ⟨k + 1, _, by omega, by go_num, rfl, HM.out, HKK.out⟩
      case measure => simp [intOf]; omega
    · obtain rfl : k = m := by omega
      have g3 : k < l1 → ¬ k < 4 := by omega
      clear HA HL hm
      by_cases g1 : k < l1
      · have g2 : ¬ k < 4 := g3 g1
        go_upto_region 6 with fail
        go_cut [9, 10] from 43 (fun tb te wx => ∃ B vn va vl vc vx, tb = .pointer (some ⟨B, 0, none⟩) ∧ te = .int .i64 0 ∧ (wx.cell? ⟨B, 0, none⟩ = some (.bool vn) ∧ wx.cell? ⟨B, 1, none⟩ = some (.slice va vl vc) ∧ wx.cell? ⟨B, 2, none⟩ = some (.int .i64 vx)) ∧ New W wx (.agg #[.bool vn, .slice va vl vc, .int .i64 vx]) r ∧ Kept W wx)
        case first =>
          refine wp_region_held_drew (S := fun u => Kept W u ∧ (u.cell? ⟨w.heap.size, 0, none⟩ = some (.bool n1) ∧ u.cell? ⟨w.heap.size, 1, none⟩ = some (.slice a1 l1 c1)) ∧ u.cell? ⟨w.heap.size, 2, none⟩ = some (.int .i64 x1)) (by kernel_rfl) (HS.out _ hKr.drew) (fun hHeld => ?_)
          refine wpAnyH_take (i := 0) (v := ?_) rfl (by kernel_rfl) (by kernel_rfl) (by kernel_rfl) (fun _ _ _ h => h) (Or.inl ⟨by rfl, ?hya0⟩) (by assumption) ?_
          case hya0 => (intro w hSw; (try dsimp only at hSw); go_simp; try (with_reducible rfl))
          simp only [Act.put, List.getElem_toArray, List.getElem_cons_succ, List.getElem_cons_zero, List.setIfInBounds_toArray, List.set_cons_zero, List.set_cons_succ]
          refine wpAnyH_take (i := 1) (v := ?_) rfl (by kernel_rfl) (by kernel_rfl) (by kernel_rfl) (fun _ _ _ h => h) (Or.inl ⟨by rfl, ?hya1⟩) (by assumption) ?_
          case hya1 => (intro w hSw; (try dsimp only at hSw); go_simp; try (with_reducible rfl))
          simp only [Act.put, List.getElem_toArray, List.getElem_cons_succ, List.getElem_cons_zero, List.setIfInBounds_toArray, List.set_cons_zero, List.set_cons_succ]
          refine wpAnyH_take (i := 2) (v := ?_) rfl (by kernel_rfl) (by kernel_rfl) (by kernel_rfl) (fun _ _ _ h => h) (Or.inl ⟨by rfl, ?hya2⟩) (by assumption) ?_
          case hya2 => (intro w hSw; (try dsimp only at hSw); go_simp; try (with_reducible rfl))
          simp only [Act.put, List.getElem_toArray, List.getElem_cons_succ, List.getElem_cons_zero, List.setIfInBounds_toArray, List.set_cons_zero, List.set_cons_succ]
          refine wpAnyH_take (i := 3) (v := ?_) rfl (by kernel_rfl) (by kernel_rfl) (by kernel_rfl) (fun _ _ _ h => h) (Or.inl ⟨by rfl, ?hya3⟩) (by assumption) ?_
          case hya3 => (intro w hSw; (try dsimp only at hSw); go_simp; try (with_reducible rfl))
          simp only [Act.put, List.getElem_toArray, List.getElem_cons_succ, List.getElem_cons_zero, List.setIfInBounds_toArray, List.set_cons_zero, List.set_cons_succ]
          refine wpAnyH_take (i := 4) (v := ?_) rfl (by kernel_rfl) (by kernel_rfl) (by kernel_rfl) (fun _ _ _ h => h) (Or.inl ⟨by rfl, ?hya4⟩) (by assumption) ?_
          case hya4 => (intro w hSw; (try dsimp only at hSw); go_simp; try (with_reducible rfl))
          simp only [Act.put, List.getElem_toArray, List.getElem_cons_succ, List.getElem_cons_zero, List.setIfInBounds_toArray, List.set_cons_zero, List.set_cons_succ]
          refine wpAnyH_take (i := 5) (v := ?_) rfl (by kernel_rfl) (by kernel_rfl) (by kernel_rfl) (fun _ _ _ h => h) (Or.inl ⟨by rfl, ?hya5⟩) (by assumption) ?_
          case hya5 => (intro w hSw; (try dsimp only at hSw); go_simp; try (with_reducible rfl))
          simp only [Act.put, List.getElem_toArray, List.getElem_cons_succ, List.getElem_cons_zero, List.setIfInBounds_toArray, List.set_cons_zero, List.set_cons_succ]
          refine wpAnyH_take (i := 6) (v := ?_) rfl (by kernel_rfl) (by kernel_rfl) (by kernel_rfl) (fun _ _ _ h => h) (Or.inl ⟨by rfl, ?hya6⟩) (by assumption) ?_
          case hya6 => (intro w hSw; (try dsimp only at hSw); go_simp; try (with_reducible rfl))
          simp only [Act.put, List.getElem_toArray, List.getElem_cons_succ, List.getElem_cons_zero, List.setIfInBounds_toArray, List.set_cons_zero, List.set_cons_succ]
          refine wpAnyH_ready (rs := [7, 11]) (by kernel_rfl) (by simp) ?_
          refine AllReadyH.cons rfl (fun K hK9 => ?_) (AllReadyH.cons rfl (fun K hK9 => ?_) AllReadyH.nil)
          · have hI := hHeld
            have mI := hM.kept ((Kept.refl wr).drew)
            go_simp
            go_wp2_with fail
            refine (KM.out _ _ hI.1 mI).mono ?_
            rintro e x3 ⟨v, rfl, hN, hk3⟩
            obtain ⟨vn, va, vl, vc, vx, rfl⟩ := hN.shape
            refine hK9.out _ _ (HS.out _ (hI.1.trans hk3)) (fun hHeld3 => ?_)
            clear hK9 K
            refine wpAnyH_take (i := 8) (v := ?_) rfl (by kernel_rfl) (by kernel_rfl) (by kernel_rfl) (fun _ _ _ h => h) (Or.inl ⟨by rfl, ?hyb8⟩) (by assumption) ?_
            case hyb8 => (intro w hSw; (try dsimp only at hSw); go_simp; try (with_reducible rfl))
            simp only [Act.put, List.getElem_toArray, List.getElem_cons_succ, List.getElem_cons_zero, List.setIfInBounds_toArray, List.set_cons_zero, List.set_cons_succ]
            refine wpAnyH_take (i := 9) (v := ?_) rfl (by kernel_rfl) (by kernel_rfl) (by kernel_rfl) (fun _ _ _ h => h) (Or.inl ⟨by rfl, ?hyb9⟩) (by assumption) ?_
            case hyb9 => (intro w hSw; (try dsimp only at hSw); go_simp; try (with_reducible rfl))
            simp only [Act.put, List.getElem_toArray, List.getElem_cons_succ, List.getElem_cons_zero, List.setIfInBounds_toArray, List.set_cons_zero, List.set_cons_succ]
            refine wpAnyH_take (i := 10) (v := ?_) rfl (by kernel_rfl) (by kernel_rfl) (by kernel_rfl) (fun _ _ _ h => h) (Or.inl ⟨by rfl, ?hyb10⟩) (by assumption) ?_
            case hyb10 => (intro w hSw; (try dsimp only at hSw); go_simp; try (with_reducible rfl))
            simp only [Act.put, List.getElem_toArray, List.getElem_cons_succ, List.getElem_cons_zero, List.setIfInBounds_toArray, List.set_cons_zero, List.set_cons_succ]
            refine wpAnyH_ready (rs := [11]) (by kernel_rfl) (by simp) ?_
            refine AllReadyH.cons rfl (fun K hK9 => ?_) AllReadyH.nil
            go_simp
            refine hK9.out _ _ (HS.out _ (hHeld3.1.alloc _ _)) (fun hHeld4 => ?_)
            clear hK9 K
            refine wpAnyH_ready (rs := [12]) (by kernel_rfl) (by simp) ?_
            refine AllReadyH.cons rfl (fun K hK9 => ?_) AllReadyH.nil
            go_simp
            have kF := hHeld3.1.alloc #[.bool vn, .slice va vl vc, .int .i64 vx] 24
            refine hK9.out _ _ (HS.out _ kF) (fun hHeld9 => ?_)
            clear hK9 K
            refine wpAnyH_take (i := 13) (v := ?_) rfl (by kernel_rfl) (by kernel_rfl) (by kernel_rfl) (fun _ _ _ h => h) (Or.inl ⟨by rfl, ?hyc13⟩) (by assumption) ?_
            case hyc13 => (intro w hSw; (try dsimp only at hSw); go_simp; try (with_reducible rfl))
            simp only [Act.put, List.getElem_toArray, List.getElem_cons_succ, List.getElem_cons_zero, List.setIfInBounds_toArray, List.set_cons_zero, List.set_cons_succ]
            refine wpAnyH_done (by kernel_rfl) ?_ _
            (try simp only [List.getElem_toArray, List.getElem_cons_succ, List.getElem_cons_zero, List.setIfInBounds_toArray, List.set_cons_zero, List.set_cons_succ])
            go_wp2_with fail
            go_meet
            case rel => exact ⟨x3.heap.size, vn, va, vl, vc, vx, rfl, rfl, ⟨by simp [go_sem], by simp [go_sem], by simp [go_sem]⟩, (hN.from hI.1).kept ((Kept.refl x3).alloc _ _), kF⟩
          · go_simp
            refine hK9.out _ _ (HS.out _ (hHeld.1.alloc _ _)) (fun hI => ?_)
            clear hK9 K
            have mI := (hM.kept ((Kept.refl wr).drew)).kept ((Kept.refl _).alloc #[.bool false, .slice none 0 0, .int .i64 0] 24)
            refine wpAnyH_ready (rs := [7]) (by kernel_rfl) (by simp) ?_
            refine AllReadyH.cons rfl (fun K hK9 => ?_) AllReadyH.nil
            go_simp
            go_wp2_with fail
            refine (KM.out _ _ hI.1 mI).mono ?_
            rintro e x3 ⟨v, rfl, hN, hk3⟩
            obtain ⟨vn, va, vl, vc, vx, rfl⟩ := hN.shape
            refine hK9.out _ _ (HS.out _ (hI.1.trans hk3)) (fun hHeld3 => ?_)
            clear hK9 K
            refine wpAnyH_take (i := 8) (v := ?_) rfl (by kernel_rfl) (by kernel_rfl) (by kernel_rfl) (fun _ _ _ h => h) (Or.inl ⟨by rfl, ?hyd8⟩) (by assumption) ?_
            case hyd8 => (intro w hSw; (try dsimp only at hSw); go_simp; try (with_reducible rfl))
            simp only [Act.put, List.getElem_toArray, List.getElem_cons_succ, List.getElem_cons_zero, List.setIfInBounds_toArray, List.set_cons_zero, List.set_cons_succ]
            refine wpAnyH_take (i := 9) (v := ?_) rfl (by kernel_rfl) (by kernel_rfl) (by kernel_rfl) (fun _ _ _ h => h) (Or.inl ⟨by rfl, ?hyd9⟩) (by assumption) ?_
            case hyd9 => (intro w hSw; (try dsimp only at hSw); go_simp; try (with_reducible rfl))
            simp only [Act.put, List.getElem_toArray, List.getElem_cons_succ, List.getElem_cons_zero, List.setIfInBounds_toArray, List.set_cons_zero, List.set_cons_succ]
            refine wpAnyH_take (i := 10) (v := ?_) rfl (by kernel_rfl) (by kernel_rfl) (by kernel_rfl) (fun _ _ _ h => h) (Or.inl ⟨by rfl, ?hyd10⟩) (by assumption) ?_
            case hyd10 => (intro w hSw; (try dsimp only at hSw); go_simp; try (with_reducible rfl))
            simp only [Act.put, List.getElem_toArray, List.getElem_cons_succ, List.getElem_cons_zero, List.setIfInBounds_toArray, List.set_cons_zero, List.set_cons_succ]
            have b0 : x3.cell? ⟨wr.heap.size, 0, none⟩ = some (.bool false) := (hk3.below.cell (p := ⟨wr.heap.size, 0, none⟩) (by simp)).trans (by simp [go_sem])
            have b1 : x3.cell? ⟨wr.heap.size, 1, none⟩ = some (.slice none 0 0) := (hk3.below.cell (p := ⟨wr.heap.size, 1, none⟩) (by simp)).trans (by simp [go_sem])
            have b2 : x3.cell? ⟨wr.heap.size, 2, none⟩ = some (.int .i64 0) := (hk3.below.cell (p := ⟨wr.heap.size, 2, none⟩) (by simp)).trans (by simp [go_sem])
            have bf : ∀ o, x3.frozen? ⟨wr.heap.size, o, none⟩ = false := fun o => (hk3.frozen _).trans (by simp [go_sem])
            have HB : W.heap.size ≤ wr.heap.size := hKr.below.size
            have hsz := hk3.below.size
            (try simp only [World.size_alloc] at hsz)
            refine wpAnyH_ready (rs := [12]) (by kernel_rfl) (by simp) ?_
            refine AllReadyH.cons rfl (fun K hK9 => ?_) AllReadyH.nil
            go_simp
            have kF := hHeld3.1.setCell (p := ⟨wr.heap.size, 0, none⟩) HB (.bool vn) |>.setCell (p := ⟨wr.heap.size, 1, none⟩) HB (.slice va vl vc) |>.setCell (p := ⟨wr.heap.size, 2, none⟩) HB (.int .i64 vx)
            refine hK9.out _ _ (HS.out _ kF) (fun hHeld9 => ?_)
            clear hK9 K
            refine wpAnyH_take (i := 13) (v := ?_) rfl (by kernel_rfl) (by kernel_rfl) (by kernel_rfl) (fun _ _ _ h => h) (Or.inl ⟨by rfl, ?hye13⟩) (by assumption) ?_
            case hye13 => (intro w hSw; (try dsimp only at hSw); go_simp; try (with_reducible rfl))
            simp only [Act.put, List.getElem_toArray, List.getElem_cons_succ, List.getElem_cons_zero, List.setIfInBounds_toArray, List.set_cons_zero, List.set_cons_succ]
            refine wpAnyH_done (by kernel_rfl) ?_ _
            (try simp only [List.getElem_toArray, List.getElem_cons_succ, List.getElem_cons_zero, List.setIfInBounds_toArray, List.set_cons_zero, List.set_cons_succ])
            go_wp2_with fail
            go_meet
            case rel => exact ⟨wr.heap.size, vn, va, vl, vc, vx, rfl, rfl, ⟨by simp [go_sem, b0, b1, b2], by simp [go_sem, b0, b1, b2], by simp [go_sem, b0, b1, b2]⟩, newSet hN (by simp) hI.1 HB (.bool vn) (.slice va vl vc) (.int .i64 vx), kF⟩
        case rest =>
          obtain ⟨B, vn, va, vl, vc, vx, rfl, rfl, cB, hN, hk1⟩ := hcut
          have hc := HC.out
          obtain ⟨f0, f1, f2, f3⟩ := res_cells (w.heap.size + 1) (by omega) hk1 hc.1 hc.2.1 hc.2.2.1 hc.2.2.2
          go_wp2
          have := res_done (w.heap.size + 1) (by omega) (by omega) hK hN hk1 (.bool vn) (.slice va vl vc) (.int .i64 vx)
          exact bodyPost_ret (v := .agg #[.bool vn, .slice va vl vc, .int .i64 vx]) (by simp [results, Tryd.results24, go_sem, f0, f1, f2]) rfl ⟨⟨_, rfl, this.1⟩, this.2⟩
      · go_upto_region 6 with fail
        go_cut [9, 10] from 43 (fun tb te wx => ∃ B vn va vl vc vx, tb = .pointer (some ⟨B, 0, none⟩) ∧ te = .int .i64 0 ∧ (wx.cell? ⟨B, 0, none⟩ = some (.bool vn) ∧ wx.cell? ⟨B, 1, none⟩ = some (.slice va vl vc) ∧ wx.cell? ⟨B, 2, none⟩ = some (.int .i64 vx)) ∧ New W wx (.agg #[.bool vn, .slice va vl vc, .int .i64 vx]) r ∧ Kept W wx)
        case first =>
          refine wp_region_held_drew (S := fun u => Kept W u ∧ (u.cell? ⟨w.heap.size, 0, none⟩ = some (.bool n1) ∧ u.cell? ⟨w.heap.size, 1, none⟩ = some (.slice a1 l1 c1)) ∧ u.cell? ⟨w.heap.size, 2, none⟩ = some (.int .i64 x1)) (by kernel_rfl) (HS.out _ hKr.drew) (fun hHeld => ?_)
          refine wpAnyH_take (i := 0) (v := ?_) rfl (by kernel_rfl) (by kernel_rfl) (by kernel_rfl) (fun _ _ _ h => h) (Or.inl ⟨by rfl, ?hya0⟩) (by assumption) ?_
          case hya0 => (intro w hSw; (try dsimp only at hSw); go_simp; try (with_reducible rfl))
          simp only [Act.put, List.getElem_toArray, List.getElem_cons_succ, List.getElem_cons_zero, List.setIfInBounds_toArray, List.set_cons_zero, List.set_cons_succ]
          refine wpAnyH_take (i := 1) (v := ?_) rfl (by kernel_rfl) (by kernel_rfl) (by kernel_rfl) (fun _ _ _ h => h) (Or.inl ⟨by rfl, ?hya1⟩) (by assumption) ?_
          case hya1 => (intro w hSw; (try dsimp only at hSw); go_simp; try (with_reducible rfl))
          simp only [Act.put, List.getElem_toArray, List.getElem_cons_succ, List.getElem_cons_zero, List.setIfInBounds_toArray, List.set_cons_zero, List.set_cons_succ]
          refine wpAnyH_take (i := 2) (v := ?_) rfl (by kernel_rfl) (by kernel_rfl) (by kernel_rfl) (fun _ _ _ h => h) (Or.inl ⟨by rfl, ?hya2⟩) (by assumption) ?_
          case hya2 => (intro w hSw; (try dsimp only at hSw); go_simp; try (with_reducible rfl))
          simp only [Act.put, List.getElem_toArray, List.getElem_cons_succ, List.getElem_cons_zero, List.setIfInBounds_toArray, List.set_cons_zero, List.set_cons_succ]
          refine wpAnyH_take (i := 3) (v := ?_) rfl (by kernel_rfl) (by kernel_rfl) (by kernel_rfl) (fun _ _ _ h => h) (Or.inl ⟨by rfl, ?hya3⟩) (by assumption) ?_
          case hya3 => (intro w hSw; (try dsimp only at hSw); go_simp; try (with_reducible rfl))
          simp only [Act.put, List.getElem_toArray, List.getElem_cons_succ, List.getElem_cons_zero, List.setIfInBounds_toArray, List.set_cons_zero, List.set_cons_succ]
          refine wpAnyH_take (i := 4) (v := ?_) rfl (by kernel_rfl) (by kernel_rfl) (by kernel_rfl) (fun _ _ _ h => h) (Or.inl ⟨by rfl, ?hya4⟩) (by assumption) ?_
          case hya4 => (intro w hSw; (try dsimp only at hSw); go_simp; try (with_reducible rfl))
          simp only [Act.put, List.getElem_toArray, List.getElem_cons_succ, List.getElem_cons_zero, List.setIfInBounds_toArray, List.set_cons_zero, List.set_cons_succ]
          refine wpAnyH_take (i := 5) (v := ?_) rfl (by kernel_rfl) (by kernel_rfl) (by kernel_rfl) (fun _ _ _ h => h) (Or.inl ⟨by rfl, ?hya5⟩) (by assumption) ?_
          case hya5 => (intro w hSw; (try dsimp only at hSw); go_simp; try (with_reducible rfl))
          simp only [Act.put, List.getElem_toArray, List.getElem_cons_succ, List.getElem_cons_zero, List.setIfInBounds_toArray, List.set_cons_zero, List.set_cons_succ]
          refine wpAnyH_take (i := 6) (v := ?_) rfl (by kernel_rfl) (by kernel_rfl) (by kernel_rfl) (fun _ _ _ h => h) (Or.inl ⟨by rfl, ?hya6⟩) (by assumption) ?_
          case hya6 => (intro w hSw; (try dsimp only at hSw); go_simp; try (with_reducible rfl))
          simp only [Act.put, List.getElem_toArray, List.getElem_cons_succ, List.getElem_cons_zero, List.setIfInBounds_toArray, List.set_cons_zero, List.set_cons_succ]
          refine wpAnyH_ready (rs := [7, 11]) (by kernel_rfl) (by simp) ?_
          refine AllReadyH.cons rfl (fun K hK9 => ?_) (AllReadyH.cons rfl (fun K hK9 => ?_) AllReadyH.nil)
          · have hI := hHeld
            have mI := hM.kept ((Kept.refl wr).drew)
            go_simp
            go_wp2_with fail
            refine (KM.out _ _ hI.1 mI).mono ?_
            rintro e x3 ⟨v, rfl, hN, hk3⟩
            obtain ⟨vn, va, vl, vc, vx, rfl⟩ := hN.shape
            refine hK9.out _ _ (HS.out _ (hI.1.trans hk3)) (fun hHeld3 => ?_)
            clear hK9 K
            refine wpAnyH_take (i := 8) (v := ?_) rfl (by kernel_rfl) (by kernel_rfl) (by kernel_rfl) (fun _ _ _ h => h) (Or.inl ⟨by rfl, ?hyb8⟩) (by assumption) ?_
            case hyb8 => (intro w hSw; (try dsimp only at hSw); go_simp; try (with_reducible rfl))
            simp only [Act.put, List.getElem_toArray, List.getElem_cons_succ, List.getElem_cons_zero, List.setIfInBounds_toArray, List.set_cons_zero, List.set_cons_succ]
            refine wpAnyH_take (i := 9) (v := ?_) rfl (by kernel_rfl) (by kernel_rfl) (by kernel_rfl) (fun _ _ _ h => h) (Or.inl ⟨by rfl, ?hyb9⟩) (by assumption) ?_
            case hyb9 => (intro w hSw; (try dsimp only at hSw); go_simp; try (with_reducible rfl))
            simp only [Act.put, List.getElem_toArray, List.getElem_cons_succ, List.getElem_cons_zero, List.setIfInBounds_toArray, List.set_cons_zero, List.set_cons_succ]
            refine wpAnyH_take (i := 10) (v := ?_) rfl (by kernel_rfl) (by kernel_rfl) (by kernel_rfl) (fun _ _ _ h => h) (Or.inl ⟨by rfl, ?hyb10⟩) (by assumption) ?_
            case hyb10 => (intro w hSw; (try dsimp only at hSw); go_simp; try (with_reducible rfl))
            simp only [Act.put, List.getElem_toArray, List.getElem_cons_succ, List.getElem_cons_zero, List.setIfInBounds_toArray, List.set_cons_zero, List.set_cons_succ]
            refine wpAnyH_ready (rs := [11]) (by kernel_rfl) (by simp) ?_
            refine AllReadyH.cons rfl (fun K hK9 => ?_) AllReadyH.nil
            go_simp
            refine hK9.out _ _ (HS.out _ (hHeld3.1.alloc _ _)) (fun hHeld4 => ?_)
            clear hK9 K
            refine wpAnyH_ready (rs := [12]) (by kernel_rfl) (by simp) ?_
            refine AllReadyH.cons rfl (fun K hK9 => ?_) AllReadyH.nil
            go_simp
            have kF := hHeld3.1.alloc #[.bool vn, .slice va vl vc, .int .i64 vx] 24
            refine hK9.out _ _ (HS.out _ kF) (fun hHeld9 => ?_)
            clear hK9 K
            refine wpAnyH_take (i := 13) (v := ?_) rfl (by kernel_rfl) (by kernel_rfl) (by kernel_rfl) (fun _ _ _ h => h) (Or.inl ⟨by rfl, ?hyc13⟩) (by assumption) ?_
            case hyc13 => (intro w hSw; (try dsimp only at hSw); go_simp; try (with_reducible rfl))
            simp only [Act.put, List.getElem_toArray, List.getElem_cons_succ, List.getElem_cons_zero, List.setIfInBounds_toArray, List.set_cons_zero, List.set_cons_succ]
            refine wpAnyH_done (by kernel_rfl) ?_ _
            (try simp only [List.getElem_toArray, List.getElem_cons_succ, List.getElem_cons_zero, List.setIfInBounds_toArray, List.set_cons_zero, List.set_cons_succ])
            go_wp2_with fail
            go_meet
            case rel => exact ⟨x3.heap.size, vn, va, vl, vc, vx, rfl, rfl, ⟨by simp [go_sem], by simp [go_sem], by simp [go_sem]⟩, (hN.from hI.1).kept ((Kept.refl x3).alloc _ _), kF⟩
          · go_simp
            refine hK9.out _ _ (HS.out _ (hHeld.1.alloc _ _)) (fun hI => ?_)
            clear hK9 K
            have mI := (hM.kept ((Kept.refl wr).drew)).kept ((Kept.refl _).alloc #[.bool false, .slice none 0 0, .int .i64 0] 24)
            refine wpAnyH_ready (rs := [7]) (by kernel_rfl) (by simp) ?_
            refine AllReadyH.cons rfl (fun K hK9 => ?_) AllReadyH.nil
            go_simp
            go_wp2_with fail
            refine (KM.out _ _ hI.1 mI).mono ?_
            rintro e x3 ⟨v, rfl, hN, hk3⟩
            obtain ⟨vn, va, vl, vc, vx, rfl⟩ := hN.shape
            refine hK9.out _ _ (HS.out _ (hI.1.trans hk3)) (fun hHeld3 => ?_)
            clear hK9 K
            refine wpAnyH_take (i := 8) (v := ?_) rfl (by kernel_rfl) (by kernel_rfl) (by kernel_rfl) (fun _ _ _ h => h) (Or.inl ⟨by rfl, ?hyd8⟩) (by assumption) ?_
            case hyd8 => (intro w hSw; (try dsimp only at hSw); go_simp; try (with_reducible rfl))
            simp only [Act.put, List.getElem_toArray, List.getElem_cons_succ, List.getElem_cons_zero, List.setIfInBounds_toArray, List.set_cons_zero, List.set_cons_succ]
            refine wpAnyH_take (i := 9) (v := ?_) rfl (by kernel_rfl) (by kernel_rfl) (by kernel_rfl) (fun _ _ _ h => h) (Or.inl ⟨by rfl, ?hyd9⟩) (by assumption) ?_
            case hyd9 => (intro w hSw; (try dsimp only at hSw); go_simp; try (with_reducible rfl))
            simp only [Act.put, List.getElem_toArray, List.getElem_cons_succ, List.getElem_cons_zero, List.setIfInBounds_toArray, List.set_cons_zero, List.set_cons_succ]
            refine wpAnyH_take (i := 10) (v := ?_) rfl (by kernel_rfl) (by kernel_rfl) (by kernel_rfl) (fun _ _ _ h => h) (Or.inl ⟨by rfl, ?hyd10⟩) (by assumption) ?_
            case hyd10 => (intro w hSw; (try dsimp only at hSw); go_simp; try (with_reducible rfl))
            simp only [Act.put, List.getElem_toArray, List.getElem_cons_succ, List.getElem_cons_zero, List.setIfInBounds_toArray, List.set_cons_zero, List.set_cons_succ]
            have b0 : x3.cell? ⟨wr.heap.size, 0, none⟩ = some (.bool false) := (hk3.below.cell (p := ⟨wr.heap.size, 0, none⟩) (by simp)).trans (by simp [go_sem])
            have b1 : x3.cell? ⟨wr.heap.size, 1, none⟩ = some (.slice none 0 0) := (hk3.below.cell (p := ⟨wr.heap.size, 1, none⟩) (by simp)).trans (by simp [go_sem])
            have b2 : x3.cell? ⟨wr.heap.size, 2, none⟩ = some (.int .i64 0) := (hk3.below.cell (p := ⟨wr.heap.size, 2, none⟩) (by simp)).trans (by simp [go_sem])
            have bf : ∀ o, x3.frozen? ⟨wr.heap.size, o, none⟩ = false := fun o => (hk3.frozen _).trans (by simp [go_sem])
            have HB : W.heap.size ≤ wr.heap.size := hKr.below.size
            have hsz := hk3.below.size
            (try simp only [World.size_alloc] at hsz)
            refine wpAnyH_ready (rs := [12]) (by kernel_rfl) (by simp) ?_
            refine AllReadyH.cons rfl (fun K hK9 => ?_) AllReadyH.nil
            go_simp
            have kF := hHeld3.1.setCell (p := ⟨wr.heap.size, 0, none⟩) HB (.bool vn) |>.setCell (p := ⟨wr.heap.size, 1, none⟩) HB (.slice va vl vc) |>.setCell (p := ⟨wr.heap.size, 2, none⟩) HB (.int .i64 vx)
            refine hK9.out _ _ (HS.out _ kF) (fun hHeld9 => ?_)
            clear hK9 K
            refine wpAnyH_take (i := 13) (v := ?_) rfl (by kernel_rfl) (by kernel_rfl) (by kernel_rfl) (fun _ _ _ h => h) (Or.inl ⟨by rfl, ?hye13⟩) (by assumption) ?_
            case hye13 => (intro w hSw; (try dsimp only at hSw); go_simp; try (with_reducible rfl))
            simp only [Act.put, List.getElem_toArray, List.getElem_cons_succ, List.getElem_cons_zero, List.setIfInBounds_toArray, List.set_cons_zero, List.set_cons_succ]
            refine wpAnyH_done (by kernel_rfl) ?_ _
            (try simp only [List.getElem_toArray, List.getElem_cons_succ, List.getElem_cons_zero, List.setIfInBounds_toArray, List.set_cons_zero, List.set_cons_succ])
            go_wp2_with fail
            go_meet
            case rel => exact ⟨wr.heap.size, vn, va, vl, vc, vx, rfl, rfl, ⟨by simp [go_sem, b0, b1, b2], by simp [go_sem, b0, b1, b2], by simp [go_sem, b0, b1, b2]⟩, newSet hN (by simp) hI.1 HB (.bool vn) (.slice va vl vc) (.int .i64 vx), kF⟩
        case rest =>
          obtain ⟨B, vn, va, vl, vc, vx, rfl, rfl, cB, hN, hk1⟩ := hcut
          have hc := HC.out
          obtain ⟨f0, f1, f2, f3⟩ := res_cells (w.heap.size + 1) (by omega) hk1 hc.1 hc.2.1 hc.2.2.1 hc.2.2.2
          go_wp2
          have := res_done (w.heap.size + 1) (by omega) (by omega) hK hN hk1 (.bool vn) (.slice va vl vc) (.int .i64 vx)
          exact bodyPost_ret (v := .agg #[.bool vn, .slice va vl vc, .int .i64 vx]) (by simp [results, Tryd.results24, go_sem, f0, f1, f2]) rfl ⟨⟨_, rfl, this.1⟩, this.2⟩

theorem num4_at (n1 : Bool) (L : List Int) (x : Int) (a1 : Option Addr) (c1 : Nat) (hl : L.length ≤ 9223372036854775807) (w : World) (hT : Tab w) (h : Sl w (.slice a1 L.length c1) L) (r : Nm) (hr : frm n1 (nv (msk L (min L.length 4))) (x.tmod 90) = some r) : Calls Tryd.prog 24 #[.agg #[.bool n1, .slice a1 L.length c1, .int .i64 x], .int .i64 4, .int .i64 90] w fun e w' => ∃ ao c, e = .returned (.agg #[.bool r.neg, .slice ao r.mag.length c, .int .i64 r.exp]) ∧ Sl w' (.slice ao r.mag.length c) r.mag ∧ Kept w w' := by
  refine (Num4_walk n1 a1 L.length c1 x _ L rfl _ rfl rfl hl w r (fun u' k' i hi => sl_reads h k' i hi) ?_).mono ?_
  · intro H u' lv k' hM
    have hml : (msk L (min L.length 4)).length = min L.length 4 := msk_length L _ (Nat.min_le_left _ _)
    obtain ⟨ao, c, rfl, hc, hs⟩ := hM.sl
    exact make_ok n1 _ (msk_dg L _) (by omega) ao c hc _ r hr u' hs (hT.kept k')
  · rintro e w' ⟨⟨v, rfl, hN⟩, hk⟩
    obtain ⟨ao, c, rfl, hs⟩ := lay_new hN
    exact ⟨ao, c, rfl, hs, hk⟩
set_option maxHeartbeats 8000000 in
set_option maxRecDepth 100000 in
theorem roots_false (w : World) (hT : Tab w) (m1 : Nm) (q1 : Option Addr) (d1 : Nat) (hl1 : m1.mag.length ≤ 9223372036854775807) (h1 : Sl w (.slice q1 m1.mag.length d1) m1.mag) (rA : Nm) (hrA : frm m1.neg (nv (msk m1.mag (min m1.mag.length 4))) (m1.exp.tmod 90) = some rA) (rP rQ rPP rQQ : Nm) (v n b1 b2 z1 zx : Int) (y1 : bits .and .i64 v 1 = b1) (y2 : IntKind.i64.wrap (32 * b1) = b2) (y3 : IntKind.i64.wrap (32 + b2) = n) 
    (R1 : Hid (∀ X a c, Tab X → Sl X (.slice a rA.mag.length c) rA.mag → Calls Tryd.prog 25 #[.agg #[.bool false, .slice a rA.mag.length c, .int .i64 rA.exp], .int .i64 n, .int .i64 1] X fun e w' => e = .returned (.tuple #[.int .i64 z1, .bool false, .int .i64 0]) ∧ Kept X w'))
    (KX : Hid (∀ u, Calls Tryd.prog 14 #[.int .i64 z1, .int .i64 n] u fun e w' => e = .returned (.int .i64 zx) ∧ Kept u w'))
    (F1 : Hid (∀ u, Tab u → Calls Tryd.prog 15 #[.int .i64 z1, .int .i64 n] u fun e w' => ∃ ao c, e = .returned (.tuple #[.agg #[.bool rP.neg, .slice ao rP.mag.length c, .int .i64 rP.exp], .int .i64 0]) ∧ Sl w' (.slice ao rP.mag.length c) rP.mag ∧ Kept u w'))
    (F2 : Hid (∀ u, Tab u → Calls Tryd.prog 15 #[.int .i64 zx, .int .i64 n] u fun e w' => ∃ ao c, e = .returned (.tuple #[.agg #[.bool rQ.neg, .slice ao rQ.mag.length c, .int .i64 rQ.exp], .int .i64 0]) ∧ Sl w' (.slice ao rQ.mag.length c) rQ.mag ∧ Kept u w'))
    (M1 : Hid (∀ X a1 c1 a2 c2, Tab X → Sl X (.slice a1 rP.mag.length c1) rP.mag → Sl X (.slice a2 rP.mag.length c2) rP.mag → Calls Tryd.prog 23 #[.agg #[.bool rP.neg, .slice a1 rP.mag.length c1, .int .i64 rP.exp], .agg #[.bool rP.neg, .slice a2 rP.mag.length c2, .int .i64 rP.exp]] X fun e w' => ∃ ao c, e = .returned (.tuple #[.agg #[.bool rPP.neg, .slice ao rPP.mag.length c, .int .i64 rPP.exp], .int .i64 0]) ∧ Sl w' (.slice ao rPP.mag.length c) rPP.mag ∧ Kept X w'))
    (M2 : Hid (∀ X a1 c1 a2 c2, Tab X → Sl X (.slice a1 rQ.mag.length c1) rQ.mag → Sl X (.slice a2 rQ.mag.length c2) rQ.mag → Calls Tryd.prog 23 #[.agg #[.bool rQ.neg, .slice a1 rQ.mag.length c1, .int .i64 rQ.exp], .agg #[.bool rQ.neg, .slice a2 rQ.mag.length c2, .int .i64 rQ.exp]] X fun e w' => ∃ ao c, e = .returned (.tuple #[.agg #[.bool rQQ.neg, .slice ao rQQ.mag.length c, .int .i64 rQQ.exp], .int .i64 0]) ∧ Sl w' (.slice ao rQQ.mag.length c) rQQ.mag ∧ Kept X w'))
    (C1 : Hid (∀ X a1 c1 a2 c2, Sl X (.slice a1 rPP.mag.length c1) rPP.mag → Sl X (.slice a2 rA.mag.length c2) rA.mag → Calls Tryd.prog 17 #[.agg #[.bool rPP.neg, .slice a1 rPP.mag.length c1, .int .i64 rPP.exp], .agg #[.bool false, .slice a2 rA.mag.length c2, .int .i64 rA.exp]] X fun e w' => e = .returned (.tuple #[.int .i64 0, .int .i64 0]) ∧ Kept X w'))
    (C2 : Hid (∀ X a1 c1 a2 c2, Sl X (.slice a1 rQQ.mag.length c1) rQQ.mag → Sl X (.slice a2 rA.mag.length c2) rA.mag → Calls Tryd.prog 17 #[.agg #[.bool rQQ.neg, .slice a1 rQQ.mag.length c1, .int .i64 rQQ.exp], .agg #[.bool false, .slice a2 rA.mag.length c2, .int .i64 rA.exp]] X fun e w' => e = .returned (.tuple #[.int .i64 1, .int .i64 0]) ∧ Kept X w')) :
    Calls Tryd.prog 7 #[.agg #[.bool m1.neg, .slice q1 m1.mag.length d1, .int .i64 m1.exp], .int .i64 v] w fun e w' => e = .returned (.bool true) ∧ Kept w w' := by
  have HT : Hid (∀ u, Kept w u → Tab u) := fun u k => hT.kept k
  have NA : Hid (frm m1.neg (nv (msk m1.mag (min m1.mag.length 4))) (m1.exp.tmod 90) = some rA) := hrA
  have LL : Hid (m1.mag.length ≤ 9223372036854775807) := hl1
  obtain ⟨X0, hX⟩ : ∃ X, X = (w.alloc (.cells #[.bool m1.neg, .slice q1 m1.mag.length d1, .int .i64 m1.exp] 24)) := ⟨_, rfl⟩
  have k0 : Hid (Kept w X0) := by rw [hX]; exact (Kept.refl w).alloc _ _
  have Q0 : Hid (∀ u, Kept X0 u → Lay u w.heap.size q1 d1 m1) := by
    intro u k
    have kw := k0.out.trans k
    rw [hX] at k
    refine ⟨⟨⟨?_, ?_⟩, ?_⟩, h1.kept kw⟩
    · exact (k.below.cell (p := ⟨w.heap.size, 0, none⟩) (by simp <;> omega)).trans (by simp [go_sem])
    · exact (k.below.cell (p := ⟨w.heap.size, 1, none⟩) (by simp <;> omega)).trans (by simp [go_sem])
    · exact (k.below.cell (p := ⟨w.heap.size, 2, none⟩) (by simp <;> omega)).trans (by simp [go_sem])
  clear hT hrA hl1 h1
  go_enter Tryd.func7, Tryd.ntmps7
  go_upto_region 2 with fail
  rw [← hX]
  clear hX
  obtain ⟨⟨⟨c00, c01⟩, c02⟩, hs0⟩ := (Q0.out _ (Kept.refl _))
  have S0 : Hid _ := hs0
  clear hs0
  go_wp2_with fail
  refine (num4_at m1.neg m1.mag m1.exp _ _ LL.out _ (HT.out _ k0.out) S0.out _ NA.out).mono ?_
  rintro e w1 ⟨t1, g1, rfl, hs, hk⟩
  clear c00 c01 c02 S0
  go_upto_region 4 with fail
  obtain ⟨X1, hX⟩ : ∃ X, X = w1.alloc (.cells #[.bool false, .slice t1 rA.mag.length g1, .int .i64 rA.exp] 24) := ⟨_, rfl⟩
  obtain ⟨p1, hp⟩ : ∃ p, p = w1.heap.size := ⟨_, rfl⟩
  have kX : Kept X0 X1 := by rw [hX]; exact hk.alloc _ _
  have Q1 : Hid (∀ u, Kept X1 u → Lay u (p1) t1 g1 ⟨false, rA.mag, rA.exp⟩ ∧ Lay u (w.heap.size) q1 d1 m1) := fun u k => ⟨by rw [hp]; rw [hX] at k; exact lay_alloc (r := ⟨false, rA.mag, rA.exp⟩) hs k, Q0.out u (kX.trans k)⟩
  have k1 : Hid (Kept w X1) := k0.out.trans kX
  rw [← hX, ← hp]
  clear hX hp hs hk kX Q0 k0
  obtain ⟨⟨⟨c00, c01⟩, c02⟩, hs0⟩ := (Q1.out _ (Kept.refl _)).1
  have S0 : Hid _ := hs0
  clear hs0
  go_wp2_with fail
  refine (R1.out _ _ _ (HT.out _ k1.out) S0.out).mono ?_
  rintro e X2 ⟨rfl, hk⟩
  clear c00 c01 c02 S0
  have Q2 : Hid (∀ u, Kept X2 u → Lay u (p1) t1 g1 ⟨false, rA.mag, rA.exp⟩ ∧ Lay u (w.heap.size) q1 d1 m1) := fun u k => Q1.out u (hk.trans k)
  have k2 : Hid (Kept w X2) := k1.out.trans hk
  clear hk Q1 k1
  go_upto_region 5 with fail
  go_wp2_with fail
  refine (F1.out _ (HT.out _ k2.out)).mono ?_
  rintro e w3 ⟨t3, g3, rfl, hs, hk⟩
  go_upto_region 6 with fail
  obtain ⟨X3, hX⟩ : ∃ X, X = w3.alloc (.cells #[.bool rP.neg, .slice t3 rP.mag.length g3, .int .i64 rP.exp] 24) := ⟨_, rfl⟩
  obtain ⟨p3, hp⟩ : ∃ p, p = w3.heap.size := ⟨_, rfl⟩
  have kX : Kept X2 X3 := by rw [hX]; exact hk.alloc _ _
  have Q3 : Hid (∀ u, Kept X3 u → Lay u (p3) t3 g3 rP ∧ Lay u (p1) t1 g1 ⟨false, rA.mag, rA.exp⟩ ∧ Lay u (w.heap.size) q1 d1 m1) := fun u k => ⟨by rw [hp]; rw [hX] at k; exact lay_alloc hs k, Q2.out u (kX.trans k)⟩
  have k3 : Hid (Kept w X3) := k2.out.trans kX
  rw [← hX, ← hp]
  clear hX hp hs hk kX Q2 k2
  go_wp2_with fail
  refine (KX.out _).mono ?_
  rintro e X4 ⟨rfl, hk⟩
  have Q4 : Hid (∀ u, Kept X4 u → Lay u (p3) t3 g3 rP ∧ Lay u (p1) t1 g1 ⟨false, rA.mag, rA.exp⟩ ∧ Lay u (w.heap.size) q1 d1 m1) := fun u k => Q3.out u (hk.trans k)
  have k4 : Hid (Kept w X4) := k3.out.trans hk
  clear hk Q3 k3
  go_wp2_with fail
  refine (F2.out _ (HT.out _ k4.out)).mono ?_
  rintro e w5 ⟨t5, g5, rfl, hs, hk⟩
  go_upto_region 7 with fail
  obtain ⟨X5, hX⟩ : ∃ X, X = w5.alloc (.cells #[.bool rQ.neg, .slice t5 rQ.mag.length g5, .int .i64 rQ.exp] 24) := ⟨_, rfl⟩
  obtain ⟨p5, hp⟩ : ∃ p, p = w5.heap.size := ⟨_, rfl⟩
  have kX : Kept X4 X5 := by rw [hX]; exact hk.alloc _ _
  have Q5 : Hid (∀ u, Kept X5 u → Lay u (p5) t5 g5 rQ ∧ Lay u (p3) t3 g3 rP ∧ Lay u (p1) t1 g1 ⟨false, rA.mag, rA.exp⟩ ∧ Lay u (w.heap.size) q1 d1 m1) := fun u k => ⟨by rw [hp]; rw [hX] at k; exact lay_alloc hs k, Q4.out u (kX.trans k)⟩
  have k5 : Hid (Kept w X5) := k4.out.trans kX
  rw [← hX, ← hp]
  clear hX hp hs hk kX Q4 k4
  go_wp2_with fail
  refine (alive_true _ (HT.out _ k5.out)).mono ?_
  rintro e X6 ⟨rfl, hk⟩
  have Q6 : Hid (∀ u, Kept X6 u → Lay u (p5) t5 g5 rQ ∧ Lay u (p3) t3 g3 rP ∧ Lay u (p1) t1 g1 ⟨false, rA.mag, rA.exp⟩ ∧ Lay u (w.heap.size) q1 d1 m1) := fun u k => Q5.out u (hk.trans k)
  have k6 : Hid (Kept w X6) := k5.out.trans hk
  clear hk Q5 k5
  go_upto_region 9 with fail
  obtain ⟨⟨⟨c00, c01⟩, c02⟩, hs0⟩ := (Q6.out _ (Kept.refl _)).2.1
  have S0 : Hid _ := hs0
  clear hs0
  obtain ⟨⟨⟨c10, c11⟩, c12⟩, hs1⟩ := (Q6.out _ (Kept.refl _)).2.1
  have S1' : Hid _ := hs1
  clear hs1
  go_wp2_with fail
  refine (M1.out _ _ _ _ _ (HT.out _ k6.out) S0.out S1'.out).mono ?_
  rintro e w7 ⟨t7, g7, rfl, hs, hk⟩
  clear c00 c01 c02 S0 c10 c11 c12 S1'
  go_upto_region 10 with fail
  obtain ⟨X7, hX⟩ : ∃ X, X = w7.alloc (.cells #[.bool rPP.neg, .slice t7 rPP.mag.length g7, .int .i64 rPP.exp] 24) := ⟨_, rfl⟩
  obtain ⟨p7, hp⟩ : ∃ p, p = w7.heap.size := ⟨_, rfl⟩
  have kX : Kept X6 X7 := by rw [hX]; exact hk.alloc _ _
  have Q7 : Hid (∀ u, Kept X7 u → Lay u (p7) t7 g7 rPP ∧ Lay u (p5) t5 g5 rQ ∧ Lay u (p3) t3 g3 rP ∧ Lay u (p1) t1 g1 ⟨false, rA.mag, rA.exp⟩ ∧ Lay u (w.heap.size) q1 d1 m1) := fun u k => ⟨by rw [hp]; rw [hX] at k; exact lay_alloc hs k, Q6.out u (kX.trans k)⟩
  have k7 : Hid (Kept w X7) := k6.out.trans kX
  rw [← hX, ← hp]
  clear hX hp hs hk kX Q6 k6
  obtain ⟨⟨⟨c00, c01⟩, c02⟩, hs0⟩ := (Q7.out _ (Kept.refl _)).2.1
  have S0 : Hid _ := hs0
  clear hs0
  obtain ⟨⟨⟨c10, c11⟩, c12⟩, hs1⟩ := (Q7.out _ (Kept.refl _)).2.1
  have S1' : Hid _ := hs1
  clear hs1
  go_wp2_with fail
  refine (M2.out _ _ _ _ _ (HT.out _ k7.out) S0.out S1'.out).mono ?_
  rintro e w8 ⟨t8, g8, rfl, hs, hk⟩
  clear c00 c01 c02 S0 c10 c11 c12 S1'
  go_upto_region 11 with fail
  obtain ⟨X8, hX⟩ : ∃ X, X = w8.alloc (.cells #[.bool rQQ.neg, .slice t8 rQQ.mag.length g8, .int .i64 rQQ.exp] 24) := ⟨_, rfl⟩
  obtain ⟨p8, hp⟩ : ∃ p, p = w8.heap.size := ⟨_, rfl⟩
  have kX : Kept X7 X8 := by rw [hX]; exact hk.alloc _ _
  have Q8 : Hid (∀ u, Kept X8 u → Lay u (p8) t8 g8 rQQ ∧ Lay u (p7) t7 g7 rPP ∧ Lay u (p5) t5 g5 rQ ∧ Lay u (p3) t3 g3 rP ∧ Lay u (p1) t1 g1 ⟨false, rA.mag, rA.exp⟩ ∧ Lay u (w.heap.size) q1 d1 m1) := fun u k => ⟨by rw [hp]; rw [hX] at k; exact lay_alloc hs k, Q7.out u (kX.trans k)⟩
  have k8 : Hid (Kept w X8) := k7.out.trans kX
  rw [← hX, ← hp]
  clear hX hp hs hk kX Q7 k7
  obtain ⟨⟨⟨c00, c01⟩, c02⟩, hs0⟩ := (Q8.out _ (Kept.refl _)).2.1
  have S0 : Hid _ := hs0
  clear hs0
  obtain ⟨⟨⟨c10, c11⟩, c12⟩, hs1⟩ := (Q8.out _ (Kept.refl _)).2.2.2.2.1
  have S1' : Hid _ := hs1
  clear hs1
  go_wp2_with fail
  refine (C1.out _ _ _ _ _ S0.out S1'.out).mono ?_
  rintro e X9 ⟨rfl, hk⟩
  clear c00 c01 c02 S0 c10 c11 c12 S1'
  have Q9 : Hid (∀ u, Kept X9 u → Lay u (p8) t8 g8 rQQ ∧ Lay u (p7) t7 g7 rPP ∧ Lay u (p5) t5 g5 rQ ∧ Lay u (p3) t3 g3 rP ∧ Lay u (p1) t1 g1 ⟨false, rA.mag, rA.exp⟩ ∧ Lay u (w.heap.size) q1 d1 m1) := fun u k => Q8.out u (hk.trans k)
  have k9 : Hid (Kept w X9) := k8.out.trans hk
  clear hk Q8 k8
  go_upto_region 12 with fail
  obtain ⟨⟨⟨c00, c01⟩, c02⟩, hs0⟩ := (Q9.out _ (Kept.refl _)).1
  have S0 : Hid _ := hs0
  clear hs0
  obtain ⟨⟨⟨c10, c11⟩, c12⟩, hs1⟩ := (Q9.out _ (Kept.refl _)).2.2.2.2.1
  have S1' : Hid _ := hs1
  clear hs1
  go_wp2_with fail
  refine (C2.out _ _ _ _ _ S0.out S1'.out).mono ?_
  rintro e X10 ⟨rfl, hk⟩
  clear c00 c01 c02 S0 c10 c11 c12 S1'
  have Q10 : Hid (∀ u, Kept X10 u → Lay u (p8) t8 g8 rQQ ∧ Lay u (p7) t7 g7 rPP ∧ Lay u (p5) t5 g5 rQ ∧ Lay u (p3) t3 g3 rP ∧ Lay u (p1) t1 g1 ⟨false, rA.mag, rA.exp⟩ ∧ Lay u (w.heap.size) q1 d1 m1) := fun u k => Q9.out u (hk.trans k)
  have k10 : Hid (Kept w X10) := k9.out.trans hk
  clear hk Q9 k9
  go_wp2
  go_ret
  exact ⟨rfl, k10.out⟩

set_option maxHeartbeats 8000000 in
set_option maxRecDepth 100000 in
theorem roots_true (w : World) (hT : Tab w) (m1 : Nm) (q1 : Option Addr) (d1 : Nat) (hl1 : m1.mag.length ≤ 9223372036854775807) (h1 : Sl w (.slice q1 m1.mag.length d1) m1.mag) (rA : Nm) (hrA : frm m1.neg (nv (msk m1.mag (min m1.mag.length 4))) (m1.exp.tmod 90) = some rA) (rP rQ rPP rQQ : Nm) (v n b1 b2 z1 zx : Int) (y1 : bits .and .i64 v 1 = b1) (y2 : IntKind.i64.wrap (32 * b1) = b2) (y3 : IntKind.i64.wrap (32 + b2) = n) 
    (R1 : Hid (∀ X a c, Tab X → Sl X (.slice a rA.mag.length c) rA.mag → Calls Tryd.prog 25 #[.agg #[.bool false, .slice a rA.mag.length c, .int .i64 rA.exp], .int .i64 n, .int .i64 1] X fun e w' => e = .returned (.tuple #[.int .i64 z1, .bool true, .int .i64 0]) ∧ Kept X w'))
    (KX : Hid (∀ u, Calls Tryd.prog 14 #[.int .i64 z1, .int .i64 n] u fun e w' => e = .returned (.int .i64 zx) ∧ Kept u w'))
    (F1 : Hid (∀ u, Tab u → Calls Tryd.prog 15 #[.int .i64 z1, .int .i64 n] u fun e w' => ∃ ao c, e = .returned (.tuple #[.agg #[.bool rP.neg, .slice ao rP.mag.length c, .int .i64 rP.exp], .int .i64 0]) ∧ Sl w' (.slice ao rP.mag.length c) rP.mag ∧ Kept u w'))
    (F2 : Hid (∀ u, Tab u → Calls Tryd.prog 15 #[.int .i64 zx, .int .i64 n] u fun e w' => ∃ ao c, e = .returned (.tuple #[.agg #[.bool rQ.neg, .slice ao rQ.mag.length c, .int .i64 rQ.exp], .int .i64 0]) ∧ Sl w' (.slice ao rQ.mag.length c) rQ.mag ∧ Kept u w'))
    (M1 : Hid (∀ X a1 c1 a2 c2, Tab X → Sl X (.slice a1 rP.mag.length c1) rP.mag → Sl X (.slice a2 rP.mag.length c2) rP.mag → Calls Tryd.prog 23 #[.agg #[.bool rP.neg, .slice a1 rP.mag.length c1, .int .i64 rP.exp], .agg #[.bool rP.neg, .slice a2 rP.mag.length c2, .int .i64 rP.exp]] X fun e w' => ∃ ao c, e = .returned (.tuple #[.agg #[.bool rPP.neg, .slice ao rPP.mag.length c, .int .i64 rPP.exp], .int .i64 0]) ∧ Sl w' (.slice ao rPP.mag.length c) rPP.mag ∧ Kept X w'))
    (M2 : Hid (∀ X a1 c1 a2 c2, Tab X → Sl X (.slice a1 rQ.mag.length c1) rQ.mag → Sl X (.slice a2 rQ.mag.length c2) rQ.mag → Calls Tryd.prog 23 #[.agg #[.bool rQ.neg, .slice a1 rQ.mag.length c1, .int .i64 rQ.exp], .agg #[.bool rQ.neg, .slice a2 rQ.mag.length c2, .int .i64 rQ.exp]] X fun e w' => ∃ ao c, e = .returned (.tuple #[.agg #[.bool rQQ.neg, .slice ao rQQ.mag.length c, .int .i64 rQQ.exp], .int .i64 0]) ∧ Sl w' (.slice ao rQQ.mag.length c) rQQ.mag ∧ Kept X w'))
    (C1 : Hid (∀ X a1 c1 a2 c2, Sl X (.slice a1 rPP.mag.length c1) rPP.mag → Sl X (.slice a2 rA.mag.length c2) rA.mag → Calls Tryd.prog 17 #[.agg #[.bool rPP.neg, .slice a1 rPP.mag.length c1, .int .i64 rPP.exp], .agg #[.bool false, .slice a2 rA.mag.length c2, .int .i64 rA.exp]] X fun e w' => e = .returned (.tuple #[.int .i64 (-1), .int .i64 0]) ∧ Kept X w'))
    (C2 : Hid (∀ X a1 c1 a2 c2, Sl X (.slice a1 rQQ.mag.length c1) rQQ.mag → Sl X (.slice a2 rA.mag.length c2) rA.mag → Calls Tryd.prog 17 #[.agg #[.bool rQQ.neg, .slice a1 rQQ.mag.length c1, .int .i64 rQQ.exp], .agg #[.bool false, .slice a2 rA.mag.length c2, .int .i64 rA.exp]] X fun e w' => e = .returned (.tuple #[.int .i64 1, .int .i64 0]) ∧ Kept X w')) :
    Calls Tryd.prog 7 #[.agg #[.bool m1.neg, .slice q1 m1.mag.length d1, .int .i64 m1.exp], .int .i64 v] w fun e w' => e = .returned (.bool true) ∧ Kept w w' := by
  have HT : Hid (∀ u, Kept w u → Tab u) := fun u k => hT.kept k
  have NA : Hid (frm m1.neg (nv (msk m1.mag (min m1.mag.length 4))) (m1.exp.tmod 90) = some rA) := hrA
  have LL : Hid (m1.mag.length ≤ 9223372036854775807) := hl1
  obtain ⟨X0, hX⟩ : ∃ X, X = (w.alloc (.cells #[.bool m1.neg, .slice q1 m1.mag.length d1, .int .i64 m1.exp] 24)) := ⟨_, rfl⟩
  have k0 : Hid (Kept w X0) := by rw [hX]; exact (Kept.refl w).alloc _ _
  have Q0 : Hid (∀ u, Kept X0 u → Lay u w.heap.size q1 d1 m1) := by
    intro u k
    have kw := k0.out.trans k
    rw [hX] at k
    refine ⟨⟨⟨?_, ?_⟩, ?_⟩, h1.kept kw⟩
    · exact (k.below.cell (p := ⟨w.heap.size, 0, none⟩) (by simp <;> omega)).trans (by simp [go_sem])
    · exact (k.below.cell (p := ⟨w.heap.size, 1, none⟩) (by simp <;> omega)).trans (by simp [go_sem])
    · exact (k.below.cell (p := ⟨w.heap.size, 2, none⟩) (by simp <;> omega)).trans (by simp [go_sem])
  clear hT hrA hl1 h1
  go_enter Tryd.func7, Tryd.ntmps7
  go_upto_region 2 with fail
  rw [← hX]
  clear hX
  obtain ⟨⟨⟨c00, c01⟩, c02⟩, hs0⟩ := (Q0.out _ (Kept.refl _))
  have S0 : Hid _ := hs0
  clear hs0
  go_wp2_with fail
  refine (num4_at m1.neg m1.mag m1.exp _ _ LL.out _ (HT.out _ k0.out) S0.out _ NA.out).mono ?_
  rintro e w1 ⟨t1, g1, rfl, hs, hk⟩
  clear c00 c01 c02 S0
  go_upto_region 4 with fail
  obtain ⟨X1, hX⟩ : ∃ X, X = w1.alloc (.cells #[.bool false, .slice t1 rA.mag.length g1, .int .i64 rA.exp] 24) := ⟨_, rfl⟩
  obtain ⟨p1, hp⟩ : ∃ p, p = w1.heap.size := ⟨_, rfl⟩
  have kX : Kept X0 X1 := by rw [hX]; exact hk.alloc _ _
  have Q1 : Hid (∀ u, Kept X1 u → Lay u (p1) t1 g1 ⟨false, rA.mag, rA.exp⟩ ∧ Lay u (w.heap.size) q1 d1 m1) := fun u k => ⟨by rw [hp]; rw [hX] at k; exact lay_alloc (r := ⟨false, rA.mag, rA.exp⟩) hs k, Q0.out u (kX.trans k)⟩
  have k1 : Hid (Kept w X1) := k0.out.trans kX
  rw [← hX, ← hp]
  clear hX hp hs hk kX Q0 k0
  obtain ⟨⟨⟨c00, c01⟩, c02⟩, hs0⟩ := (Q1.out _ (Kept.refl _)).1
  have S0 : Hid _ := hs0
  clear hs0
  go_wp2_with fail
  refine (R1.out _ _ _ (HT.out _ k1.out) S0.out).mono ?_
  rintro e X2 ⟨rfl, hk⟩
  clear c00 c01 c02 S0
  have Q2 : Hid (∀ u, Kept X2 u → Lay u (p1) t1 g1 ⟨false, rA.mag, rA.exp⟩ ∧ Lay u (w.heap.size) q1 d1 m1) := fun u k => Q1.out u (hk.trans k)
  have k2 : Hid (Kept w X2) := k1.out.trans hk
  clear hk Q1 k1
  go_upto_region 5 with fail
  go_wp2_with fail
  refine (F1.out _ (HT.out _ k2.out)).mono ?_
  rintro e w3 ⟨t3, g3, rfl, hs, hk⟩
  go_upto_region 6 with fail
  obtain ⟨X3, hX⟩ : ∃ X, X = w3.alloc (.cells #[.bool rP.neg, .slice t3 rP.mag.length g3, .int .i64 rP.exp] 24) := ⟨_, rfl⟩
  obtain ⟨p3, hp⟩ : ∃ p, p = w3.heap.size := ⟨_, rfl⟩
  have kX : Kept X2 X3 := by rw [hX]; exact hk.alloc _ _
  have Q3 : Hid (∀ u, Kept X3 u → Lay u (p3) t3 g3 rP ∧ Lay u (p1) t1 g1 ⟨false, rA.mag, rA.exp⟩ ∧ Lay u (w.heap.size) q1 d1 m1) := fun u k => ⟨by rw [hp]; rw [hX] at k; exact lay_alloc hs k, Q2.out u (kX.trans k)⟩
  have k3 : Hid (Kept w X3) := k2.out.trans kX
  rw [← hX, ← hp]
  clear hX hp hs hk kX Q2 k2
  go_wp2_with fail
  refine (KX.out _).mono ?_
  rintro e X4 ⟨rfl, hk⟩
  have Q4 : Hid (∀ u, Kept X4 u → Lay u (p3) t3 g3 rP ∧ Lay u (p1) t1 g1 ⟨false, rA.mag, rA.exp⟩ ∧ Lay u (w.heap.size) q1 d1 m1) := fun u k => Q3.out u (hk.trans k)
  have k4 : Hid (Kept w X4) := k3.out.trans hk
  clear hk Q3 k3
  go_wp2_with fail
  refine (F2.out _ (HT.out _ k4.out)).mono ?_
  rintro e w5 ⟨t5, g5, rfl, hs, hk⟩
  go_upto_region 7 with fail
  obtain ⟨X5, hX⟩ : ∃ X, X = w5.alloc (.cells #[.bool rQ.neg, .slice t5 rQ.mag.length g5, .int .i64 rQ.exp] 24) := ⟨_, rfl⟩
  obtain ⟨p5, hp⟩ : ∃ p, p = w5.heap.size := ⟨_, rfl⟩
  have kX : Kept X4 X5 := by rw [hX]; exact hk.alloc _ _
  have Q5 : Hid (∀ u, Kept X5 u → Lay u (p5) t5 g5 rQ ∧ Lay u (p3) t3 g3 rP ∧ Lay u (p1) t1 g1 ⟨false, rA.mag, rA.exp⟩ ∧ Lay u (w.heap.size) q1 d1 m1) := fun u k => ⟨by rw [hp]; rw [hX] at k; exact lay_alloc hs k, Q4.out u (kX.trans k)⟩
  have k5 : Hid (Kept w X5) := k4.out.trans kX
  rw [← hX, ← hp]
  clear hX hp hs hk kX Q4 k4
  go_wp2_with fail
  refine (alive_true _ (HT.out _ k5.out)).mono ?_
  rintro e X6 ⟨rfl, hk⟩
  have Q6 : Hid (∀ u, Kept X6 u → Lay u (p5) t5 g5 rQ ∧ Lay u (p3) t3 g3 rP ∧ Lay u (p1) t1 g1 ⟨false, rA.mag, rA.exp⟩ ∧ Lay u (w.heap.size) q1 d1 m1) := fun u k => Q5.out u (hk.trans k)
  have k6 : Hid (Kept w X6) := k5.out.trans hk
  clear hk Q5 k5
  go_upto_region 9 with fail
  obtain ⟨⟨⟨c00, c01⟩, c02⟩, hs0⟩ := (Q6.out _ (Kept.refl _)).2.1
  have S0 : Hid _ := hs0
  clear hs0
  obtain ⟨⟨⟨c10, c11⟩, c12⟩, hs1⟩ := (Q6.out _ (Kept.refl _)).2.1
  have S1' : Hid _ := hs1
  clear hs1
  go_wp2_with fail
  refine (M1.out _ _ _ _ _ (HT.out _ k6.out) S0.out S1'.out).mono ?_
  rintro e w7 ⟨t7, g7, rfl, hs, hk⟩
  clear c00 c01 c02 S0 c10 c11 c12 S1'
  go_upto_region 10 with fail
  obtain ⟨X7, hX⟩ : ∃ X, X = w7.alloc (.cells #[.bool rPP.neg, .slice t7 rPP.mag.length g7, .int .i64 rPP.exp] 24) := ⟨_, rfl⟩
  obtain ⟨p7, hp⟩ : ∃ p, p = w7.heap.size := ⟨_, rfl⟩
  have kX : Kept X6 X7 := by rw [hX]; exact hk.alloc _ _
  have Q7 : Hid (∀ u, Kept X7 u → Lay u (p7) t7 g7 rPP ∧ Lay u (p5) t5 g5 rQ ∧ Lay u (p3) t3 g3 rP ∧ Lay u (p1) t1 g1 ⟨false, rA.mag, rA.exp⟩ ∧ Lay u (w.heap.size) q1 d1 m1) := fun u k => ⟨by rw [hp]; rw [hX] at k; exact lay_alloc hs k, Q6.out u (kX.trans k)⟩
  have k7 : Hid (Kept w X7) := k6.out.trans kX
  rw [← hX, ← hp]
  clear hX hp hs hk kX Q6 k6
  obtain ⟨⟨⟨c00, c01⟩, c02⟩, hs0⟩ := (Q7.out _ (Kept.refl _)).2.1
  have S0 : Hid _ := hs0
  clear hs0
  obtain ⟨⟨⟨c10, c11⟩, c12⟩, hs1⟩ := (Q7.out _ (Kept.refl _)).2.1
  have S1' : Hid _ := hs1
  clear hs1
  go_wp2_with fail
  refine (M2.out _ _ _ _ _ (HT.out _ k7.out) S0.out S1'.out).mono ?_
  rintro e w8 ⟨t8, g8, rfl, hs, hk⟩
  clear c00 c01 c02 S0 c10 c11 c12 S1'
  go_upto_region 11 with fail
  obtain ⟨X8, hX⟩ : ∃ X, X = w8.alloc (.cells #[.bool rQQ.neg, .slice t8 rQQ.mag.length g8, .int .i64 rQQ.exp] 24) := ⟨_, rfl⟩
  obtain ⟨p8, hp⟩ : ∃ p, p = w8.heap.size := ⟨_, rfl⟩
  have kX : Kept X7 X8 := by rw [hX]; exact hk.alloc _ _
  have Q8 : Hid (∀ u, Kept X8 u → Lay u (p8) t8 g8 rQQ ∧ Lay u (p7) t7 g7 rPP ∧ Lay u (p5) t5 g5 rQ ∧ Lay u (p3) t3 g3 rP ∧ Lay u (p1) t1 g1 ⟨false, rA.mag, rA.exp⟩ ∧ Lay u (w.heap.size) q1 d1 m1) := fun u k => ⟨by rw [hp]; rw [hX] at k; exact lay_alloc hs k, Q7.out u (kX.trans k)⟩
  have k8 : Hid (Kept w X8) := k7.out.trans kX
  rw [← hX, ← hp]
  clear hX hp hs hk kX Q7 k7
  obtain ⟨⟨⟨c00, c01⟩, c02⟩, hs0⟩ := (Q8.out _ (Kept.refl _)).2.1
  have S0 : Hid _ := hs0
  clear hs0
  obtain ⟨⟨⟨c10, c11⟩, c12⟩, hs1⟩ := (Q8.out _ (Kept.refl _)).2.2.2.2.1
  have S1' : Hid _ := hs1
  clear hs1
  go_wp2_with fail
  refine (C1.out _ _ _ _ _ S0.out S1'.out).mono ?_
  rintro e X9 ⟨rfl, hk⟩
  clear c00 c01 c02 S0 c10 c11 c12 S1'
  have Q9 : Hid (∀ u, Kept X9 u → Lay u (p8) t8 g8 rQQ ∧ Lay u (p7) t7 g7 rPP ∧ Lay u (p5) t5 g5 rQ ∧ Lay u (p3) t3 g3 rP ∧ Lay u (p1) t1 g1 ⟨false, rA.mag, rA.exp⟩ ∧ Lay u (w.heap.size) q1 d1 m1) := fun u k => Q8.out u (hk.trans k)
  have k9 : Hid (Kept w X9) := k8.out.trans hk
  clear hk Q8 k8
  go_upto_region 12 with fail
  obtain ⟨⟨⟨c00, c01⟩, c02⟩, hs0⟩ := (Q9.out _ (Kept.refl _)).1
  have S0 : Hid _ := hs0
  clear hs0
  obtain ⟨⟨⟨c10, c11⟩, c12⟩, hs1⟩ := (Q9.out _ (Kept.refl _)).2.2.2.2.1
  have S1' : Hid _ := hs1
  clear hs1
  go_wp2_with fail
  refine (C2.out _ _ _ _ _ S0.out S1'.out).mono ?_
  rintro e X10 ⟨rfl, hk⟩
  clear c00 c01 c02 S0 c10 c11 c12 S1'
  have Q10 : Hid (∀ u, Kept X10 u → Lay u (p8) t8 g8 rQQ ∧ Lay u (p7) t7 g7 rPP ∧ Lay u (p5) t5 g5 rQ ∧ Lay u (p3) t3 g3 rP ∧ Lay u (p1) t1 g1 ⟨false, rA.mag, rA.exp⟩ ∧ Lay u (w.heap.size) q1 d1 m1) := fun u k => Q9.out u (hk.trans k)
  have k10 : Hid (Kept w X10) := k9.out.trans hk
  clear hk Q9 k9
  go_wp2
  go_ret
  exact ⟨rfl, k10.out⟩

theorem frm_lies (s : Int) (h1 : -20000 ≤ s) (h2 : s ≤ 0) (B : Nat) (hB : B ≤ 20000) (n : Bool) (v : Nat) (y : Int) (hy : s ≤ y) (hv : v * 2 ^ (y - s).toNat < 2 ^ B) : ∃ r, frm n v y = some r ∧ Lies s B r ∧ (vz s r).natAbs = v * 2 ^ (y - s).toNat := by
  have hsh := cfm_shift (sg n (v : Int)) (y - s).toNat s
  rw [show s + ((y - s).toNat : Int) = y by omega] at hsh
  have ha : (sg n (v : Int) * 2 ^ (y - s).toNat).natAbs = v * 2 ^ (y - s).toNat := by
    rw [Int.natAbs_mul, Int.natAbs_pow]
    congr 1
    unfold sg
    split <;> omega
  obtain ⟨r, e, l, z⟩ := cfm_lies s B hB h1 h2 (sg n (v : Int) * 2 ^ (y - s).toNat) (by rw [ha]; exact hv)
  refine ⟨r, ?_, l, by rw [z, ha]⟩
  rw [frm_cfm, ← hsh]
  exact e
theorem num4_got (n : Bool) (L : List Int) (x : Int) : ∃ r, frm n (nv (msk L (min L.length 4))) (x.tmod 90) = some r ∧ Lies (-1300) 1510 r := by
  have hy : -90 ≤ x.tmod 90 ∧ x.tmod 90 ≤ 90 := by
    have h1 := Int.natAbs_tmod x 90
    have h2 : x.natAbs % (90 : Int).natAbs < 90 := Nat.mod_lt _ (by decide)
    omega
  have hl : (msk L (min L.length 4)).length = min L.length 4 := msk_length L _ (Nat.min_le_left _ _)
  have hv := nv_lt (msk L (min L.length 4)) (msk_dg L _)
  rw [hl] at hv
  obtain ⟨B, hB⟩ : ∃ B : Nat, B = 1510 := ⟨_, rfl⟩
  rw [← hB]
  obtain ⟨r, e, lr, z⟩ := frm_lies (-1300) (by decide) (by decide) B (by omega) n (nv (msk L (min L.length 4))) (x.tmod 90) (by omega) (by
    have h4 : nv (msk L (min L.length 4)) < 2 ^ 120 := Nat.lt_of_lt_of_le hv (Nat.pow_le_pow_right (by decide) (by omega))
    calc nv (msk L (min L.length 4)) * 2 ^ (x.tmod 90 - -1300).toNat < 2 ^ 120 * 2 ^ (x.tmod 90 - -1300).toNat := Nat.mul_lt_mul_of_pos_right h4 (Nat.two_pow_pos _)
      _ = 2 ^ (120 + (x.tmod 90 - -1300).toNat) := by rw [Nat.pow_add]
      _ ≤ 2 ^ B := Nat.pow_le_pow_right (by decide) (by omega))
  exact ⟨r, e, lr⟩
theorem mul_lies (s : Int) (h1 : -10000 ≤ s) (h2 : s ≤ 0) (B : Nat) (hB : B ≤ 10000) (a : Nm) (la : Lies s B a) : ∃ r, mulN a a = some r ∧ vld r = true ∧ (r.mag ≠ [] → s + s ≤ r.exp) ∧ vz (s + s) r = vz s a * vz s a := by
  obtain ⟨r, e, l, v⟩ := cfm_lies (s + s) (B + B) (by omega) (by omega) (by omega) (vz s a * vz s a) (abs_mul_lt _ _ _ _ la.lt la.lt)
  exact ⟨r, by rw [mul_cfm s B (by omega) (by omega) h2 a a la la]; exact e, l.ok, l.low, v⟩
theorem exactRoots_true (w : World) (hT : Tab w) (n1 : Bool) (L1 : List Int) (x1 : Int) (a1 : Option Addr) (c1 : Nat) (h1 : Sl w (.slice a1 L1.length c1) L1) (v : Int) :
    Calls Tryd.prog 7 #[.agg #[.bool n1, .slice a1 L1.length c1, .int .i64 x1], .int .i64 v] w fun e w' => e = .returned (.bool true) ∧ Kept w w' := by
  obtain ⟨rA, eA, lA⟩ := num4_got n1 L1 x1
  obtain ⟨b1, b2, n, y1, y2, y3, hn⟩ := width_of v
  have hip := ifn_pos n
  have hv0 : vld ⟨false, rA.mag, rA.exp⟩ = true := by
    have hv := lA.ok
    unfold vld at hv ⊢
    dsimp only
    by_cases hm : rA.mag = []
    · rw [if_pos hm] at hv ⊢
      simp only [Bool.and_eq_true] at hv ⊢
      exact ⟨by rfl, hv.2⟩
    · rw [if_neg hm] at hv ⊢
      exact hv
  have hx : -2000 ≤ rA.exp := by
    by_cases hm : rA.mag = []
    · have hv := lA.ok
      obtain ⟨a, L, x⟩ := rA
      dsimp only at hm ⊢
      subst hm
      have := (vld_nil a x hv).2
      omega
    · have := lA.low hm
      omega
  have hT2 : rA.mag ≠ [] → rA.exp + (bl (nv rA.mag) : Int) ≤ 210 := fun hm => by
    have := tp_le (-1300) 1510 rA lA hm
    unfold tp at this
    omega
  obtain ⟨F, o, D, KR⟩ := rootz_down n hn ⟨false, rA.mag, rA.exp⟩ hv0 rfl hx hT2
  have hF := D.top
  obtain ⟨lP, vP⟩ := of_key n (F : Int) hn (by omega) (by omega) (-1300) (by decide) (by decide)
  obtain ⟨lQ, vQ⟩ := of_key n ((F + 1 : Nat) : Int) hn (by omega) (by omega) (-1300) (by decide) (by decide)
  obtain ⟨rPP, sP, okP, lowP, vPP⟩ := mul_lies (-1300) (by decide) (by decide) 5000 (by decide) _ lP
  obtain ⟨rQQ, sQ, okQ, lowQ, vQQ⟩ := mul_lies (-1300) (by decide) (by decide) 5000 (by decide) _ lQ
  rw [vP, kvz_nat] at vPP
  rw [vQ, kvz_nat] at vQQ
  have hnx : nxt (pz n (F : Int)) n = pz n ((F + 1 : Nat) : Int) := by
    unfold nxt
    rw [if_pos (pz_num n (F : Int) hn (by omega) (by omega))]
    rcases hn with rfl | rfl
    · rw [if_pos rfl]
      simp only [pz, ifn, reduceIte] at hF ⊢
      rw [if_neg (show ¬ ((F : Int) < 0) by omega), if_neg (by omega), if_neg (by omega), if_neg (by omega), if_neg (by omega)]
      omega
    · rw [if_neg (show ¬ ((32 : Int) = 64) by decide)]
      simp only [pz, ifn, show ¬ ((32 : Int) = 64) by decide, if_false] at hF ⊢
      rw [if_neg (show ¬ ((F : Int) < 0) by omega), if_neg (by omega), if_neg (by omega), if_neg (by omega), if_neg (by omega)]
      omega
  have R1 : Hid (∀ X a c, Tab X → Sl X (.slice a rA.mag.length c) rA.mag → Calls Tryd.prog 25 #[.agg #[.bool false, .slice a rA.mag.length c, .int .i64 rA.exp], .int .i64 n, .int .i64 1] X fun e w' => e = .returned (.tuple #[.int .i64 (pz n (F : Int)), .bool o, .int .i64 0]) ∧ Kept X w') := fun X a c hT hS => KR a c X hT hS
  have KX : Hid (∀ X, Calls Tryd.prog 14 #[.int .i64 (pz n (F : Int)), .int .i64 n] X fun e w' => e = .returned (.int .i64 (pz n ((F + 1 : Nat) : Int))) ∧ Kept X w') := fun X => by
    rw [← hnx]
    exact next_any (pz n (F : Int)) n (pz_range n (F : Int) hn (by omega) (by omega)).1 (pz_range n (F : Int) hn (by omega) (by omega)).2 X
  have F1 : Hid (∀ X, Tab X → _) := fun X hT => of_at n (F : Int) hn (by omega) (by omega) _ rfl X hT
  have F2 : Hid (∀ X, Tab X → _) := fun X hT => of_at n ((F + 1 : Nat) : Int) hn (by omega) (by omega) _ rfl X hT
  have M1 : Hid (∀ X a1 c1 a2 c2, Tab X → Sl X (.slice a1 (ofN (pz n (F : Int)) n).mag.length c1) (ofN (pz n (F : Int)) n).mag → Sl X (.slice a2 (ofN (pz n (F : Int)) n).mag.length c2) (ofN (pz n (F : Int)) n).mag → _) := fun X a1 c1 a2 c2 hT g1 g2 => mul_at X hT _ _ rPP lP.ok lP.ok a1 a2 c1 c2 g1 g2 sP
  have M2 : Hid (∀ X a1 c1 a2 c2, Tab X → Sl X (.slice a1 (ofN (pz n ((F + 1 : Nat) : Int)) n).mag.length c1) (ofN (pz n ((F + 1 : Nat) : Int)) n).mag → Sl X (.slice a2 (ofN (pz n ((F + 1 : Nat) : Int)) n).mag.length c2) (ofN (pz n ((F + 1 : Nat) : Int)) n).mag → _) := fun X a1 c1 a2 c2 hT g1 g2 => mul_at X hT _ _ rQQ lQ.ok lQ.ok a1 a2 c1 c2 g1 g2 sQ
  have vA : vz (-1300 + -1300) ⟨false, rA.mag, rA.exp⟩ = ((nv rA.mag * 2 ^ (rA.exp - 2 * -1300).toNat : Nat) : Int) := by
    unfold vz sg
    dsimp only
    rw [if_neg (by decide), show rA.exp - (-1300 + -1300) = rA.exp - 2 * -1300 by omega]
    push_cast
    rfl
  have lowA : rA.mag ≠ [] → (-1300 + -1300 : Int) ≤ rA.exp := fun hm => by have := lA.low hm; omega
  have CC : ∀ (q : Nm) G, vld q = true → (q.mag ≠ [] → (-1300 + -1300 : Int) ≤ q.exp) → cz (vz (-1300 + -1300) q) (vz (-1300 + -1300) ⟨false, rA.mag, rA.exp⟩) = G → Hid (∀ X a1 c1 a2 c2, Sl X (.slice a1 q.mag.length c1) q.mag → Sl X (.slice a2 rA.mag.length c2) rA.mag → Calls Tryd.prog 17 #[.agg #[.bool q.neg, .slice a1 q.mag.length c1, .int .i64 q.exp], .agg #[.bool false, .slice a2 rA.mag.length c2, .int .i64 rA.exp]] X fun e w' => e = .returned (.tuple #[.int .i64 G, .int .i64 0]) ∧ Kept X w') := fun q G hq hlq hG X a1 c1 a2 c2 g1 g2 => cmp_at (-1300 + -1300) X q ⟨false, rA.mag, rA.exp⟩ hq hv0 hlq lowA a1 a2 c1 c2 g1 g2 G hG
  have C2 := CC rQQ 1 okQ lowQ (by
    rw [vQQ, vA]
    refine cz_gt ?_
    rw [← Int.natCast_mul]
    exact Int.ofNat_lt.2 D.high)
  have hodd := D.odd
  have hlow := D.low
  cases o
  · have he := of_decide_eq_false hodd.symm
    have C1 := CC rPP 0 okP lowP (by
      rw [vPP, vA]
      refine cz_eq ?_
      rw [← Int.natCast_mul]
      exact congrArg Int.ofNat (Decidable.not_not.1 he))
    exact roots_false w hT ⟨n1, L1, x1⟩ a1 c1 (sl_len h1) h1 rA eA _ _ _ _ v n b1 b2 _ _ y1 y2 y3 R1 KX F1 F2 M1 M2 C1 C2
  · have he := of_decide_eq_true hodd.symm
    have C1 := CC rPP (-1) okP lowP (by
      rw [vPP, vA]
      refine cz_lt ?_
      rw [← Int.natCast_mul]
      exact Int.ofNat_lt.2 (Nat.lt_of_le_of_ne hlow he))
    exact roots_true w hT ⟨n1, L1, x1⟩ a1 c1 (sl_len h1) h1 rA eA _ _ _ _ v n b1 b2 _ _ y1 y2 y3 R1 KX F1 F2 M1 M2 C1 C2
end Go.Proofs.YtbheglkpmgmkoaaDoor
