/- The laws' book, one list of pairs: grow, and a list put in. -/
import Derived.Test.YthjcofdcbinliaaDP3
namespace Go.Proofs.Ythjcofdcbinliaa
open Go.ChangeShapes Go.WideShapes Go.ChangeAt Go.RowKit
set_option linter.unusedVariables false
set_option linter.unusedSimpArgs false

set_option maxHeartbeats 8000000 in
set_option maxRecDepth 100000 in
theorem growPairs_one (B G1 C1 k g cap : Nat) (hk : k ≤ 100000) (v vW : Value) (w : World) (hB : Bp w B (.slice (some ⟨G1, 0, none⟩) 1 C1) vW) (h1 : w.cell? ⟨G1, 0, none⟩ = some v) (hv : (v = .slice none 0 0 ∧ k = 0) ∨ v = .slice (some ⟨g, 0, none⟩) k cap) (h0 : Gp w g cap k v w k v) (hne1 : B ≠ g) (hne2 : G1 ≠ g) : Calls Try.prog 60 #[.pointer (some ⟨B, 0, none⟩)] w fun e w' => ∃ G3 C3 lv, e = .returned (.slice (some ⟨G3, 0, none⟩) 1 C3) ∧ w'.cell? ⟨G3, 0, none⟩ = some lv ∧ Rdp w' lv (k + 96) (mkp 0 (k + 96)) ∧ Rdp w' v k (mkp 0 k) ∧ G1w g w w' := by
  obtain ⟨va, vc, rfl⟩ := h0.form
  have HS : Hid (∀ u, G1w g w u → u.cell? ⟨B, 2, none⟩ = some (.slice (some ⟨G1, 0, none⟩) 1 C1) ∧ u.cell? ⟨G1, 0, none⟩ = some (.slice va k vc)) := fun u ku => ⟨ku.cell hB.c2 hne1, ku.cell h1 hne2⟩
  have KM : Hid (∀ (u : World) (p m : Nat), p ≤ 1000000 → m ≤ 1000000 → Calls Try.prog 96 #[.int .i64 0, .int .i64 (p : Int), .int .i64 (m : Int)] u fun e w' => ∃ ao co, e = .returned (.slice ao m co) ∧ Rdp w' (.slice ao m co) m (mkp p m) ∧ Kept u w') := fun u p m hp hm => by
    refine (markPairs_any p m hp hm u).mono ?_
    rintro e w' ⟨v, rfl, hm, kk⟩
    obtain ⟨ao, co, rfl⟩ := (mp_rdp hm).form
    exact ⟨ao, co, rfl, mp_rdp hm, kk⟩
  have HV := hidq hv
  have H0 := hidq h0
  clear hB h1 hv h0
  obtain ⟨q2, q3⟩ := HS.out w H0.out.gw
  go_enter Try.func60, Try.ntmps60
  go_wp2_with fail
  refine wp_loop_rounds 2 ?_
  rw [rounds_succ]
  go_upto_region 6 with fail
  clear q2 q3
  go_wp2_with fail
  go_loopw [5, 6] (fun lv iv wr => ∃ i : Nat, i ≤ 16 ∧ iv = .int .i64 i ∧ Gp w g cap k (.slice va k vc) wr (k + i) lv) (fun _ iv _ => 16 - (intOf iv).toNat)
  case atStart => exact ⟨0, Nat.zero_le _, rfl, H0.out⟩
  case round =>
    obtain ⟨i, hi, rfl, hG⟩ := hrel
    obtain ⟨la, lc, rfl⟩ := hG.form
    have HG := hidq hG
    clear hG
    by_cases hlt : i < 16
    · have b4 : (i : Int) < 16 := by omega
      have z1 : IntKind.i64.wrap ((i : Int) + 1) = (i : Int) + 1 := by rw [wrap_i64]; omega
      go_wp2_with (first | (go_at_call 96; refine (KM.out _ (k + i) 1 (by omega) (by omega)).mono ?_; rintro e w1 ⟨ao, co, rfl, hm1, k1⟩; obtain ⟨v', w2, hr, hG2⟩ := (HG.out.kept k1).step HV.out (by omega) _ 1 (by decide) hm1 (by omega); have HR := hidq hr; clear hr) | (at_builtin; refine wpList_append_run rfl _ _ _ rfl _ _ rfl rfl _ _ (HR.out _) ?_))
      go_roundw
      case rel => exact ⟨i + 1, by omega, by go_num, hG2⟩
      case measure => simp [intOf]; omega
    · obtain rfl : i = 16 := by omega
      rw [show ((16 : Nat) : Int) = 16 from rfl]
      go_upto_region 4 with (first | (go_at_call 96; refine (KM.out _ (k + 16) 80 (by omega) (by omega)).mono ?_; rintro e w1 ⟨ao, co, rfl, hm1, k1⟩; obtain ⟨v', w2, hr, hG2⟩ := (HG.out.kept k1).step HV.out (by omega) _ 80 (by decide) hm1 (by omega); obtain ⟨la', lc', rfl⟩ := hG2.form; have HR := hidq hr; clear hr; obtain ⟨cp, w3, hr3, hc3, hf3, k3⟩ := app_lst (.slice la' (k + 16 + 80) lc') rfl w2; have HR3 := hidq hr3; clear hr3) | (at_builtin; refine wpList_append_run rfl _ _ _ rfl _ _ rfl rfl _ _ (HR.out _) ?_) | (at_builtin; refine wpList_append_run rfl _ _ _ rfl _ _ rfl rfl _ _ (HR3.out _) ?_))
      have hG3 := hG2.kept k3
      obtain ⟨q2, q3⟩ := HS.out w3 hG3.gw
      have HG3 := hidq hG3
      clear hG3 hG2 k3
      go_wp2_with fail
      rw [rounds_succ]
      go_wp2_with fail
      go_ret
      exact ⟨_, _, _, rfl, hc3, mp_rdp HG3.out.mp, HG3.out.rd, HG3.out.gw⟩

/-- a copy of a list of pairs -/
theorem app_nilp (k : Nat) (hk : k ≤ 100000) (L : List Int) (hl : L.length = k * 2) (v : Value) (w : World) (h : Rdp w v k L) : ∃ v' w', (∀ ty, (Builtin.append_ #[23, 23] ty #[.slice none 0 0, v]).run Try.prog w = .ok v' w') ∧ Rdp w' v' k L ∧ Kept w w' := by
  rcases Nat.eq_zero_or_pos k with rfl | hpos
  · obtain ⟨i, hi, hz2, hs, hb⟩ := info_parts a2i_info
    refine ⟨_, w, fun ty => run_append_nothing w 23 23 ty 27 i l2i_under hi none 0 0 (by omega) _ ?_, .inl ⟨rfl, rfl⟩, Kept.refl w⟩
    rcases h with ⟨-, rfl⟩ | ⟨g, cap, rfl, -, -⟩
    · exact Src.ofNil w l2i_under 0
    · exact Src.ofSlice w l2i_under ⟨g, 0, none⟩ 0 cap [] (by simp) (fun j u hu => by simp at hu) (fun u hu => by cases hu)
  · obtain ⟨v', w', h3, h4, h5⟩ := app_prs 0 w (.slice none 0 0) 0 [] (.inl ⟨rfl, rfl, rfl⟩) v k hpos L h hl (Nat.zero_le _) (by omega)
    rcases h5 with ⟨kk, -⟩ | ⟨g, cap, e, -⟩
    · have h6 := mp_rdp h4
      rw [Nat.zero_add, List.nil_append] at h6
      exact ⟨v', w', h3, h6, kk⟩
    · cases e

/-- a store into the book turns no list of pairs -/
theorem Rdp.book {w : World} {B : Nat} (hB : w.cell? ⟨B, 0, none⟩ = some (.slice none 0 0)) {v : Value} {k : Nat} {L : List Int} (h : Rdp w v k L) (j : Nat) (x : Value) : Rdp (w.setCell ⟨B, j, none⟩ x) v k L := by
  rcases h with h | ⟨g, c, e, b, r⟩
  · exact .inl h
  · by_cases hgB : g = B
    · subst hgB
      refine .inr ⟨g, c, e, by simpa using b, fun j' hj => ?_⟩
      exfalso
      have h0 := r 0 (by omega)
      rw [hB] at h0
      cases h0
    · exact .inr ⟨g, c, e, by simpa using b, fun j' hj => (World.cell?_setCell_far _ _ _ _ (by show B ≠ g; omega)).trans (r j' hj)⟩

set_option maxHeartbeats 8000000 in
set_option maxRecDepth 100000 in
theorem bookPairs_one (B k : Nat) (hk : k ≤ 100000) (L : List Int) (hl : L.length = k * 2) (v : Value) (w : World) (hB : Bp w B (.slice none 0 0) (.slice none 0 0)) (hf : ∀ o, w.frozen? ⟨B, o, none⟩ = false) (hv : Rdp w v k L) : Calls Try.prog 19 #[.pointer (some ⟨B, 0, none⟩), v] w fun e w' => ∃ G1 C1 G2 C2 v2, e = .returned (.tuple #[]) ∧ Bp w' B (.slice (some ⟨G1, 0, none⟩) 1 C1) (.slice (some ⟨G2, 0, none⟩) 1 C2) ∧ w.heap.size ≤ G1 ∧ w'.cell? ⟨G1, 0, none⟩ = some v ∧ w'.cell? ⟨G2, 0, none⟩ = some v2 ∧ Rdp w' v k L ∧ Rdp w' v2 k L ∧ G1w B w w' := by
  obtain ⟨va, vc, rfl⟩ := hv.form
  obtain ⟨cp, w1, hr1, hc1, hf1, k1⟩ := app_lst (.slice va k vc) rfl w
  have HR1 := hidq hr1
  have hBl := hB.lt
  have q2 := hB.c2
  have hB1 := hB.kept k1
  have fB : w1.frozen? ⟨B, 2, none⟩ = false := (k1.frozen _).trans (hf _)
  have p2 := hB1.c2
  obtain ⟨X, hX⟩ : ∃ X, X = w1.setCell ⟨B, 2, none⟩ (.slice (some ⟨w.heap.size + 1, 0, none⟩) 1 cp) := ⟨_, rfl⟩
  have gX : G1w B w X := by rw [hX]; exact (kept_g1 B k1).set _ _
  have hBX : Bp X B (.slice (some ⟨w.heap.size + 1, 0, none⟩) 1 cp) (.slice none 0 0) := by
    rw [hX]
    exact ⟨by simp [go_sem, hB1.c0], by simp [go_sem, hB1.c2], by simp [go_sem, hB1.c3], by simp [go_sem, hB1.c4], by simp [go_sem, hB1.c6], by simp [go_sem, hB1.c8], by simp [go_sem, hB1.c10], by simp [go_sem, hB1.c12], by simp [go_sem, hB1.c14]⟩
  have hcX : X.cell? ⟨w.heap.size + 1, 0, none⟩ = some (.slice va k vc) := by
    rw [hX]; exact (World.cell?_setCell_far _ _ _ _ (by show B ≠ w.heap.size + 1; omega)).trans hc1
  have hvX : Rdp X (.slice va k vc) k L := by rw [hX]; exact (hv.kept k1).book hB1.c0 _ _
  have hfX : ∀ o, X.frozen? ⟨B, o, none⟩ = false := fun o => (gX.fz _).trans (hf o)
  obtain ⟨v2, w2, hr2, hd2, k2⟩ := app_nilp k hk L hl _ X.drew (hvX.kept (Kept.refl X).drew)
  obtain ⟨a2, c2, rfl⟩ := hd2.form
  obtain ⟨cp3, w3, hr3, hc3, hf3, k3⟩ := app_lst (.slice a2 k c2) rfl w2
  have HR2 := hidq hr2
  have HR3 := hidq hr3
  have kX2 : Kept X w2 := (Kept.refl X).drew.trans k2
  have kX3 : Kept X w3 := kX2.trans k3
  have hB3 := hBX.kept kX3
  have HS : Hid (∀ u, Kept X u → Kept X u ∧ u.cell? ⟨B, 3, none⟩ = some (.slice none 0 0)) := fun u ku => ⟨ku, (hBX.kept ku).c3⟩
  have kal : Kept X (w2.alloc (.cells #[.slice a2 k c2] 23)) := kX2.alloc _ _
  clear hr1 hr2 hr3
  go_enter Try.func19, Try.ntmps19
  go_upto_region 2 with (first | (at_builtin; refine wpList_append_run rfl _ _ _ rfl _ _ rfl rfl _ _ (HR1.out _) ?_))
  rw [← hX]
  clear hX q2 p2 fB HR1
  refine wp_region_late [11] (fun u => Kept X u ∧ u.cell? ⟨B, 3, none⟩ = some (.slice none 0 0)) (by kernel_rfl) (HS.out _ (Kept.refl X).drew) (fun hHeld => ?_)
  refine wpAnyD_take (i := 0) (v := ?_) rfl (by kernel_rfl) (by kernel_rfl) (by kernel_rfl) (by kernel_rfl) (fun _ _ _ h => h) (Or.inl ⟨by rfl, ?hya0⟩) hHeld ?_
  case hya0 => (intro w hSw; (try dsimp only at hSw); go_simp; try (with_reducible rfl))
  (try simp only [Act.put, List.getElem_toArray, List.getElem_cons_succ, List.getElem_cons_zero, List.setIfInBounds_toArray, List.set_cons_zero, List.set_cons_succ])
  refine wpAnyD_take (i := 1) (v := ?_) rfl (by kernel_rfl) (by kernel_rfl) (by kernel_rfl) (by kernel_rfl) (fun _ _ _ h => h) (Or.inl ⟨by rfl, ?hya1⟩) hHeld ?_
  case hya1 => (intro w hSw; (try dsimp only at hSw); go_simp; try (with_reducible rfl))
  (try simp only [Act.put, List.getElem_toArray, List.getElem_cons_succ, List.getElem_cons_zero, List.setIfInBounds_toArray, List.set_cons_zero, List.set_cons_succ])
  refine wpAnyD_take (i := 2) (v := ?_) rfl (by kernel_rfl) (by kernel_rfl) (by kernel_rfl) (by kernel_rfl) (fun _ _ _ h => h) (Or.inl ⟨by rfl, ?hya2⟩) hHeld ?_
  case hya2 => (intro w hSw; (try dsimp only at hSw); go_simp; try (with_reducible rfl))
  (try simp only [Act.put, List.getElem_toArray, List.getElem_cons_succ, List.getElem_cons_zero, List.setIfInBounds_toArray, List.set_cons_zero, List.set_cons_succ])
  refine wpAnyD_take (i := 3) (v := ?_) rfl (by kernel_rfl) (by kernel_rfl) (by kernel_rfl) (by kernel_rfl) (fun _ _ _ h => h) (Or.inl ⟨by rfl, ?hya3⟩) hHeld ?_
  case hya3 => (intro w hSw; (try dsimp only at hSw); go_simp; try (with_reducible rfl))
  (try simp only [Act.put, List.getElem_toArray, List.getElem_cons_succ, List.getElem_cons_zero, List.setIfInBounds_toArray, List.set_cons_zero, List.set_cons_succ])
  refine wpAnyD_take (i := 4) (v := ?_) rfl (by kernel_rfl) (by kernel_rfl) (by kernel_rfl) (by kernel_rfl) (fun _ _ _ h => h) (Or.inl ⟨by rfl, ?hya4⟩) hHeld ?_
  case hya4 => (intro w hSw; (try dsimp only at hSw); go_simp; try (with_reducible rfl))
  (try simp only [Act.put, List.getElem_toArray, List.getElem_cons_succ, List.getElem_cons_zero, List.setIfInBounds_toArray, List.set_cons_zero, List.set_cons_succ])
  refine wpAnyD_take (i := 5) (v := ?_) rfl (by kernel_rfl) (by kernel_rfl) (by kernel_rfl) (by kernel_rfl) (fun _ _ _ h => h) (Or.inl ⟨by rfl, ?hya5⟩) hHeld ?_
  case hya5 => (intro w hSw; (try dsimp only at hSw); go_simp; try (with_reducible rfl))
  (try simp only [Act.put, List.getElem_toArray, List.getElem_cons_succ, List.getElem_cons_zero, List.setIfInBounds_toArray, List.set_cons_zero, List.set_cons_succ])
  refine wpAnyD_step (i := 6) (by kernel_rfl) rfl (fun K hK9 => ?_)
  rw [if_pos (by rfl)]
  refine oper_append_run _ _ _ rfl _ _ rfl rfl _ _ (HR2.out _) ?_
  refine hK9.out _ _ (HS.out _ kX2) (fun hH1 => ?_)
  clear hK9 K
  (try simp only [Act.put, List.getElem_toArray, List.getElem_cons_succ, List.getElem_cons_zero, List.setIfInBounds_toArray, List.set_cons_zero, List.set_cons_succ])
  refine wpAnyD_step (i := 7) (by kernel_rfl) rfl (fun K hK9 => ?_)
  go_simp
  refine hK9.out _ _ (HS.out _ kal) (fun hH2 => ?_)
  clear hK9 K
  (try simp only [Act.put, List.getElem_toArray, List.getElem_cons_succ, List.getElem_cons_zero, List.setIfInBounds_toArray, List.set_cons_zero, List.set_cons_succ])
  refine wpAnyD_step (i := 8) (by kernel_rfl) rfl (fun K hK9 => ?_)
  rw [if_pos (by rfl)]
  refine oper_append_run _ _ _ rfl _ _ rfl rfl _ _ (HR3.out _) ?_
  refine hK9.out _ _ (HS.out _ kX3) (fun hH3 => ?_)
  clear hK9 K
  (try simp only [Act.put, List.getElem_toArray, List.getElem_cons_succ, List.getElem_cons_zero, List.setIfInBounds_toArray, List.set_cons_zero, List.set_cons_succ])
  refine wpAnyD_take (i := 9) (v := ?_) rfl (by kernel_rfl) (by kernel_rfl) (by kernel_rfl) (by kernel_rfl) (fun _ _ _ h => h) (Or.inl ⟨by rfl, ?hyb9⟩) hH3 ?_
  case hyb9 => (intro w hSw; (try dsimp only at hSw); go_simp; try (with_reducible rfl))
  (try simp only [Act.put, List.getElem_toArray, List.getElem_cons_succ, List.getElem_cons_zero, List.setIfInBounds_toArray, List.set_cons_zero, List.set_cons_succ])
  refine wpAnyD_take (i := 10) (v := ?_) rfl (by kernel_rfl) (by kernel_rfl) (by kernel_rfl) (by kernel_rfl) (fun _ _ _ h => h) (Or.inl ⟨by rfl, ?hyb10⟩) hH3 ?_
  case hyb10 => (intro w hSw; (try dsimp only at hSw); go_simp; try (with_reducible rfl))
  (try simp only [Act.put, List.getElem_toArray, List.getElem_cons_succ, List.getElem_cons_zero, List.setIfInBounds_toArray, List.set_cons_zero, List.set_cons_succ])
  have fz3 : w3.frozen? ⟨B, 3, none⟩ = false := (kX3.frozen _).trans (hfX _)
  have c3' := hB3.c3
  refine wpAnyD_late (i := 11) (by kernel_rfl) rfl rfl (fun K hK9 => ?_)
  go_simp
  refine hK9.out _ _ ?_
  clear hK9 K
  (try simp only [Act.put, List.getElem_toArray, List.getElem_cons_succ, List.getElem_cons_zero, List.setIfInBounds_toArray, List.set_cons_zero, List.set_cons_succ])
  refine wpAnyD_done (by kernel_rfl) ?_ _
  (try simp only [Act.put, List.getElem_toArray, List.getElem_cons_succ, List.getElem_cons_zero, List.setIfInBounds_toArray, List.set_cons_zero, List.set_cons_succ])
  go_wp2_with fail
  have hBV : Bp (w3.setCell ⟨B, 3, none⟩ (.slice (some ⟨w2.heap.size + 1, 0, none⟩) 1 cp3)) B (.slice (some ⟨w.heap.size + 1, 0, none⟩) 1 cp) (.slice (some ⟨w2.heap.size + 1, 0, none⟩) 1 cp3) :=
    ⟨by simp [go_sem, hB3.c0], by simp [go_sem, hB3.c2], by simp [go_sem, hB3.c3], by simp [go_sem, hB3.c4], by simp [go_sem, hB3.c6], by simp [go_sem, hB3.c8], by simp [go_sem, hB3.c10], by simp [go_sem, hB3.c12], by simp [go_sem, hB3.c14]⟩
  have s1 := gX.gr.size
  have s2 := kX2.below.size
  have hc1' : (w3.setCell ⟨B, 3, none⟩ (.slice (some ⟨w2.heap.size + 1, 0, none⟩) 1 cp3)).cell? ⟨w.heap.size + 1, 0, none⟩ = some (.slice va k vc) := (World.cell?_setCell_far _ _ _ _ (by show B ≠ w.heap.size + 1; omega)).trans ((kX3.below.cell (World.block_lt_of_cell? _ _ hcX)).trans hcX)
  have hc3'' : (w3.setCell ⟨B, 3, none⟩ (.slice (some ⟨w2.heap.size + 1, 0, none⟩) 1 cp3)).cell? ⟨w2.heap.size + 1, 0, none⟩ = some (.slice a2 k c2) := (World.cell?_setCell_far _ _ _ _ (by show B ≠ w2.heap.size + 1; omega)).trans hc3
  exact bodyPost_end (v := .tuple #[]) (by simp [results, Try.results19, go_sem]) rfl ⟨_, _, _, _, _, rfl, hBV, by omega, hc1', hc3'', (hvX.kept kX3).book hB3.c0 _ _, (hd2.kept k3).book hB3.c0 _ _, (gX.kept kX3).set _ _⟩

end Go.Proofs.Ythjcofdcbinliaa
