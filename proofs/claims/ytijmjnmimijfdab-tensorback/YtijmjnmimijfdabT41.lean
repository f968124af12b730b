/- Form and CutRows of package tensor where they answer. -/
import Derived.Test.YtijmjnmimijfdabT40
namespace Go.Proofs.Ytijmjnmimijfdab
open Go.ChangeShapes Go.WideShapes Go.ChangeAt Go.RowKit
set_option linter.unusedVariables false
set_option linter.unusedSimpArgs false

abbrev st2 (w : World) (r c n : Int) (s : Value) : World := (w.alloc (.cells #[.int .i64 r, .int .i64 c, .int .i64 n, s] 24)).alloc (.cells #[.int .i64 0, .int .i64 0, .int .i64 0, .slice none 0 0] 24)
theorem st2_facts (w : World) (r c n : Int) (s : Value) : M4 (st2 w r c n s) w.heap.size (.int .i64 r) (.int .i64 c) (.int .i64 n) s ∧ M4 (st2 w r c n s) (w.heap.size + 1) (.int .i64 0) (.int .i64 0) (.int .i64 0) (.slice none 0 0) ∧ (∀ o, (st2 w r c n s).frozen? ⟨w.heap.size + 1, o, none⟩ = false) ∧ Kept w (st2 w r c n s) ∧ (st2 w r c n s).heap.size = w.heap.size + 2 := by
  refine ⟨⟨by simp [go_sem], by simp [go_sem], by simp [go_sem], by simp [go_sem]⟩, ⟨by simp [go_sem], by simp [go_sem], by simp [go_sem], by simp [go_sem]⟩, fun o => by simp [go_sem], ((Kept.refl w).alloc _ _).alloc _ _, by simp⟩

set_option maxHeartbeats 4000000 in
set_option maxRecDepth 100000 in
theorem form_ok (R C rs cs : Nat) (n : Int) (hn : n = 64 ∨ n = 32) (hrs : 0 < rs) (hcs : 0 < cs) (hRC : R * C ≤ 4096) (he : rs * cs = R * C) (M : List Int) (hML : M.length = R * C) (hRg : Rgl M) (hck : ckM R C n M = 0) (b off cap : Nat) (hcap : R * C ≤ cap) (w : World) (hb : b < w.heap.size) (hrd : Reads w b off M) (hSl : Sl w (.slice (some ⟨b, off, none⟩) M.length cap) M) :
    Calls Try.prog 19 #[.agg #[.int .i64 R, .int .i64 C, .int .i64 n, .slice (some ⟨b, off, none⟩) (R * C) cap], .int .i64 rs, .int .i64 cs] w fun e w' => ∃ g, e = .returned (.tuple #[.agg #[.int .i64 rs, .int .i64 cs, .int .i64 n, .slice (some ⟨g, 0, none⟩) (R * C) (R * C)], .int .i64 0]) ∧ w.heap.size ≤ g ∧ Own w' g (R * C) (M.map (cln · n)) ∧ Kept w w' := by
  obtain ⟨hmX, hrX, hfX, hKX, hXs⟩ := st2_facts w R C n (.slice (some ⟨b, off, none⟩) (R * C) cap)
  obtain ⟨X, hX⟩ : ∃ X, X = st2 w R C n (.slice (some ⟨b, off, none⟩) (R * C) cap) := ⟨_, rfl⟩
  rw [← hX] at hmX hrX hfX hKX hXs
  have KC : Hid (Calls Try.prog 17 #[.agg #[.int .i64 R, .int .i64 C, .int .i64 n, .slice (some ⟨b, off, none⟩) (R * C) cap]] X fun e w' => e = .returned (.int .i64 0) ∧ Kept X w') := by
    have := check_any R C n (some ⟨b, off, none⟩) cap M X (hSl.kept hKX)
    rw [hck, hML] at this
    exact this
  have KA : Hid (∀ u, Calls Try.prog 31 #[.agg #[.int .i64 R, .int .i64 C, .int .i64 n, .slice (some ⟨b, off, none⟩) (R * C) cap]] u fun e w' => e = .returned (.agg #[.int .i64 R, .int .i64 C, .int .i64 n]) ∧ Kept u w') := fun u => shapeOf_any _ _ _ _ u
  have hz : ckS rs cs n = 0 := ckS_one hn (by omega) (by omega) (by
    have : ((rs * cs : Nat) : Int) ≤ 4096 := by rw [he]; omega
    simpa using this)
  have hei : (rs : Int) * (cs : Int) = (R : Int) * (C : Int) := by
    have : ((rs * cs : Nat) : Int) = ((R * C : Nat) : Int) := by rw [he]
    simpa using this
  have KB : Hid (∀ u, Calls Try.prog 42 #[.agg #[.int .i64 R, .int .i64 C, .int .i64 n], .int .i64 rs, .int .i64 cs] u fun e w' => e = .returned (.tuple #[.agg #[.int .i64 rs, .int .i64 cs, .int .i64 n], .int .i64 0]) ∧ Kept u w') := fun u => formed_ok R C n rs cs hz hei u
  have KW : Hid (∀ u, Calls Try.prog 43 #[.agg #[.int .i64 rs, .int .i64 cs, .int .i64 n]] u fun e w' => ∃ g, e = .returned (.slice (some ⟨g, 0, none⟩) 0 (R * C)) ∧ u.heap.size ≤ g ∧ Own w' g (R * C) [] ∧ Kept u w') := fun u => bare_any rs cs n (R * C) (by rw [hei]; simp) (by omega) u
  obtain ⟨rc, hrc'⟩ : ∃ rc, R * C = rc := ⟨_, rfl⟩
  rw [hrc'] at hRC hML hcap hmX KC KA KW hX
  rw [hrc']
  clear hrc' hz hei he
  unfold st2 at hX
  go_enter Try.func19, Try.ntmps19
  go_upto_region 1 with fail
  rw [← hX]
  clear hX
  have hmX' := hmX
  obtain ⟨m0, m1, m2, m3⟩ := hmX'
  go_upto_region 4 with (first | (go_at_call 17; refine (KC.out).mono ?_; rintro e w1 ⟨rfl, k1⟩))
  clear m0 m1 m2 m3
  obtain ⟨m0, m1, m2, m3⟩ := hmX.bl k1.bl
  go_upto_region 7 with (first | (go_at_call 31; refine (KA.out _).mono ?_; rintro e w3 ⟨rfl, k3⟩) | (go_at_call 42; refine (KB.out _).mono ?_; rintro e w4 ⟨rfl, k4⟩))
  obtain ⟨W, hW⟩ : ∃ W, W = w4.alloc (.cells #[.int .i64 rs, .int .i64 cs, .int .i64 n] 50) := ⟨_, rfl⟩
  rw [← hW]
  have kXW : Kept X W := by rw [hW]; exact (k1.trans (k3.trans k4)).alloc _ _
  have hBW : M3 W w4.heap.size (.int .i64 rs) (.int .i64 cs) (.int .i64 n) := by rw [hW]; exact M3.new _ _ _ _ _
  have hmW := hmX.bl kXW.bl
  have hRW := hrX.bl kXW.bl
  have hFW : ∀ o, W.frozen? ⟨w.heap.size + 1, o, none⟩ = false := fun o => (kXW.frozen _).trans (hfX o)
  have hKW := hKX.trans kXW
  have hszW := kXW.below.size
  generalize w4.heap.size = B at *
  clear m0 m1 m2 m3 hW hmX hrX hfX KC KA KB k1 k3 k4
  have HS : Hid (∀ u, Kept W u → Kept W u ∧ (u.cell? ⟨B, 0, none⟩ = some (.int .i64 rs) ∧ u.cell? ⟨B, 1, none⟩ = some (.int .i64 cs) ∧ u.cell? ⟨B, 2, none⟩ = some (.int .i64 n)) ∧ u.cell? ⟨w.heap.size, 3, none⟩ = some (.slice (some ⟨b, off, none⟩) rc cap)) := fun u ku => by
    obtain ⟨a0, a1, a2⟩ := hBW.bl ku.bl
    exact ⟨ku, ⟨a0, a1, a2⟩, (hmW.bl ku.bl).c3⟩
  refine wp_region_late [6, 7, 8] (fun u => Kept W u ∧ (u.cell? ⟨B, 0, none⟩ = some (.int .i64 rs) ∧ u.cell? ⟨B, 1, none⟩ = some (.int .i64 cs) ∧ u.cell? ⟨B, 2, none⟩ = some (.int .i64 n)) ∧ u.cell? ⟨w.heap.size, 3, none⟩ = some (.slice (some ⟨b, off, none⟩) rc cap)) (by kernel_rfl) (HS.out _ ((Kept.refl W).drew)) (fun hHeld => ?_)
  refine wpAnyD_take (i := 0) (v := ?_) rfl (by kernel_rfl) (by kernel_rfl) (by kernel_rfl) (by kernel_rfl) (fun _ _ _ h => h) (Or.inl ⟨by rfl, ?hya0⟩) hHeld ?_
  case hya0 => (intro w hSw; (try dsimp only at hSw); go_simp; try (with_reducible rfl))
  (try simp only [Act.put, List.getElem_toArray, List.getElem_cons_succ, List.getElem_cons_zero, List.setIfInBounds_toArray, List.set_cons_zero, List.set_cons_succ])
  refine wpAnyD_take (i := 1) (v := ?_) rfl (by kernel_rfl) (by kernel_rfl) (by kernel_rfl) (by kernel_rfl) (fun _ _ _ h => h) (Or.inl ⟨by rfl, ?hya1⟩) hHeld ?_
  case hya1 => (intro w hSw; (try dsimp only at hSw); go_simp; try (with_reducible rfl))
  (try simp only [Act.put, List.getElem_toArray, List.getElem_cons_succ, List.getElem_cons_zero, List.setIfInBounds_toArray, List.set_cons_zero, List.set_cons_succ])
  refine wpAnyD_take (i := 3) (v := ?_) rfl (by kernel_rfl) (by kernel_rfl) (by kernel_rfl) (by kernel_rfl) (fun _ _ _ h => h) (Or.inl ⟨by rfl, ?hya3⟩) hHeld ?_
  case hya3 => (intro w hSw; (try dsimp only at hSw); go_simp; try (with_reducible rfl))
  (try simp only [Act.put, List.getElem_toArray, List.getElem_cons_succ, List.getElem_cons_zero, List.setIfInBounds_toArray, List.set_cons_zero, List.set_cons_succ])
  refine wpAnyD_take (i := 4) (v := ?_) rfl (by kernel_rfl) (by kernel_rfl) (by kernel_rfl) (by kernel_rfl) (fun _ _ _ h => h) (Or.inl ⟨by rfl, ?hya4⟩) hHeld ?_
  case hya4 => (intro w hSw; (try dsimp only at hSw); go_simp; try (with_reducible rfl))
  (try simp only [Act.put, List.getElem_toArray, List.getElem_cons_succ, List.getElem_cons_zero, List.setIfInBounds_toArray, List.set_cons_zero, List.set_cons_succ])
  refine wpAnyD_step (i := 2) (by kernel_rfl) rfl (fun K hK9 => ?_)
  go_simp
  go_wp2_with fail
  refine (KW.out _).mono ?_
  rintro e u2 ⟨g, rfl, hg, hO2, k2⟩
  refine hK9.out _ _ (HS.out _ (hHeld.1.trans k2)) (fun hHeld2 => ?_)
  clear hK9 K
  obtain ⟨hr, hO3, hG3⟩ := app_room u2 g rc [] hO2 M b off rc cap hML (hrd.kept hb (hKW.trans hHeld2.1)) (by simp) 0 rfl
  rw [List.nil_append] at hO3
  rw [Nat.zero_add] at hr
  obtain ⟨U, hU⟩ : ∃ U, u2.setCells g 0 (M.map (Value.int .i64)) = U := ⟨_, rfl⟩
  rw [hU] at hr hO3 hG3
  clear hU
  have hgW : W.heap.size ≤ g := hg
  refine wpAnyD_step (i := 5) (by kernel_rfl) rfl (fun K hK9 => ?_)
  rw [if_pos (by rfl)]
  refine oper_append_run _ _ _ rfl _ _ rfl rfl _ _ (hr _) ?_
  refine hK9.out _ _ (HS.out _ (hHeld2.1.grw hgW hG3)) (fun hHeld5 => ?_)
  clear hK9 K
  (try simp only [Act.put, List.getElem_toArray, List.getElem_cons_succ, List.getElem_cons_zero, List.setIfInBounds_toArray, List.set_cons_zero, List.set_cons_succ])
  have hsz2 := hHeld2.1.below.size
  have KM : Calls Try.prog 30 #[.agg #[.int .i64 rs, .int .i64 cs, .int .i64 n], .slice (some ⟨g, 0, none⟩) rc rc] U fun e w' => e = .returned (.agg #[.int .i64 rs, .int .i64 cs, .int .i64 n, .slice (some ⟨g, 0, none⟩) rc rc]) ∧ Own w' g rc (M.map (cln · n)) ∧ Grw g u2 w' := by
    have := matrix_any rs cs n hn M hRg (by omega) g rc U hO3
    rw [hML] at this
    refine this.mono ?_
    rintro e w' ⟨rfl, h1, h2⟩
    exact ⟨rfl, h1, hG3.trans h2⟩
  refine wpAnyD_late (i := 6) (by kernel_rfl) rfl rfl (fun K hK9 => ?_)
  go_simp
  go_wp2_with fail
  refine (KM).mono ?_
  rintro e u6 ⟨rfl, hO4, hG4⟩
  have hk6 : Kept W u6 := hHeld2.1.grw (by omega) hG4
  have hr4 := hRW.bl hk6.bl
  have f4 : ∀ o, u6.frozen? ⟨w.heap.size + 1, o, none⟩ = false := fun o => (hk6.frozen _).trans (hFW o)
  obtain ⟨p0, p1, p2, p3⟩ := res4 u6 _ _ _ _ _ hr4 (.int .i64 rs) (.int .i64 cs) (.int .i64 n) (.slice (some ⟨g, 0, none⟩) rc rc)
  obtain ⟨r0, r1, r2, r3⟩ := hr4
  refine hK9.out _ _ ?_
  clear hK9 K
  (try simp only [Act.put, List.getElem_toArray, List.getElem_cons_succ, List.getElem_cons_zero, List.setIfInBounds_toArray, List.set_cons_zero, List.set_cons_succ])
  refine wpAnyD_late (i := 7) (by kernel_rfl) rfl rfl (fun K hK9 => ?_)
  go_simp
  refine hK9.out _ _ ?_
  clear hK9 K
  (try simp only [Act.put, List.getElem_toArray, List.getElem_cons_succ, List.getElem_cons_zero, List.setIfInBounds_toArray, List.set_cons_zero, List.set_cons_succ])
  refine wpAnyD_late (i := 8) (by kernel_rfl) rfl rfl (fun K hK9 => ?_)
  go_simp
  refine hK9.out _ _ ?_
  clear hK9 K
  (try simp only [Act.put, List.getElem_toArray, List.getElem_cons_succ, List.getElem_cons_zero, List.setIfInBounds_toArray, List.set_cons_zero, List.set_cons_succ])
  refine wpAnyD_done (by kernel_rfl) ?_ _
  (try simp only [Act.put, List.getElem_toArray, List.getElem_cons_succ, List.getElem_cons_zero, List.setIfInBounds_toArray, List.set_cons_zero, List.set_cons_succ])
  have hO5 := (((hO4.setOther (p := ⟨w.heap.size + 1, 0, none⟩) (by simp; omega) (.int .i64 rs)).setOther (p := ⟨w.heap.size + 1, 1, none⟩) (by simp; omega) (.int .i64 cs)).setOther (p := ⟨w.heap.size + 1, 2, none⟩) (by simp; omega) (.int .i64 n)).setOther (p := ⟨w.heap.size + 1, 3, none⟩) (by simp; omega) (.slice (some ⟨g, 0, none⟩) rc rc)
  have hk5 := (((hKW.trans hk6).setCell (p := ⟨w.heap.size + 1, 0, none⟩) (by simp) (.int .i64 rs)).setCell (p := ⟨w.heap.size + 1, 1, none⟩) (by simp) (.int .i64 cs)).setCell (p := ⟨w.heap.size + 1, 2, none⟩) (by simp) (.int .i64 n) |>.setCell (p := ⟨w.heap.size + 1, 3, none⟩) (by simp) (.slice (some ⟨g, 0, none⟩) rc rc)
  go_wp2_with fail
  exact bodyPost_ret (v := .tuple #[.agg #[.int .i64 rs, .int .i64 cs, .int .i64 n, .slice (some ⟨g, 0, none⟩) rc rc], .int .i64 0]) (by simp [results, Try.results19, go_sem, *]) rfl ⟨g, rfl, by omega, hO5, hk5⟩
end Go.Proofs.Ytijmjnmimijfdab
