/- CutCols of package tensor where it answers. -/
import Derived.Test.YtijmjnmimijfdabT42
import Derived.Test.YtijmjnmimijfdabT32
import Derived.Test.YtijmjnmimijfdabTF
namespace Go.Proofs.Ytijmjnmimijfdab
open Go.ChangeShapes Go.WideShapes Go.ChangeAt Go.RowKit Go.Shelf
set_option linter.unusedVariables false
set_option linter.unusedSimpArgs false
attribute [local go_sem] Oper.semAt_some

abbrev st4 (w : World) (r c n f t : Int) (s : Value) : World := (((w.alloc (.cells #[.int .i64 r, .int .i64 c, .int .i64 n, s] 24)).alloc (.cells #[.int .i64 f] 3)).alloc (.cells #[.int .i64 t] 3)).alloc (.cells #[.int .i64 0, .int .i64 0, .int .i64 0, .slice none 0 0] 24)
theorem st4_facts (w : World) (r c n f t : Int) (s : Value) : M4 (st4 w r c n f t s) w.heap.size (.int .i64 r) (.int .i64 c) (.int .i64 n) s ∧ ((st4 w r c n f t s).cell? ⟨w.heap.size + 1, 0, none⟩ = some (.int .i64 f) ∧ (st4 w r c n f t s).cell? ⟨w.heap.size + 2, 0, none⟩ = some (.int .i64 t)) ∧ M4 (st4 w r c n f t s) (w.heap.size + 3) (.int .i64 0) (.int .i64 0) (.int .i64 0) (.slice none 0 0) ∧ (∀ o, (st4 w r c n f t s).frozen? ⟨w.heap.size + 3, o, none⟩ = false) ∧ Kept w (st4 w r c n f t s) ∧ (st4 w r c n f t s).heap.size = w.heap.size + 4 := by
  refine ⟨⟨by simp [go_sem], by simp [go_sem], by simp [go_sem], by simp [go_sem]⟩, ⟨by simp [go_sem], by simp [go_sem]⟩, ⟨by simp [go_sem], by simp [go_sem], by simp [go_sem], by simp [go_sem]⟩, fun o => by simp [go_sem], ((((Kept.refl w).alloc _ _).alloc _ _).alloc _ _).alloc _ _, by simp⟩

/-- What has come of the rows in turn, cut. -/
def cutL {R : Nat} (M : List Int) (C f D : Nat) (pre : List (Fin R)) : List Int := pre.flatMap fun x => lst D (cth M C 0 f x.1)
theorem cutL_length {R : Nat} (M : List Int) (C f D : Nat) (pre : List (Fin R)) : (cutL M C f D pre).length = pre.length * D := by
  induction pre with
  | nil => simp [cutL]
  | cons x r ih =>
    have : cutL M C f D (x :: r) = lst D (cth M C 0 f x.1) ++ cutL M C f D r := by simp [cutL]
    rw [this, List.length_append, ih, lst_length, List.length_cons, Nat.succ_mul, Nat.add_comm]
theorem cutL_snoc {R : Nat} (M : List Int) (C f D : Nat) (pre : List (Fin R)) (x : Fin R) : cutL M C f D (pre ++ [x]) = cutL M C f D pre ++ lst D (cth M C 0 f x.1) := by simp [cutL]
theorem cutL_all (M : List Int) (R C f D : Nat) (hD : 0 < D) : cutL M C f D (List.finRange R) = lst (R * D) (ctf M C 0 f D) := by
  unfold cutL
  rw [finRange_flat R (fun x => lst D (cth M C 0 f x))]
  exact cth_flat M C 0 f D R hD

set_option maxRecDepth 100000 in
set_option maxHeartbeats 4000000 in
theorem cutCols_ok (R C f t : Nat) (n : Int) (hn : n = 64 ∨ n = 32) (hR : 0 < R) (hft : f < t) (htC : t ≤ C) (hRC : R * C ≤ 4096) (M : List Int) (hML : M.length = R * C) (hRg : Rgl M) (hck : ckM R C n M = 0) (b off cap : Nat) (hcap : R * C ≤ cap) (w : World) (hb : b < w.heap.size) (hrd : Reads w b off M) (hSl : Sl w (.slice (some ⟨b, off, none⟩) M.length cap) M) :
    Calls Try.prog 20 #[.agg #[.int .i64 R, .int .i64 C, .int .i64 n, .slice (some ⟨b, off, none⟩) (R * C) cap], .int .i64 f, .int .i64 t] w fun e w' => ∃ g, e = .returned (.tuple #[.agg #[.int .i64 R, .int .i64 (t - f : Nat), .int .i64 n, .slice (some ⟨g, 0, none⟩) (R * (t - f)) (R * (t - f))], .int .i64 0]) ∧ w.heap.size ≤ g ∧ Own w' g (R * (t - f)) ((lst (R * (t - f)) (ctf M C 0 f (t - f))).map (cln · n)) ∧ Bl w w' := by
  obtain ⟨hmX, ⟨hfcX, htcX⟩, hrX, hfX, hKX, hXs⟩ := st4_facts w R C n f t (.slice (some ⟨b, off, none⟩) (R * C) cap)
  obtain ⟨X, hX⟩ : ∃ X, X = st4 w R C n f t (.slice (some ⟨b, off, none⟩) (R * C) cap) := ⟨_, rfl⟩
  rw [← hX] at hmX hfcX htcX hrX hfX hKX hXs
  have hC : 0 < C := by omega
  have KC : Hid (Calls Try.prog 17 #[.agg #[.int .i64 R, .int .i64 C, .int .i64 n, .slice (some ⟨b, off, none⟩) (R * C) cap]] X fun e w' => e = .returned (.int .i64 0) ∧ Kept X w') := by
    have := check_any R C n (some ⟨b, off, none⟩) cap M X (hSl.kept hKX)
    rw [hck, hML] at this
    exact this
  have KA : Hid (∀ u, Kept X u → Calls Try.prog 31 #[.agg #[.int .i64 R, .int .i64 C, .int .i64 n, .slice (some ⟨b, off, none⟩) (R * C) cap]] u fun e w' => e = .returned (.agg #[.int .i64 R, .int .i64 C, .int .i64 n]) ∧ Kept X w' ∧ Kept u w') := fun u k => by
    refine (shapeOf_any _ _ _ _ u).mono ?_
    rintro e w' ⟨rfl, k'⟩
    exact ⟨rfl, k.trans k', k'⟩
  have hC4 : C ≤ 4096 := Nat.le_trans (Nat.le_mul_of_pos_left C hR) hRC
  have hR4 : R ≤ 4096 := Nat.le_trans (Nat.le_mul_of_pos_right R hC) hRC
  obtain ⟨d, hd⟩ : ∃ d, t - f = d := ⟨_, rfl⟩
  have hRd : R * d ≤ R * C := Nat.mul_le_mul_left _ (by omega)
  have KB : Hid (∀ u, Kept X u → Calls Try.prog 44 #[.agg #[.int .i64 R, .int .i64 C, .int .i64 n], .int .i64 f, .int .i64 t] u fun e w' => e = .returned (.tuple #[.agg #[.int .i64 R, .int .i64 d, .int .i64 n], .int .i64 0]) ∧ Kept X w' ∧ Kept u w') := fun u k => by
    have := colsCut_ok R C n f t (by omega) (by omega) (by omega) (by omega) u
    have hi : (t : Int) - (f : Int) = (d : Int) := by omega
    rw [hi] at this
    refine this.mono ?_
    rintro e w' ⟨rfl, k'⟩
    exact ⟨rfl, k.trans k', k'⟩
  have KW : Hid (∀ u, Calls Try.prog 43 #[.agg #[.int .i64 R, .int .i64 d, .int .i64 n]] u fun e w' => ∃ g, e = .returned (.slice (some ⟨g, 0, none⟩) 0 (R * d)) ∧ u.heap.size ≤ g ∧ Own w' g (R * d) [] ∧ Kept u w') := fun u => bare_any R d n (R * d) (by simp) (by omega) u
  have KR : Hid (∀ u, Calls Try.prog 32 #[.agg #[.int .i64 R, .int .i64 C, .int .i64 n, .slice (some ⟨b, off, none⟩) (R * C) cap]] u fun e w' => e = .returned (.func (.func 61) #[] #[.pointer (some ⟨u.heap.size, 0, none⟩)]) ∧ w' = u.alloc (.cells #[.int .i64 R, .int .i64 C, .int .i64 n, .slice (some ⟨b, off, none⟩) (R * C) cap] 24)) := fun u => rowsOf_any _ _ _ _ u
  have HS : Hid (∀ u, Kept X u → Kept X u ∧ (u.cell? ⟨w.heap.size, 0, none⟩ = some (.int .i64 R) ∧ u.cell? ⟨w.heap.size, 1, none⟩ = some (.int .i64 C) ∧ u.cell? ⟨w.heap.size, 2, none⟩ = some (.int .i64 n) ∧ u.cell? ⟨w.heap.size, 3, none⟩ = some (.slice (some ⟨b, off, none⟩) (R * C) cap)) ∧ u.cell? ⟨w.heap.size + 1, 0, none⟩ = some (.int .i64 f) ∧ u.cell? ⟨w.heap.size + 2, 0, none⟩ = some (.int .i64 t)) := fun u k => by
    obtain ⟨m0, m1, m2, m3⟩ := hmX.bl k.bl
    exact ⟨k, ⟨m0, m1, m2, m3⟩, (k.bl.cell (w.heap.size + 1) 0 (by omega)).trans hfcX, (k.bl.cell (w.heap.size + 2) 0 (by omega)).trans htcX⟩
  have HALL : Hid (cutL M C f d (List.finRange R) = lst (R * d) (ctf M C 0 f d)) := cutL_all M R C f d (by omega)
  have HRT : Hid (Rgl (lst (R * d) (ctf M C 0 f d))) := ctf_rgl M R C 0 f d R (by omega) (by omega) (by omega) hML hRg
  have HLT : Hid (∀ x, x < R → ∀ i, i < d → x * C + (f + i) < M.length) := fun x hx i hi => by
    rw [hML]
    have := ct_lt R C 0 f d R x i (by omega) (by omega) hx hi
    rwa [Nat.zero_add] at this
  rw [hd]
  obtain ⟨rc, hrc'⟩ : ∃ rc, R * C = rc := ⟨_, rfl⟩
  obtain ⟨rq, hrq'⟩ : ∃ rq, R * d = rq := ⟨_, rfl⟩
  have HRC : Hid (R * C = rc) := hrc'
  have HRQ : Hid (R * d = rq) := hrq'
  rw [hrc'] at hRC hML hcap hmX KC KA KR hX HS hRd
  rw [hrq'] at hRd KW HALL HRT
  rw [hrc', hrq']
  have hfd : f + d ≤ C := by omega
  have HTD : Hid (t = f + d) := by show t = f + d; omega
  have hd0 : 0 < d := by omega
  clear hrc' hrq' hd hck hSl hRg
  unfold st4 at hX
  refine (callsIn_wide (n := 3)).1 ?_
  refine callsIn_of_wp_marks Try.func20 rfl trivial ?_ rfl
  rw [wpIn_wide]
  refine Code.wp_mono npPost_imp ?_
  simp only [Try.ntmps20, List.size_toArray, List.length_cons, List.length_nil, Nat.reduceAdd, Nat.reduceSub, Array.replicate_succ, Array.replicate_zero, List.push_toArray, List.append_toArray, List.nil_append, List.cons_append]
  go_upto_region 1 with fail
  rw [← hX]
  clear hX
  have hmX' := hmX
  obtain ⟨m0, m1, m2, m3⟩ := hmX'
  go_upto_region 4 with (first | (go_at_call 17; refine (KC.out).mono ?_; rintro e w1 ⟨rfl, k1⟩))
  clear m0 m1 m2 m3
  have kd := k1.drew
  have z1 := k1.below.size
  go_cut [9, 10] from 14 to 27 (fun t9 t10 wx => ∃ B, t9 = .pointer (some ⟨B, 0, none⟩) ∧ t10 = .int .i64 0 ∧ X.heap.size ≤ B ∧ M3 wx B (.int .i64 R) (.int .i64 d) (.int .i64 n) ∧ Kept X wx)
  case first =>
    go_region_held (fun u => Kept X u ∧ (u.cell? ⟨w.heap.size, 0, none⟩ = some (.int .i64 R) ∧ u.cell? ⟨w.heap.size, 1, none⟩ = some (.int .i64 C) ∧ u.cell? ⟨w.heap.size, 2, none⟩ = some (.int .i64 n) ∧ u.cell? ⟨w.heap.size, 3, none⟩ = some (.slice (some ⟨b, off, none⟩) rc cap)) ∧ u.cell? ⟨w.heap.size + 1, 0, none⟩ = some (.int .i64 f) ∧ u.cell? ⟨w.heap.size + 2, 0, none⟩ = some (.int .i64 t)) (first | assumption | exact HS.out _ kd | exact HS.out _ (by assumption) | exact HS.out _ (by repeat' first | assumption | exact Kept.alloc (by assumption) _ _ | (refine Kept.setCell ?_ ?_ _) | (simp; omega))) (first | (go_at_call 31; refine (KA.out _ (by first | assumption | exact Kept.alloc (by assumption) _ _)).mono ?_; rintro e w3 ⟨rfl, k3, j3⟩; have z3 := k3.below.size; (first | (have qz := zb_newd j3; obtain ⟨⟨q30, q31, q32⟩, q3f⟩ := qz) | (have qz := zb_new j3; obtain ⟨⟨q30, q31, q32⟩, q3f⟩ := qz) | skip)) | (go_at_call 44; refine (KB.out _ (by first | assumption | exact Kept.alloc (by assumption) _ _)).mono ?_; rintro e w4 ⟨rfl, k4, j4⟩; have z4 := k4.below.size; first | (have qz := zb_new j4; obtain ⟨⟨q40, q41, q42⟩, q4f⟩ := qz) | (have qz := zb_on ⟨q30, q31, q32⟩ q3f j4; obtain ⟨⟨q40, q41, q42⟩, q4f⟩ := qz) | skip))
    all_goals go_wp2_with fail
    all_goals go_meet
    all_goals
      refine ⟨_, rfl, rfl, ?_, ?_, ?_⟩
      · omega
      · first | exact M3.put w4 _ _ _ _ ⟨q40, q41, q42⟩ _ _ _ | exact M3.new _ _ _ _ _
      · (repeat' first | assumption | exact Kept.alloc (by assumption) _ _ | (refine Kept.setCell ?_ ?_ _) | (simp; omega))
  case rest =>
    obtain ⟨B, rfl, rfl, hB, hM3, kc⟩ := hcut
    have hM3' := hM3
    obtain ⟨b0, b1, b2⟩ := hM3'
    clear kd z1 KA KB KC HS k1
    go_upto_region 8 with (first | (go_at_call 43; refine (KW.out _).mono ?_; rintro e w5 ⟨g1, rfl, hg1, hO5, k5⟩))
    obtain ⟨Y, hY⟩ : ∃ Y, Y = w5.alloc (.cells #[.slice (some ⟨g1, 0, none⟩) 0 rq] 22) := ⟨_, rfl⟩
    rw [← hY]
    have hKY : Kept w5 Y := by rw [hY]; exact (Kept.refl w5).alloc _ _
    have hYs : Y.heap.size = w5.heap.size + 1 := by rw [hY]; simp
    have hvB : Boxed Y w5.heap.size 22 (.slice (some ⟨g1, 0, none⟩) 0 rq) := by rw [hY]; exact Boxed.new _ _ _
    have hOY := hO5.kept hKY
    have g1lt := hO5.lt
    have kcY := kc.trans (k5.trans hKY)
    have hmY := hmX.bl kcY.bl
    have hsB := hM3.lt
    have hs5 := k5.below.size
    have hM3Y := hM3.bl (k5.trans hKY).bl
    clear hY b0 b1 b2 hO5
    have hmY' := hmY
    obtain ⟨m0, m1, m2, m3⟩ := hmY'
    go_wp2_with (first | (go_at_call 32; refine (KR.out _).mono ?_; rintro e w2 ⟨rfl, rfl⟩))
    have hbY := M4.new Y (.int .i64 R) (.int .i64 C) (.int .i64 n) (.slice (some ⟨b, off, none⟩) rc cap) 24
    rw [hYs] at hbY
    obtain ⟨Z, hZ⟩ : ∃ Z, Z = Y.alloc (.cells #[.int .i64 R, .int .i64 C, .int .i64 n, .slice (some ⟨b, off, none⟩) rc cap] 24) := ⟨_, rfl⟩
    rw [← hZ] at hbY ⊢
    have hZs : Z.heap.size = w5.heap.size + 2 := by rw [hZ]; simp; omega
    have hKYZ : Kept Y Z := by rw [hZ]; exact (Kept.refl Y).alloc _ _
    have hKXZ := kcY.trans hKYZ
    have hOZ := hOY.kept hKYZ
    have hvZ : Boxed Z w5.heap.size 22 (.slice (some ⟨g1, 0, none⟩) 0 rq) := (hKYZ.below.block w5.heap.size (by omega)).trans hvB
    have hmZ := hmX.bl hKXZ.bl
    have hfcZ := (hKXZ.bl.cell (w.heap.size + 1) 0 (by omega)).trans hfcX
    have htcZ := (hKXZ.bl.cell (w.heap.size + 2) 0 (by omega)).trans htcX
    have hrZ := hrX.bl hKXZ.bl
    have hfZ : ∀ o, Z.frozen? ⟨w.heap.size + 3, o, none⟩ = false := fun o => (hKXZ.frozen _).trans (hfX o)
    have hM3Z := hM3Y.bl hKYZ.bl
    have hKwZ := hKX.trans hKXZ
    have hszX := kc.below.size
    have hrdZ : Hid (∀ u, GrB [g1, w5.heap.size] Z u → ∀ i, i < M.length → u.cell? ⟨b, off + i, none⟩ = some (.int .i64 (M.getD i 0))) := fun u hu i hi => (hu.cell (by omega) (by simp; omega)).trans ((hKwZ.bl.cell b (off + i) hb).trans (hrd i hi))
    clear hZ hOY hmY hM3Y hKYZ m0 m1 m2 m3 KR hYs hKY kcY hmX hfcX htcX hrX hfX hKXZ hM3 hvB
    have RS := rows_stops 2 (by decide) (w5.heap.size + 1) R C n b off cap hC (by rw [HRC.out]; omega) (by rw [HRC.out]; exact hcap) Z (by rw [HRC.out]; exact hbY)
    generalize hbw : w5.heap.size = bw at *
    clear hbw
    rw [← wpIn_wide (n := 3)]
    refine wpIn_rangeFunc_ownF rfl (by decide) (gf := 61) (lb := #[.pointer (some ⟨bw + 1, 0, none⟩)]) rfl trivial (enters_of Try.func61 (by kernel_rfl) rfl) RS (fun h k => k.trans h) (fun W l o o' hl _ _ _ => World.putObj_heap_other (by omega)) (Below.refl _ _) (fun _ => rfl)
      (fun pre W => Own W g1 rq (cutL M C f d pre) ∧ Boxed W bw 22 (.slice (some ⟨g1, 0, none⟩) (pre.length * d) rq) ∧ GrB [g1, bw] Z W) (fun _ _ _ => False)
      (fun s A B row hs hg hr => ⟨hs.1.abid hg hr, boxed_abid hs.2.1 hg hr, hs.2.2.abid hg hr⟩) (fun _ _ _ _ _ hs _ _ => hs)
      ⟨by simpa [cutL] using hOZ, by simpa using hvZ, GrB.refl _ _⟩
      (fun x => { tmps := #[.agg #[.int .i64 R, .int .i64 C, .int .i64 n, .slice (some ⟨b, off, none⟩) rc cap], .int .i64 f, .int .i64 t, .pointer (some ⟨w.heap.size, 0, none⟩), .pointer (some ⟨w.heap.size + 1, 0, none⟩), .pointer (some ⟨w.heap.size + 1 + 1, 0, none⟩), .pointer (some ⟨w.heap.size + 1 + 1 + 1, 0, none⟩), .int .i64 0, .int .i64 0, .pointer (some ⟨B, 0, none⟩), .int .i64 0, .pointer (some ⟨bw, 0, none⟩), undef, .slice (some ⟨b, off + x.1 * C, none⟩) C C, u14, u15, u16, u17, u18, u19, u20, u21, u22, u23, u24, u25, u26, u27, .int .i64 0, .bool false, undef, undef, .agg #[.int .i64 R, .int .i64 d, .int .i64 n], .slice (some ⟨g1, 0, none⟩) 0 rq, .agg #[.int .i64 R, .int .i64 C, .int .i64 n, .slice (some ⟨b, off, none⟩) rc cap], .func (.func 61) #[] #[.pointer (some ⟨bw + 1, 0, none⟩)], .int .i64 (x.1 : Int), .slice (some ⟨b, off + x.1 * C, none⟩) C C, undef, undef, undef, undef, undef, undef, undef, undef, undef, undef], defers := [] }) ?assign ?body ?done ?stop
    case assign =>
      intro l x W K hK
      gi_wp2
      exact hK
    case body =>
      rintro l pre ⟨x, hx⟩ W ⟨hO, hBx, hG⟩ hlt
      dsimp only
      have hreads : Hid (∀ u, GrB [g1, bw] W u → Reads u b (off + x * C + f) (lst d (cth M C 0 f x))) := fun u hu k hk => by
        rw [lst_length] at hk
        rw [lst_get _ _ _ hk]
        have := hrdZ.out u (hG.trans hu) (x * C + (f + k)) (HLT.out x hx k hk)
        rw [← Nat.add_assoc, ← Nat.add_assoc] at this
        rw [this]
        unfold cth
        rw [Nat.zero_add]
      have hplen : (pre.length + 1) * d ≤ R * d := Nat.mul_le_mul_right _ hlt
      rw [Nat.succ_mul, HRQ.out] at hplen
      have hwl := cutL_length M C f d pre
      obtain ⟨hr, hO2, hG2⟩ := app_room W.drew g1 rq _ (hO.kept (Kept.refl W).drew) (lst d (cth M C 0 f x)) b (off + x * C + f) d d (lst_length _ _) (hreads.out _ ((GrB.refl _ W).bl (Kept.refl W).drew.bl)) (by rw [hwl]; omega) (pre.length * d) hwl
      have hKU := keeps_setCells ((lst d (cth M C 0 f x)).map (Value.int .i64)) W.drew g1 (pre.length * d)
      obtain ⟨U, hU⟩ : ∃ U, W.drew.setCells g1 (pre.length * d) ((lst d (cth M C 0 f x)).map (Value.int .i64)) = U := ⟨_, rfl⟩
      rw [hU] at hr hO2 hG2 hKU
      clear hU
      have hGU : GrB [g1, bw] W U := ((GrB.refl _ W).bl (Kept.refl W).drew.bl).grw hG2 (by simp)
      have hBU : Boxed U bw 22 (.slice (some ⟨g1, 0, none⟩) (pre.length * d) rq) := (hG2.grown.block bw hBx.lt (by simp; omega)).trans hBx
      have c1 := hBU.cell
      have c2 := hBU.frozen
      have hBN := hBU.set (.slice (some ⟨g1, 0, none⟩) (pre.length * d + d) rq)
      have hON := hO2.setOther (p := ⟨bw, 0, none⟩) (by simp; omega) (.slice (some ⟨g1, 0, none⟩) (pre.length * d + d) rq)
      have hGN : GrB [g1, bw] W (U.setCell ⟨bw, 0, none⟩ (.slice (some ⟨g1, 0, none⟩) (pre.length * d + d) rq)) := hGU.setCell (by simp) _
      have hKN := ((KeepsOthers.drew W).trans hKU).trans (KeepsOthers.setCell U ⟨bw, 0, none⟩ (.slice (some ⟨g1, 0, none⟩) (pre.length * d + d) rq))
      have HBN : Hid _ := hBN
      have HON : Hid _ := hON
      have HGN : Hid _ := hGN
      have HKN : Hid _ := hKN
      have HLE : Hid ((pre.length + 1) * d = pre.length * d + d) := by
        show (pre.length + 1) * d = pre.length * d + d
        rw [Nat.succ_mul]
      have HR9 : Hid (∀ ty, (Builtin.append_ #[22, 22] ty #[.slice (some ⟨g1, 0, none⟩) (pre.length * d) rq, .slice (some ⟨b, off + x * C + f, none⟩) d d]).run Try.prog W.drew = .ok (.slice (some ⟨g1, 0, none⟩) (pre.length * d + d) rq) U) := hr
      have v0 := hBx.cell
      have v1 : W.cell? ⟨w.heap.size + 1, 0, none⟩ = some (.int .i64 f) := (hG.cell (by omega) (by simp; omega)).trans hfcZ
      have v2 : W.cell? ⟨w.heap.size + 2, 0, none⟩ = some (.int .i64 t) := (hG.cell (by omega) (by simp; omega)).trans htcZ
      have y1 : (0 : Int) ≤ (f : Int) := by omega
      have y2 : (f : Int) ≤ (t : Int) := by omega
      have y3 : (t : Int) ≤ (C : Int) := by omega
      have y4 : f ≤ t := by omega
      have y5 : t ≤ C := by omega
      have y7 : ¬ t = f := by omega
      have y6 : t - f = d := by have := HTD.out; omega
      clear hBN hON hGN hKN hr hO2 hG2 hKU hBU hwl hplen hmZ hrZ hfZ hvZ hOZ RS hrdZ hrd hbY hM3Z hfcZ htcZ hGU hO
      generalize pre.length * d = ln at *
      gi_wp2_with fail
      refine wpIn_region_late [6, 7] (fun u => u.cell? ⟨bw, 0, none⟩ = some (.slice (some ⟨g1, 0, none⟩) ln rq) ∧ u.cell? ⟨w.heap.size + 1, 0, none⟩ = some (.int .i64 f) ∧ u.cell? ⟨w.heap.size + 2, 0, none⟩ = some (.int .i64 t)) (by kernel_rfl) ⟨v0, v1, v2⟩ (fun hHeld => ?_)
      refine wpAnyF_take (i := 0) (v := ?_) (by kernel_rfl) rfl (by kernel_rfl) (by kernel_rfl) (by kernel_rfl) (by kernel_rfl) (fun _ _ _ h => h) (fun _ => rfl) (Or.inl ⟨by rfl, ?hy0⟩) hHeld ?_
      case hy0 => (intro w hSw; (try dsimp only at hSw); go_simp; try (with_reducible rfl))
      (try simp only [Act.put, List.getElem_toArray, List.getElem_cons_succ, List.getElem_cons_zero, List.setIfInBounds_toArray, List.set_cons_zero, List.set_cons_succ])
      refine wpAnyF_take (i := 1) (v := ?_) (by kernel_rfl) rfl (by kernel_rfl) (by kernel_rfl) (by kernel_rfl) (by kernel_rfl) (fun _ _ _ h => h) (fun _ => rfl) (Or.inl ⟨by rfl, ?hy1⟩) hHeld ?_
      case hy1 => (intro w hSw; (try dsimp only at hSw); go_simp; try (with_reducible rfl))
      (try simp only [Act.put, List.getElem_toArray, List.getElem_cons_succ, List.getElem_cons_zero, List.setIfInBounds_toArray, List.set_cons_zero, List.set_cons_succ])
      refine wpAnyF_take (i := 2) (v := ?_) (by kernel_rfl) rfl (by kernel_rfl) (by kernel_rfl) (by kernel_rfl) (by kernel_rfl) (fun _ _ _ h => h) (fun _ => rfl) (Or.inl ⟨by rfl, ?hy2⟩) hHeld ?_
      case hy2 => (intro w hSw; (try dsimp only at hSw); go_simp; try (with_reducible rfl))
      (try simp only [Act.put, List.getElem_toArray, List.getElem_cons_succ, List.getElem_cons_zero, List.setIfInBounds_toArray, List.set_cons_zero, List.set_cons_succ])
      refine wpAnyF_take (i := 3) (v := ?_) (by kernel_rfl) rfl (by kernel_rfl) (by kernel_rfl) (by kernel_rfl) (by kernel_rfl) (fun _ _ _ h => h) (fun _ => rfl) (Or.inl ⟨by rfl, ?hy3⟩) hHeld ?_
      case hy3 => (intro w hSw; (try dsimp only at hSw); go_simp; try (with_reducible rfl))
      (try simp only [Act.put, List.getElem_toArray, List.getElem_cons_succ, List.getElem_cons_zero, List.setIfInBounds_toArray, List.set_cons_zero, List.set_cons_succ])
      refine wpAnyF_take (i := 4) (v := ?_) (by kernel_rfl) rfl (by kernel_rfl) (by kernel_rfl) (by kernel_rfl) (by kernel_rfl) (fun _ _ _ h => h) (fun _ => rfl) (Or.inl ⟨by rfl, ?hy4⟩) hHeld ?_
      case hy4 => (intro w hSw; (try dsimp only at hSw); go_simp; try (with_reducible rfl))
      (try simp only [Act.put, List.getElem_toArray, List.getElem_cons_succ, List.getElem_cons_zero, List.setIfInBounds_toArray, List.set_cons_zero, List.set_cons_succ])
      refine wpAnyF_take (i := 5) (v := ?_) (by kernel_rfl) rfl (by kernel_rfl) (by kernel_rfl) (by kernel_rfl) (by kernel_rfl) (fun _ _ _ h => h) (fun _ => rfl) (Or.inl ⟨by rfl, ?hy5⟩) hHeld ?_
      case hy5 => (intro w hSw; (try dsimp only at hSw); go_simp; try (with_reducible rfl))
      (try simp only [Act.put, List.getElem_toArray, List.getElem_cons_succ, List.getElem_cons_zero, List.setIfInBounds_toArray, List.set_cons_zero, List.set_cons_succ])
      refine wpAnyF_late (i := 6) (by kernel_rfl) rfl rfl (fun K hK9 => ?_)
      rw [if_pos (by rfl)]
      refine operIn_append_run _ _ _ rfl _ _ rfl rfl _ _ (HR9.out _) ?_
      refine hK9.out _ _ ?_
      clear hK9 K
      (try simp only [Act.put, List.getElem_toArray, List.getElem_cons_succ, List.getElem_cons_zero, List.setIfInBounds_toArray, List.set_cons_zero, List.set_cons_succ])
      refine wpAnyF_late (i := 7) (by kernel_rfl) rfl rfl (fun K hK9 => ?_)
      rw [if_pos (by rfl)]
      gi_wp2_with fail
      refine hK9.out _ _ ?_
      clear hK9 K
      (try simp only [Act.put, List.getElem_toArray, List.getElem_cons_succ, List.getElem_cons_zero, List.setIfInBounds_toArray, List.set_cons_zero, List.set_cons_succ])
      refine wpAnyF_done (by kernel_rfl) ?_ _
      (try simp only [Act.put, List.getElem_toArray, List.getElem_cons_succ, List.getElem_cons_zero, List.setIfInBounds_toArray, List.set_cons_zero, List.set_cons_succ])
      gi_wp2
      refine ⟨HKN.out, HGN.out.block (bw + 1) (by have := hG.size; omega) (by simp; omega), ?_, ?_, hG.trans HGN.out⟩
      · rw [cutL_snoc]; exact HON.out
      · rw [List.length_append, List.length_singleton, HLE.out]; exact HBN.out
    case done =>
      rintro D xs W hD rfl ⟨hO, hBx, hG⟩ hK
      rw [List.length_finRange, HRQ.out] at hBx
      rw [HALL.out] at hO
      have HRT' := HRT.out
      obtain ⟨T, hT⟩ : ∃ T, lst rq (ctf M C 0 f d) = T := ⟨_, rfl⟩
      have hTl : T.length = rq := by rw [← hT, lst_length]
      rw [hT] at hO HRT'
      have HT : Hid (T = lst rq (ctf M C 0 f d)) := hT.symm
      have hm3W := hG.m3 hM3Z (by simp; omega)
      have HKZ : Hid (Below w.heap.size w Z) := hKwZ.below
      have HZ : Hid (Z.heap.size = bw + 2 ∧ w.heap.size + 4 ≤ B ∧ B < g1 ∧ g1 < bw ∧ Z.heap.size ≤ D) := ⟨hZs, by omega, by omega, g1lt, hD⟩
      have HRES : Hid (∀ u, GrB [g1, bw] Z u → M4 u (w.heap.size + 3) (.int .i64 0) (.int .i64 0) (.int .i64 0) (.slice none 0 0) ∧ (∀ o, u.frozen? ⟨w.heap.size + 3, o, none⟩ = false)) := fun u hu => ⟨hu.m4 hrZ (by simp; omega), fun o => (hu.frozen (by omega) (by simp; omega)).trans (hfZ o)⟩
      have hDW := (Array.getElem?_eq_some_iff.1 hK).1
      have A3 : Hid (Calls Try.prog 30 #[.agg #[.int .i64 R, .int .i64 d, .int .i64 n], .slice (some ⟨g1, 0, none⟩) rq rq] W fun e w' => e = .returned (.agg #[.int .i64 R, .int .i64 d, .int .i64 n, .slice (some ⟨g1, 0, none⟩) rq rq]) ∧ (Hid (Own w' g1 rq (T.map (cln · n))) ∧ Hid (GrB [g1, bw] Z w')) ∧ M4 w' (w.heap.size + 3) (.int .i64 0) (.int .i64 0) (.int .i64 0) (.slice none 0 0) ∧ (∀ o, w'.frozen? ⟨w.heap.size + 3, o, none⟩ = false) ∧ w'.heap[D]? = some (.deferred (some []))) := by
        have := matrix_any R d n hn T HRT' (by omega) g1 rq W hO
        rw [hTl] at this
        refine this.mono ?_
        rintro e w' ⟨rfl, h1, h2⟩
        have hGu := hG.grw h2 (.inl (by simp))
        obtain ⟨r1, r2⟩ := HRES.out _ hGu
        refine ⟨rfl, ⟨h1, hGu⟩, r1, r2, ?_⟩
        exact (h2.grown.block D hDW (by simp; omega)).trans hK
      have v0 := hBx.cell
      obtain ⟨s0, s1, s2⟩ := hm3W
      have hg2z : w.heap.size ≤ g1 := by omega
      have hgne : g1 ≠ w.heap.size + 3 := by omega
      have hDne : D ≠ w.heap.size + 3 := by omega
      have hDg : D ≠ g1 := by omega
      clear hO hrd hbY RS hrdZ hOZ hvZ hmZ hrZ hfZ hM3Z hfcZ htcZ hKwZ hZs hML hBx hT HALL HRT KW HRES
      go_wp2_with (first | (go_at_call 30; refine (A3.out).mono ?_; rintro e w4 ⟨rfl, ⟨hO4, hG4⟩, r4, f4, hK4⟩; have hR' := res4 w4 _ _ _ _ _ r4 (.int .i64 R) (.int .i64 d) (.int .i64 n) (.slice (some ⟨g1, 0, none⟩) rq rq); obtain ⟨r0, r1, r2, r3⟩ := r4))
      have hK5 := (KeepsOthers.setCell ((((w4.setCell ⟨w.heap.size + 3, 0, none⟩ (.int .i64 R)).setCell ⟨w.heap.size + 3, 1, none⟩ (.int .i64 d)).setCell ⟨w.heap.size + 3, 2, none⟩ (.int .i64 n))) ⟨w.heap.size + 3, 3, none⟩ (.slice (some ⟨g1, 0, none⟩) rq rq)).same D _ ((KeepsOthers.setCell ((w4.setCell ⟨w.heap.size + 3, 0, none⟩ (.int .i64 R)).setCell ⟨w.heap.size + 3, 1, none⟩ (.int .i64 d)) ⟨w.heap.size + 3, 2, none⟩ (.int .i64 n)).same D _ ((KeepsOthers.setCell (w4.setCell ⟨w.heap.size + 3, 0, none⟩ (.int .i64 R)) ⟨w.heap.size + 3, 1, none⟩ (.int .i64 d)).same D _ ((KeepsOthers.setCell w4 ⟨w.heap.size + 3, 0, none⟩ (.int .i64 R)).same D _ hK4 rfl) rfl) rfl) rfl
      obtain ⟨z1, z2, z3, z4, z5⟩ := HZ.out
      have hF := m4_put hR' (D := D) (.deferred none) (by omega)
      obtain ⟨p0, p1, p2, p3⟩ := hF
      have hO5 : Own (((((w4.setCell ⟨w.heap.size + 3, 0, none⟩ (.int .i64 R)).setCell ⟨w.heap.size + 3, 1, none⟩ (.int .i64 d)).setCell ⟨w.heap.size + 3, 2, none⟩ (.int .i64 n)).setCell ⟨w.heap.size + 3, 3, none⟩ (.slice (some ⟨g1, 0, none⟩) rq rq)).putObj D (.deferred none)) g1 rq (T.map (cln · n)) := by
        have h1 := (((hO4.out.setOther (p := ⟨w.heap.size + 3, 0, none⟩) hgne (.int .i64 R)).setOther (p := ⟨w.heap.size + 3, 1, none⟩) hgne (.int .i64 d)).setOther (p := ⟨w.heap.size + 3, 2, none⟩) hgne (.int .i64 n)).setOther (p := ⟨w.heap.size + 3, 3, none⟩) hgne (.slice (some ⟨g1, 0, none⟩) rq rq)
        obtain ⟨cur, hc, rest⟩ := h1
        exact ⟨cur, (World.putObj_heap_other (Ne.symm hDg)).trans hc, rest⟩
      have hB5 : Bl w (((((w4.setCell ⟨w.heap.size + 3, 0, none⟩ (.int .i64 R)).setCell ⟨w.heap.size + 3, 1, none⟩ (.int .i64 d)).setCell ⟨w.heap.size + 3, 2, none⟩ (.int .i64 n)).setCell ⟨w.heap.size + 3, 3, none⟩ (.slice (some ⟨g1, 0, none⟩) rq rq)).putObj D (.deferred none)) := by
        have hG5 := hG4.out
        have h1 : Bl w w4 := ⟨⟨hG5.os.trans HKZ.out.os, hG5.tape.trans HKZ.out.tape, hG5.output.trans HKZ.out.output, Nat.le_trans HKZ.out.size hG5.size, fun i hi => (hG5.block i (by omega) (by simp; omega)).trans (HKZ.out.block i hi)⟩⟩
        have h2 := (((h1.setCell (p := ⟨w.heap.size + 3, 0, none⟩) (by simp) (.int .i64 R)).setCell (p := ⟨w.heap.size + 3, 1, none⟩) (by simp) (.int .i64 d)).setCell (p := ⟨w.heap.size + 3, 2, none⟩) (by simp) (.int .i64 n)).setCell (p := ⟨w.heap.size + 3, 3, none⟩) (by simp) (.slice (some ⟨g1, 0, none⟩) rq rq)
        exact ⟨h2.below.trans (belowK_b (w := w) (Nat.le_refl _) _ D _ _ (by omega) hK5 rfl rfl)⟩
      refine ⟨by simp, .inl ⟨_, _, rfl, run_takeDeferred hK5, ?_⟩⟩
      exact ⟨.tuple #[.agg #[.int .i64 R, .int .i64 d, .int .i64 n, .slice (some ⟨g1, 0, none⟩) rq rq], .int .i64 0], by simp [results, Try.f20, go_sem, p0, p1, p2, p3], g1, rfl, hg2z, by rw [← HT.out]; exact hO5, hB5⟩
    case stop =>
      rintro D c pre W _ _ h _
      exact h.elim
end Go.Proofs.Ytijmjnmimijfdab
