/- CutRows of package tensor where it answers. -/
import Derived.Test.YtijmjnmimijfdabT41
namespace Go.Proofs.Ytijmjnmimijfdab
open Go.ChangeShapes Go.WideShapes Go.ChangeAt Go.RowKit
set_option linter.unusedVariables false
set_option linter.unusedSimpArgs false

theorem flat_succ (k D : Nat) (f : Nat → Nat → Int) : flat (k + 1) D f = flat k D f ++ lst D (f k) := by
  unfold flat
  rw [List.range_succ, List.flatMap_append]
  simp
theorem flat_length (k D : Nat) (f : Nat → Nat → Int) : (flat k D f).length = k * D := by
  induction k with
  | zero => simp [flat]
  | succ k ih => rw [flat_succ, List.length_append, ih, lst_length, Nat.succ_mul]
/-- The element that comes to a place of a matrix that was cut out: D columns from c0 on, rows from r0 on. -/
def ctf (M : List Int) (C r0 c0 D : Nat) (j : Nat) : Int := M.getD ((r0 + j / D) * C + (c0 + j % D)) 0
def cth (M : List Int) (C r0 c0 : Nat) (x c : Nat) : Int := M.getD ((r0 + x) * C + (c0 + c)) 0
theorem cth_flat (M : List Int) (C r0 c0 D d : Nat) (hD : 0 < D) : flat d D (cth M C r0 c0) = lst (d * D) (ctf M C r0 c0 D) := by
  rw [flat_lst D hD]
  rfl
theorem ct_lt (R C r0 c0 D d x c : Nat) (hr : r0 + d ≤ R) (hc : c0 + D ≤ C) (hx : x < d) (hcD : c < D) : (r0 + x) * C + (c0 + c) < R * C := by
  calc (r0 + x) * C + (c0 + c) < (r0 + x) * C + C := by omega
    _ = (r0 + x + 1) * C := by rw [Nat.succ_mul]
    _ ≤ R * C := Nat.mul_le_mul_right _ (by omega)
theorem ctf_rgl (M : List Int) (R C r0 c0 D d : Nat) (hD : 0 < D) (hr : r0 + d ≤ R) (hc : c0 + D ≤ C) (hML : M.length = R * C) (h : Rgl M) : Rgl (lst (d * D) (ctf M C r0 c0 D)) := by
  intro i hi
  rw [lst_length] at hi
  rw [lst_get _ _ _ hi]
  unfold ctf
  refine h _ ?_
  rw [hML]
  exact ct_lt R C r0 c0 D d _ _ hr hc (Nat.div_lt_of_lt_mul (by rw [Nat.mul_comm]; exact hi)) (Nat.mod_lt _ hD)

set_option maxHeartbeats 4000000 in
set_option maxRecDepth 100000 in
theorem cutRows_ok (R C f t : Nat) (n : Int) (hn : n = 64 ∨ n = 32) (hC : 0 < C) (hft : f < t) (htR : t ≤ R) (hRC : R * C ≤ 4096) (M : List Int) (hML : M.length = R * C) (hRg : Rgl M) (hck : ckM R C n M = 0) (b off cap : Nat) (hcap : R * C ≤ cap) (w : World) (hb : b < w.heap.size) (hrd : Reads w b off M) (hSl : Sl w (.slice (some ⟨b, off, none⟩) M.length cap) M) :
    Calls Try.prog 22 #[.agg #[.int .i64 R, .int .i64 C, .int .i64 n, .slice (some ⟨b, off, none⟩) (R * C) cap], .int .i64 f, .int .i64 t] w fun e w' => ∃ g, e = .returned (.tuple #[.agg #[.int .i64 (t - f : Nat), .int .i64 C, .int .i64 n, .slice (some ⟨g, 0, none⟩) ((t - f) * C) ((t - f) * C)], .int .i64 0]) ∧ w.heap.size ≤ g ∧ Own w' g ((t - f) * C) ((lst ((t - f) * C) (ctf M C f 0 C)).map (cln · n)) ∧ Kept w w' := by
  obtain ⟨hmX, hrX, hfX, hKX, hXs⟩ := st2_facts w R C n (.slice (some ⟨b, off, none⟩) (R * C) cap)
  obtain ⟨X, hX⟩ : ∃ X, X = st2 w R C n (.slice (some ⟨b, off, none⟩) (R * C) cap) := ⟨_, rfl⟩
  rw [← hX] at hmX hrX hfX hKX hXs
  have KC : Hid (Calls Try.prog 17 #[.agg #[.int .i64 R, .int .i64 C, .int .i64 n, .slice (some ⟨b, off, none⟩) (R * C) cap]] X fun e w' => e = .returned (.int .i64 0) ∧ Kept X w') := by
    have := check_any R C n (some ⟨b, off, none⟩) cap M X (hSl.kept hKX)
    rw [hck, hML] at this
    exact this
  have KA : Hid (∀ u, Calls Try.prog 31 #[.agg #[.int .i64 R, .int .i64 C, .int .i64 n, .slice (some ⟨b, off, none⟩) (R * C) cap]] u fun e w' => e = .returned (.agg #[.int .i64 R, .int .i64 C, .int .i64 n]) ∧ Kept u w') := fun u => shapeOf_any _ _ _ _ u
  have hR4 : R ≤ 4096 := Nat.le_trans (Nat.le_mul_of_pos_right R hC) hRC
  obtain ⟨d, hd⟩ : ∃ d, t - f = d := ⟨_, rfl⟩
  have hdC : d * C ≤ R * C := Nat.mul_le_mul_right _ (by omega)
  have KB : Hid (∀ u, Calls Try.prog 48 #[.agg #[.int .i64 R, .int .i64 C, .int .i64 n], .int .i64 f, .int .i64 t] u fun e w' => e = .returned (.tuple #[.agg #[.int .i64 d, .int .i64 C, .int .i64 n], .int .i64 0]) ∧ Kept u w') := fun u => by
    have := rowsCut_ok R C n f t (by omega) (by omega) (by omega) (by omega) u
    have hi : (t : Int) - (f : Int) = (d : Int) := by omega
    rw [hi] at this
    exact this
  have KW : Hid (∀ u, Calls Try.prog 43 #[.agg #[.int .i64 d, .int .i64 C, .int .i64 n]] u fun e w' => ∃ g, e = .returned (.slice (some ⟨g, 0, none⟩) 0 (d * C)) ∧ u.heap.size ≤ g ∧ Own w' g (d * C) [] ∧ Kept u w') := fun u => bare_any d C n (d * C) (by simp) (by omega) u
  have KR : Hid (∀ u k, k < d → Calls Try.prog 33 #[.agg #[.int .i64 R, .int .i64 C, .int .i64 n, .slice (some ⟨b, off, none⟩) (R * C) cap], .int .i64 (f + k : Nat)] u fun e w' => e = .returned (.slice (some ⟨b, off + (f + k) * C, none⟩) C C) ∧ Kept u w') := fun u k hk => rowOf_any R C (f + k) n (by omega) hC (by omega) b off _ cap rfl hcap u
  have HRD : Hid (∀ u, Kept X u → ∀ k, k < d → Reads u b (off + (f + k) * C) (lst C (cth M C f 0 k))) := fun u ku k hk i hi => by
    rw [lst_length] at hi
    rw [lst_get _ _ _ hi]
    have h1 := ct_lt R C f 0 C d k i (by omega) (by omega) hk hi
    have := hrd.kept hb (hKX.trans ku) ((f + k) * C + (0 + i)) (by rw [hML]; exact h1)
    rw [← Nat.add_assoc, Nat.zero_add] at this
    rw [this]
    unfold cth
    rw [Nat.zero_add]
  have HALL : Hid (flat d C (cth M C f 0) = lst (d * C) (ctf M C f 0 C)) := cth_flat M C f 0 C d hC
  have HRT : Hid (Rgl (flat d C (cth M C f 0))) := by rw [HALL.out]; exact ctf_rgl M R C f 0 C d hC (by omega) (by omega) hML hRg
  have HDK : Hid (∀ k, k < d → k * C + C ≤ d * C) := fun k hk => by
    have := Nat.mul_le_mul_right C hk
    rw [Nat.succ_mul] at this
    exact this
  rw [hd]
  obtain ⟨T, hT⟩ : ∃ T, lst (d * C) (ctf M C f 0 C) = T := ⟨_, rfl⟩
  rw [hT] at HALL ⊢
  have hT1 : T.length = d * C := by rw [← hT, lst_length]
  obtain ⟨rc, hrc'⟩ : ∃ rc, R * C = rc := ⟨_, rfl⟩
  obtain ⟨q, hq⟩ : ∃ q, d * C = q := ⟨_, rfl⟩
  rw [hrc'] at hRC hML hcap hmX KC KA KR hX hdC
  rw [hq] at hdC KW HDK hT1
  have HQ : Hid (d * C = q) := hq
  rw [hq, hrc']
  have hfd : f + d ≤ 4096 := by omega
  have hd4 : d ≤ 4096 := by omega
  clear hrc' hck hSl hRg hML hrd hT hq hd htR hft
  unfold st2 at hX
  go_enter Try.func22, Try.ntmps22
  go_upto_region 1 with fail
  rw [← hX]
  clear hX
  have hmX' := hmX
  obtain ⟨m0, m1, m2, m3⟩ := hmX'
  go_upto_region 4 with (first | (go_at_call 17; refine (KC.out).mono ?_; rintro e w1 ⟨rfl, k1⟩))
  clear m0 m1 m2 m3
  obtain ⟨m0, m1, m2, m3⟩ := hmX.bl k1.bl
  go_upto_region 7 with (first | (go_at_call 31; refine (KA.out _).mono ?_; rintro e w3 ⟨rfl, k3⟩) | (go_at_call 48; refine (KB.out _).mono ?_; rintro e w4 ⟨rfl, k4⟩))
  obtain ⟨W, hW⟩ : ∃ W, W = w4.alloc (.cells #[.int .i64 d, .int .i64 C, .int .i64 n] 50) := ⟨_, rfl⟩
  rw [← hW]
  have kXW : Kept X W := by rw [hW]; exact (k1.trans (k3.trans k4)).alloc _ _
  have hBW : M3 W w4.heap.size (.int .i64 d) (.int .i64 C) (.int .i64 n) := by rw [hW]; exact M3.new _ _ _ _ _
  have hszW := kXW.below.size
  have hBlt := hBW.lt
  generalize w4.heap.size = B at *
  clear m0 m1 m2 m3 hW KC KA KB k1 k3 k4
  have hBW' := hBW
  obtain ⟨b0, b1, b2⟩ := hBW'
  go_upto_region 8 with (first | (go_at_call 43; refine (KW.out _).mono ?_; rintro e V ⟨g, rfl, hg, hOV, kV⟩))
  clear b0 b1 b2
  have hBV := hBW.bl kV.bl
  have hBV' := hBV
  obtain ⟨b0, b1, b2⟩ := hBV'
  have kXV := kXW.trans kV
  have hOV' : Own V g q (flat 0 C (cth M C f 0)) := by simpa [flat] using hOV
  clear hBW KW hOV
  go_wp2_with fail
  go_loopw [11, 35] (fun lv iv wr => ∃ k : Nat, k ≤ d ∧ iv = .int .i64 k ∧ lv = .slice (some ⟨g, 0, none⟩) (k * C) q ∧ Own wr g q (flat k C (cth M C f 0)) ∧ Grw g V wr) (fun _ iv _ => d - (intOf iv).toNat)
  case atStart => exact ⟨0, Nat.zero_le _, rfl, by rw [Nat.zero_mul], hOV', Grw.refl _ _⟩
  case round =>
    clear b0 b1 b2
    obtain ⟨k, hk, rfl, rfl, hOk, hGk⟩ := hrel
    have kXr : Kept X wr := kXV.grw (by omega) hGk
    by_cases hkd : k < d
    · have hC1 := HDK.out k hkd
      have KR2 : Hid (∀ u, Calls Try.prog 33 #[.agg #[.int .i64 R, .int .i64 C, .int .i64 n, .slice (some ⟨b, off, none⟩) rc cap], .int .i64 (f + k : Nat)] u fun e w' => e = .returned (.slice (some ⟨b, off + (f + k) * C, none⟩) C C) ∧ Kept u w') := fun u => KR.out u k hkd
      have HAP : Hid (∀ u, Kept wr u → ∃ U, (∀ ty, (Builtin.append_ #[22, 22] ty #[.slice (some ⟨g, 0, none⟩) (k * C) q, .slice (some ⟨b, off + (f + k) * C, none⟩) C C]).run Try.prog u = .ok (.slice (some ⟨g, 0, none⟩) (k * C + C) q) U) ∧ Own U g q (flat (k + 1) C (cth M C f 0)) ∧ Grw g V U) := fun u ku => by
        obtain ⟨hr, hO2, hG2⟩ := app_room u g q _ (hOk.kept ku) (lst C (cth M C f 0 k)) b (off + (f + k) * C) C C (lst_length _ _) (HRD.out _ (kXr.trans ku) k hkd) (by rw [flat_length]; omega) (k * C) (flat_length _ _ _)
        rw [← flat_succ] at hO2
        exact ⟨_, hr, hO2, (hGk.trans (ku.toGrw g)).trans hG2⟩
      obtain ⟨m0, m1, m2, m3⟩ := hmX.bl kXr.bl
      have z0 : IntKind.i64.wrap ((k : Int) + 1) = (k : Int) + 1 := by rw [wrap_i64]; omega
      have z1 : IntKind.i64.wrap ((f : Int) + (k : Int)) = ((f + k : Nat) : Int) := by rw [wrap_i64]; omega
      have HLE : Hid ((k + 1) * C = k * C + C) := by
        show (k + 1) * C = k * C + C
        rw [Nat.succ_mul]
      clear HRD KR hOk
      generalize k * C = ln at *
      generalize off + (f + k) * C = oo at *
      generalize hfk : f + k = fk at *
      go_wp2_with (first | (go_at_call 33; refine (KR2.out _).mono ?_; rintro e w5 ⟨rfl, k5⟩; obtain ⟨U, hr, hOU, hGU⟩ := HAP.out _ k5; have HR9 : Hid _ := hr; clear hr) | (at_builtin; refine wpList_append_run rfl _ _ _ rfl _ _ rfl rfl _ _ (HR9.out _) ?_))
      go_roundw
      case rel => exact ⟨k + 1, by omega, by go_num, by rw [HLE.out], hOU, hGU⟩
      case measure => simp [intOf]; omega
    · obtain rfl : k = d := by omega
      rw [HQ.out]
      have HRT' := HRT.out
      rw [HALL.out] at hOk HRT'
      have hB7 : M3 wr B (.int .i64 k) (.int .i64 C) (.int .i64 n) := ⟨(hGk.cellx B 0 hBV.lt (by omega)).trans hBV.c0, (hGk.cellx B 1 hBV.lt (by omega)).trans hBV.c1, (hGk.cellx B 2 hBV.lt (by omega)).trans hBV.c2⟩
      have hsr := kXr.below.size
      have KM : Hid (Calls Try.prog 30 #[.agg #[.int .i64 k, .int .i64 C, .int .i64 n], .slice (some ⟨g, 0, none⟩) q q] wr fun e w' => e = .returned (.agg #[.int .i64 k, .int .i64 C, .int .i64 n, .slice (some ⟨g, 0, none⟩) q q]) ∧ Own w' g q (T.map (cln · n)) ∧ Kept X w') := by
        have := matrix_any k C n hn T HRT' (by omega) g q wr hOk
        rw [hT1] at this
        refine this.mono ?_
        rintro e w' ⟨rfl, h1, h2⟩
        exact ⟨rfl, h1, kXr.grw (by omega) h2⟩
      obtain ⟨s0, s1, s2⟩ := hB7
      clear hOk KR HRD
      go_wp2_with (first | (go_at_call 30; refine (KM.out).mono ?_; rintro e u6 ⟨rfl, hO4, hk6⟩; have hr4 := hrX.bl hk6.bl; have f4 : ∀ o, u6.frozen? ⟨w.heap.size + 1, o, none⟩ = false := fun o => (hk6.frozen _).trans (hfX o); obtain ⟨p0, p1, p2, p3⟩ := res4 u6 _ _ _ _ _ hr4 (.int .i64 k) (.int .i64 C) (.int .i64 n) (.slice (some ⟨g, 0, none⟩) q q); obtain ⟨r0, r1, r2, r3⟩ := hr4))
      have hO5 := (((hO4.setOther (p := ⟨w.heap.size + 1, 0, none⟩) (by simp; omega) (.int .i64 k)).setOther (p := ⟨w.heap.size + 1, 1, none⟩) (by simp; omega) (.int .i64 C)).setOther (p := ⟨w.heap.size + 1, 2, none⟩) (by simp; omega) (.int .i64 n)).setOther (p := ⟨w.heap.size + 1, 3, none⟩) (by simp; omega) (.slice (some ⟨g, 0, none⟩) q q)
      have hk5 := (((hKX.trans hk6).setCell (p := ⟨w.heap.size + 1, 0, none⟩) (by simp) (.int .i64 k)).setCell (p := ⟨w.heap.size + 1, 1, none⟩) (by simp) (.int .i64 C)).setCell (p := ⟨w.heap.size + 1, 2, none⟩) (by simp) (.int .i64 n) |>.setCell (p := ⟨w.heap.size + 1, 3, none⟩) (by simp) (.slice (some ⟨g, 0, none⟩) q q)
      exact bodyPost_ret (v := .tuple #[.agg #[.int .i64 k, .int .i64 C, .int .i64 n, .slice (some ⟨g, 0, none⟩) q q], .int .i64 0]) (by simp [results, Try.results22, go_sem, *]) rfl ⟨g, rfl, by omega, hO5, hk5⟩
end Go.Proofs.Ytijmjnmimijfdab
