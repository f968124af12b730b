/- Window of package tensor where it answers. -/
import Derived.Test.YtcldcjchfagcoaaT46
namespace Go.Proofs.Ytcldcjchfagcoaa
open Go.ChangeShapes Go.WideShapes Go.ChangeAt Go.RowKit
set_option linter.unusedVariables false
set_option linter.unusedSimpArgs false

/-- The element that comes to a place of windows of D elements, t apart. -/
def wnf (M : List Int) (t D : Nat) (j : Nat) : Int := M.getD ((j / D) * t + j % D) 0
def wnh (M : List Int) (t : Nat) (x c : Nat) : Int := M.getD (x * t + c) 0
theorem wnh_flat (M : List Int) (t D d : Nat) (hD : 0 < D) : flat d D (wnh M t) = lst (d * D) (wnf M t D) := by
  rw [flat_lst D hD]
  rfl
theorem wn_le (C f t x : Nat) (ht : 0 < t) (hfC : f ≤ C) (hx : x < (C - f) / t + 1) : x * t + f ≤ C := by
  have h1 : x ≤ (C - f) / t := by omega
  have h2 := Nat.mul_le_mul_right t h1
  have h3 := Nat.div_mul_le_self (C - f) t
  omega
theorem wnf_rgl (M : List Int) (C f t : Nat) (ht : 0 < t) (hf : 0 < f) (hfC : f ≤ C) (hML : M.length = C) (h : Rgl M) : Rgl (lst (((C - f) / t + 1) * f) (wnf M t f)) := by
  intro i hi
  rw [lst_length] at hi
  rw [lst_get _ _ _ hi]
  unfold wnf
  refine h _ ?_
  rw [hML]
  have h1 := wn_le C f t (i / f) ht hfC (Nat.div_lt_of_lt_mul (by rw [Nat.mul_comm]; exact hi))
  have h2 := Nat.mod_lt i hf
  omega
theorem wnr_nat (C f t : Nat) (hfC : f ≤ C) : wnr C f t = (((C - f) / t + 1 : Nat) : Int) := by
  unfold wnr
  have : (C : Int) - (f : Int) = ((C - f : Nat) : Int) := by omega
  rw [this, Int.tdiv_eq_ediv_of_nonneg (by omega)]
  simp

set_option maxHeartbeats 4000000 in
set_option maxRecDepth 100000 in
theorem window_ok (C f t : Nat) (n : Int) (hn : n = 64 ∨ n = 32) (hf : 0 < f) (ht : 0 < t) (hfC : f ≤ C) (hC4 : C ≤ 4096) (hq4 : ((C - f) / t + 1) * f ≤ 4096) (M : List Int) (hML : M.length = C) (hRg : Rgl M) (hck : ckM (1 : Nat) C n M = 0) (b off cap : Nat) (hcap : C ≤ cap) (w : World) (hb : b < w.heap.size) (hrd : Reads w b off M) (hSl : Sl w (.slice (some ⟨b, off, none⟩) M.length cap) M) :
    Calls Try.prog 33 #[.agg #[.int .i64 1, .int .i64 C, .int .i64 n, .slice (some ⟨b, off, none⟩) C cap], .int .i64 f, .int .i64 t] w fun e w' => ∃ g, e = .returned (.tuple #[.agg #[.int .i64 ((C - f) / t + 1 : Nat), .int .i64 f, .int .i64 n, .slice (some ⟨g, 0, none⟩) (((C - f) / t + 1) * f) (((C - f) / t + 1) * f)], .int .i64 0]) ∧ w.heap.size ≤ g ∧ Own w' g (((C - f) / t + 1) * f) ((lst (((C - f) / t + 1) * f) (wnf M t f)).map (cln · n)) ∧ Kept w w' := by
  obtain ⟨hmX, hrX, hfX, hKX, hXs⟩ := st2_facts w 1 C n (.slice (some ⟨b, off, none⟩) C cap)
  obtain ⟨X, hX⟩ : ∃ X, X = st2 w 1 C n (.slice (some ⟨b, off, none⟩) C cap) := ⟨_, rfl⟩
  rw [← hX] at hmX hrX hfX hKX hXs
  have KC : Hid (Calls Try.prog 11 #[.agg #[.int .i64 1, .int .i64 C, .int .i64 n, .slice (some ⟨b, off, none⟩) C cap]] X fun e w' => e = .returned (.int .i64 0) ∧ Kept X w') := by
    have := check_any (1 : Nat) C n (some ⟨b, off, none⟩) cap M X (hSl.kept hKX)
    rw [hck, hML] at this
    exact this
  have KA : Hid (∀ u, Calls Try.prog 45 #[.agg #[.int .i64 1, .int .i64 C, .int .i64 n, .slice (some ⟨b, off, none⟩) C cap]] u fun e w' => e = .returned (.agg #[.int .i64 1, .int .i64 C, .int .i64 n]) ∧ Kept u w') := fun u => shapeOf_any _ _ _ _ u
  have hWE : wnE 1 C f t = 0 := by
    unfold wnE
    rw [if_neg (by decide), if_neg (by omega), if_neg (by omega), wnr_nat C f t hfC]
    have hq4' := hq4
    obtain ⟨d0, hd0⟩ : ∃ d0, (C - f) / t + 1 = d0 := ⟨_, rfl⟩
    have hp : 0 < d0 := by rw [← hd0]; exact Nat.succ_pos _
    rw [hd0] at hq4' ⊢
    have hz : ckS (d0 : Int) f n = 0 := ckS_one hn (by omega) (by omega) (by
      have : ((d0 * f : Nat) : Int) ≤ 4096 := by omega
      simpa using this)
    unfold ckS at hz
    rw [if_neg (fun k => k hn), if_neg (by omega)] at hz
    exact hz
  have KB0 : ∀ u, Calls Try.prog 66 #[.agg #[.int .i64 1, .int .i64 C, .int .i64 n], .int .i64 f, .int .i64 t] u fun e w' => e = .returned (.tuple #[.agg #[.int .i64 ((C - f) / t + 1 : Nat), .int .i64 f, .int .i64 n], .int .i64 0]) ∧ Kept u w' := fun u => by
    have := windowed_any 1 C n f t (by omega) (by omega) u
    rw [hWE, if_pos rfl, wnr_nat C f t hfC] at this
    exact this
  have HWL : Hid (∀ x, x < (C - f) / t + 1 → x * t + f ≤ C) := fun x hx => wn_le C f t x ht hfC hx
  have HRT0 := wnf_rgl M C f t ht hf hfC hML hRg
  have hdl : (C - f) / t + 1 ≤ 4097 := by
    have := Nat.div_le_self (C - f) t
    omega
  obtain ⟨d, hd⟩ : ∃ d, (C - f) / t + 1 = d := ⟨_, rfl⟩
  rw [hd] at KB0 HWL HRT0 hdl hq4
  have KB : Hid _ := KB0
  have KW : Hid (∀ u, Calls Try.prog 55 #[.agg #[.int .i64 d, .int .i64 f, .int .i64 n]] u fun e w' => ∃ g, e = .returned (.slice (some ⟨g, 0, none⟩) 0 (d * f)) ∧ u.heap.size ≤ g ∧ Own w' g (d * f) [] ∧ Kept u w') := fun u => bare_any d f n (d * f) (by simp) (by omega) u
  have HRD : Hid (∀ u, Kept X u → ∀ k, k < d → Reads u b (off + k * t) (lst f (wnh M t k))) := fun u ku k hk i hi => by
    rw [lst_length] at hi
    rw [lst_get _ _ _ hi]
    have h1 := HWL.out k hk
    have := hrd.kept hb (hKX.trans ku) (k * t + i) (by rw [hML]; omega)
    rw [← Nat.add_assoc] at this
    exact this
  have HALL : Hid (flat d f (wnh M t) = lst (d * f) (wnf M t f)) := wnh_flat M t f d hf
  have HRT : Hid (Rgl (flat d f (wnh M t))) := by rw [HALL.out]; exact HRT0
  have HDK : Hid (∀ k, k < d → k * f + f ≤ d * f) := fun k hk => by
    have := Nat.mul_le_mul_right f hk
    rw [Nat.succ_mul] at this
    exact this
  rw [hd]
  obtain ⟨T, hT⟩ : ∃ T, lst (d * f) (wnf M t f) = T := ⟨_, rfl⟩
  rw [hT] at HALL ⊢
  have hT1 : T.length = d * f := by rw [← hT, lst_length]
  obtain ⟨q, hq⟩ : ∃ q, d * f = q := ⟨_, rfl⟩
  rw [hq] at hq4 KW HDK hT1
  have HQ : Hid (d * f = q) := hq
  rw [hq]
  clear hck hSl hRg hML hrd hT hq hd hWE KB0 HRT0
  unfold st2 at hX
  go_enter Try.func33, Try.ntmps33
  go_upto_region 1 with fail
  rw [← hX]
  clear hX
  have hmX' := hmX
  obtain ⟨m0, m1, m2, m3⟩ := hmX'
  go_upto_region 4 with (first | (go_at_call 11; refine (KC.out).mono ?_; rintro e w1 ⟨rfl, k1⟩))
  clear m0 m1 m2 m3
  obtain ⟨m0, m1, m2, m3⟩ := hmX.bl k1.bl
  go_upto_region 7 with (first | (go_at_call 45; refine (KA.out _).mono ?_; rintro e w3 ⟨rfl, k3⟩) | (go_at_call 66; refine (KB.out _).mono ?_; rintro e w4 ⟨rfl, k4⟩))
  obtain ⟨W, hW⟩ : ∃ W, W = w4.alloc (.cells #[.int .i64 d, .int .i64 f, .int .i64 n] 44) := ⟨_, rfl⟩
  rw [← hW]
  have kXW : Kept X W := by rw [hW]; exact (k1.trans (k3.trans k4)).alloc _ _
  have hBW : M3 W w4.heap.size (.int .i64 d) (.int .i64 f) (.int .i64 n) := by rw [hW]; exact M3.new _ _ _ _ _
  have hszW := kXW.below.size
  have hBlt := hBW.lt
  generalize w4.heap.size = B at *
  clear m0 m1 m2 m3 hW KC KA KB k1 k3 k4
  have hBW' := hBW
  obtain ⟨b0, b1, b2⟩ := hBW'
  go_upto_region 8 with (first | (go_at_call 55; refine (KW.out _).mono ?_; rintro e V ⟨g, rfl, hg, hOV, kV⟩))
  clear b0 b1 b2
  have hBV := hBW.bl kV.bl
  have hBV' := hBV
  obtain ⟨b0, b1, b2⟩ := hBV'
  have kXV := kXW.trans kV
  have hOV' : Own V g q (flat 0 f (wnh M t)) := by simpa [flat] using hOV
  clear hBW KW hOV
  go_wp2_with fail
  go_loopw [11, 37] (fun lv iv wr => ∃ k : Nat, k ≤ d ∧ iv = .int .i64 k ∧ lv = .slice (some ⟨g, 0, none⟩) (k * f) q ∧ Own wr g q (flat k f (wnh M t)) ∧ Grw g V wr) (fun _ iv _ => d - (intOf iv).toNat)
  case atStart => exact ⟨0, Nat.zero_le _, rfl, by rw [Nat.zero_mul], hOV', Grw.refl _ _⟩
  case round =>
    clear b0 b1 b2
    obtain ⟨k, hk, rfl, rfl, hOk, hGk⟩ := hrel
    have kXr : Kept X wr := kXV.grw (by omega) hGk
    by_cases hkd : k < d
    · have hC1 := HDK.out k hkd
      have hx1 := HWL.out k hkd
      obtain ⟨kt, hkt⟩ : ∃ kt, k * t = kt := ⟨_, rfl⟩
      have HAP : ∃ U, (∀ ty, (Builtin.append_ #[22, 22] ty #[.slice (some ⟨g, 0, none⟩) (k * f) q, .slice (some ⟨b, off + k * t, none⟩) f f]).run Try.prog wr = .ok (.slice (some ⟨g, 0, none⟩) (k * f + f) q) U) ∧ Own U g q (flat (k + 1) f (wnh M t)) ∧ Grw g V U := by
        obtain ⟨hr, hO2, hG2⟩ := app_room wr g q _ hOk (lst f (wnh M t k)) b (off + k * t) f f (lst_length _ _) (HRD.out _ kXr k hkd) (by rw [flat_length]; omega) (k * f) (flat_length _ _ _)
        rw [← flat_succ] at hO2
        exact ⟨_, hr, hO2, hGk.trans hG2⟩
      rw [hkt] at HAP hx1
      obtain ⟨U, hr, hOU, hGU⟩ := HAP
      have e1 : (k : Int) * (t : Int) = (kt : Int) := by rw [← hkt]; simp
      obtain ⟨m0, m1, m2, m3⟩ := hmX.bl kXr.bl
      have z0 : IntKind.i64.wrap ((k : Int) + 1) = (k : Int) + 1 := by rw [wrap_i64]; omega
      have z1 : IntKind.i64.wrap ((k : Int) * (t : Int)) = (kt : Int) := by rw [e1, wrap_i64]; omega
      have z2 : IntKind.i64.wrap ((kt : Int) + (f : Int)) = ((kt + f : Nat) : Int) := by rw [wrap_i64]; omega
      have y1 : (0 : Int) ≤ (kt : Int) := by omega
      have y2 : (kt : Int) ≤ ((kt + f : Nat) : Int) := by omega
      have y3 : ((kt + f : Nat) : Int) ≤ (cap : Int) := by omega
      have y4 : kt ≤ kt + f := by omega
      have y5 : kt + f ≤ cap := by omega
      have y6 : kt + f - kt = f := by omega
      have y7 : ¬ kt + f = kt := by omega
      have y8 : ¬ f = 0 := by omega
      have HLE : Hid ((k + 1) * f = k * f + f) := by
        show (k + 1) * f = k * f + f
        rw [Nat.succ_mul]
      clear HRD hOk e1 hkt
      generalize k * f = ln at *
      have HR9 : Hid _ := hr
      clear hr
      generalize hto : kt + f = to_ at *
      go_wp2_with (first | (at_builtin; refine wpList_append_run rfl _ _ _ rfl _ _ rfl rfl _ _ (HR9.out _) ?_))
      go_roundw
      case rel => exact ⟨k + 1, by omega, by go_num, by rw [HLE.out], hOU, hGU⟩
      case measure => simp [intOf]; omega
    · obtain rfl : k = d := by omega
      rw [HQ.out]
      have HRT' := HRT.out
      rw [HALL.out] at hOk HRT'
      have hB7 : M3 wr B (.int .i64 k) (.int .i64 f) (.int .i64 n) := ⟨(hGk.cellx B 0 hBV.lt (by omega)).trans hBV.c0, (hGk.cellx B 1 hBV.lt (by omega)).trans hBV.c1, (hGk.cellx B 2 hBV.lt (by omega)).trans hBV.c2⟩
      have hsr := kXr.below.size
      have KM : Hid (Calls Try.prog 52 #[.agg #[.int .i64 k, .int .i64 f, .int .i64 n], .slice (some ⟨g, 0, none⟩) q q] wr fun e w' => e = .returned (.agg #[.int .i64 k, .int .i64 f, .int .i64 n, .slice (some ⟨g, 0, none⟩) q q]) ∧ Own w' g q (T.map (cln · n)) ∧ Kept X w') := by
        have := matrix_any k f n hn T HRT' (by omega) g q wr hOk
        rw [hT1] at this
        refine this.mono ?_
        rintro e w' ⟨rfl, h1, h2⟩
        exact ⟨rfl, h1, kXr.grw (by omega) h2⟩
      obtain ⟨s0, s1, s2⟩ := hB7
      clear hOk HRD
      go_wp2_with (first | (go_at_call 52; refine (KM.out).mono ?_; rintro e u6 ⟨rfl, hO4, hk6⟩; have hr4 := hrX.bl hk6.bl; have f4 : ∀ o, u6.frozen? ⟨w.heap.size + 1, o, none⟩ = false := fun o => (hk6.frozen _).trans (hfX o); obtain ⟨p0, p1, p2, p3⟩ := res4 u6 _ _ _ _ _ hr4 (.int .i64 k) (.int .i64 f) (.int .i64 n) (.slice (some ⟨g, 0, none⟩) q q); obtain ⟨r0, r1, r2, r3⟩ := hr4))
      have hO5 := (((hO4.setOther (p := ⟨w.heap.size + 1, 0, none⟩) (by simp; omega) (.int .i64 k)).setOther (p := ⟨w.heap.size + 1, 1, none⟩) (by simp; omega) (.int .i64 f)).setOther (p := ⟨w.heap.size + 1, 2, none⟩) (by simp; omega) (.int .i64 n)).setOther (p := ⟨w.heap.size + 1, 3, none⟩) (by simp; omega) (.slice (some ⟨g, 0, none⟩) q q)
      have hk5 := (((hKX.trans hk6).setCell (p := ⟨w.heap.size + 1, 0, none⟩) (by simp) (.int .i64 k)).setCell (p := ⟨w.heap.size + 1, 1, none⟩) (by simp) (.int .i64 f)).setCell (p := ⟨w.heap.size + 1, 2, none⟩) (by simp) (.int .i64 n) |>.setCell (p := ⟨w.heap.size + 1, 3, none⟩) (by simp) (.slice (some ⟨g, 0, none⟩) q q)
      exact bodyPost_ret (v := .tuple #[.agg #[.int .i64 k, .int .i64 f, .int .i64 n, .slice (some ⟨g, 0, none⟩) q q], .int .i64 0]) (by simp [results, Try.results33, go_sem, *]) rfl ⟨g, rfl, by omega, hO5, hk5⟩
end Go.Proofs.Ytcldcjchfagcoaa
