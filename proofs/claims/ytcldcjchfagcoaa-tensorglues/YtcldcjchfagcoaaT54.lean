/- The document's Form and Window where they answer. -/
import Derived.Test.YtcldcjchfagcoaaT53
namespace Go.Proofs.Ytcldcjchfagcoaa
open Go.ChangeShapes Go.WideShapes Go.ChangeAt Go.RowKit
set_option linter.unusedVariables false
set_option linter.unusedSimpArgs false

set_option maxHeartbeats 4000000 in
set_option maxRecDepth 100000 in
theorem rform_ok (R C rs cs : Nat) (n : Int) (hrs : 0 < rs) (hcs : 0 < cs) (hRC : R * C ≤ 4096) (he : rs * cs = R * C) (w : World) : Calls Try.prog 36 #[.agg #[.int .i64 R, .int .i64 C, .int .i64 n], .int .i64 rs, .int .i64 cs] w fun e w' => ∃ v, e = .returned (.tuple #[.agg #[.int .i64 rs, .int .i64 cs, .int .i64 n, v], .int .i64 0]) ∧ MS 2 89 w.heap.size w' v (R * C) (prl (R * C) (fun _ => 0) (fun j => j)) ∧ Kept w w' := by
  have hrs4 : rs ≤ 4096 := Nat.le_trans (Nat.le_mul_of_pos_right rs hcs) (by omega)
  have hcs4 : cs ≤ 4096 := Nat.le_trans (Nat.le_mul_of_pos_left cs hrs) (by omega)
  obtain ⟨X, hX⟩ : ∃ X, X = ((w.alloc (.cells #[.int .i64 R, .int .i64 C, .int .i64 n] 44)).alloc (.cells #[.int .i64 0, .int .i64 0, .int .i64 0, .slice none 0 0] 60)).alloc (.cells #[.int .i64 rs, .int .i64 cs, .int .i64 n, .slice none 0 0] 60) := ⟨_, rfl⟩
  have hK : Kept w X := by rw [hX]; exact (((Kept.refl w).alloc _ _).alloc _ _).alloc _ _
  have hXs : X.heap.size = w.heap.size + 3 := by rw [hX]; simp
  have hRs : M4 X (w.heap.size + 1) (.int .i64 0) (.int .i64 0) (.int .i64 0) (.slice none 0 0) := by rw [hX]; exact ⟨by simp [go_sem], by simp [go_sem], by simp [go_sem], by simp [go_sem]⟩
  have hO : M4 X (w.heap.size + 2) (.int .i64 rs) (.int .i64 cs) (.int .i64 n) (.slice none 0 0) := by rw [hX]; exact ⟨by simp [go_sem], by simp [go_sem], by simp [go_sem], by simp [go_sem]⟩
  have hF1 : ∀ o, X.frozen? ⟨w.heap.size + 1, o, none⟩ = false := fun o => by rw [hX]; simp [go_sem]
  have hF2 : ∀ o, X.frozen? ⟨w.heap.size + 2, o, none⟩ = false := fun o => by rw [hX]; simp [go_sem]
  obtain ⟨q, hq⟩ : ∃ q, R * C = q := ⟨_, rfl⟩
  rw [hq] at he hRC ⊢
  have e1 : (rs : Int) * (cs : Int) = (q : Int) := by rw [← he]; simp
  have e2 : (R : Int) * (C : Int) = (q : Int) := by rw [← hq]; simp
  have z1 : IntKind.i64.wrap ((rs : Int) * (cs : Int)) = (q : Int) := by rw [e1, wrap_i64]; omega
  have z2 : IntKind.i64.wrap ((R : Int) * (C : Int)) = (q : Int) := by rw [e2, wrap_i64]; omega
  have z3 : ((q : Int) != (q : Int)) = false := by simp
  have g1 : ¬ (rs : Int) < 1 := by omega
  have g2 : ¬ (cs : Int) < 1 := by omega
  have g3 : ¬ 4096 < (rs : Int) := by omega
  have g4 : ¬ 4096 < (cs : Int) := by omega
  generalize hf : (fun j : Nat => j) = f at *
  have HFF : Hid (∀ j, f j = j) := fun j => by rw [← hf]
  clear hf he hq e1 e2
  go_enter Try.func36, Try.ntmps36
  go_upto_region 4 with fail
  rw [← hX]
  clear hX
  go_wp2_with fail
  go_loopw [9] (fun iv wr => ∃ i : Nat, i ≤ q ∧ iv = .int .i64 i ∧ GrwS [w.heap.size + 2] X wr ∧ ∃ lv, M4 wr (w.heap.size + 2) (.int .i64 rs) (.int .i64 cs) (.int .i64 n) lv ∧ MS 2 89 (w.heap.size + 3) wr lv i (prl i (fun _ => 0) f)) (fun iv _ => q - (intOf iv).toNat)
  case atStart => exact ⟨0, Nat.zero_le _, rfl, GrwS.refl _ _, _, hO, .inl ⟨rfl, rfl, rfl⟩⟩
  case round =>
    obtain ⟨i, hi, rfl, hG, lv, hM4, hM⟩ := hrel
    by_cases hil : i < q
    · have hH : w.heap.size + 3 ≤ wr.heap.size := by have := hG.size; omega
      have y0 : IntKind.i64.wrap ((i : Int) + 1) = (i : Int) + 1 := by rw [wrap_i64]; omega
      have hq : i = f i := (HFF.out i).symm
      obtain ⟨v', w', hr, hM', hB', hF'⟩ := app_pair (w.heap.size + 3) wr lv (i) (fun _ => 0) f hM 0 (i) rfl hq hH (by omega)
      obtain ⟨sa, sc, rfl⟩ := hM'.form
      have HR9 : Hid (∀ ty, (Builtin.append_ #[58, 58] ty #[lv, .slice (some ⟨wr.heap.size, 0, none⟩) 1 1]).run Try.prog (wr.alloc (.cells #[.int .i64 0, .int .i64 ((i : Nat) : Int)] 89)) = .ok (.slice sa (i + 1) sc) w') := hr
      have hM4' := hM4.below hB' (by omega)
      have pf : w'.frozen? ⟨w.heap.size + 2, 3, none⟩ = false := (hF' _).trans ((hG.frozen _).trans (hF2 3))
      have HN : Hid (M4 (w'.setCell ⟨w.heap.size + 2, 3, none⟩ (.slice sa (i + 1) sc)) (w.heap.size + 2) (.int .i64 rs) (.int .i64 cs) (.int .i64 n) (.slice sa (i + 1) sc)) := hM4'.set3 _
      have HN2 : Hid (MS 2 89 (w.heap.size + 3) (w'.setCell ⟨w.heap.size + 2, 3, none⟩ (.slice sa (i + 1) sc)) (.slice sa (i + 1) sc) (i + 1) (prl (i + 1) (fun _ => 0) f)) := hM'.setOther (by simp) _
      have HN3 : Hid (GrwS [w.heap.size + 2] X (w'.setCell ⟨w.heap.size + 2, 3, none⟩ (.slice sa (i + 1) sc))) := (hG.bl (hB'.mono (by omega)) hF').setCell (by simp) _
      obtain ⟨o0, o1, o2, o3⟩ := hM4
      obtain ⟨p0, p1, p2, p3⟩ := hM4'
      clear hr hM' hB' hF' hM hq
      go_wp2_with (first | (at_builtin; refine wpList_append_run rfl _ _ _ rfl _ _ rfl rfl _ _ (HR9.out _) ?_))
      go_roundw
      case rel => exact ⟨i + 1, by omega, by go_num, HN3.out, _, HN.out, HN2.out⟩
      case measure => simp [intOf]; omega
    · obtain rfl : i = q := by omega
      have hR' := hG.m4 hRs (by simp)
      have f1 : ∀ o, wr.frozen? ⟨w.heap.size + 1, o, none⟩ = false := fun o => (hG.frozen _).trans (hF1 o)
      obtain ⟨sa, sc, rfl⟩ := hM.form
      obtain ⟨o0, o1, o2, o3⟩ := hM4
      have hK9 : Kept w wr := hK.grwS (by simp) hG
      obtain ⟨p0, p1, p2, p3⟩ := res4 wr _ _ _ _ _ hR' (.int .i64 rs) (.int .i64 cs) (.int .i64 n) (.slice sa i sc)
      obtain ⟨r0', r1', r2, r3⟩ := hR'
      have hfin := (((hM.setOther (p := ⟨w.heap.size + 1, 0, none⟩) (by simp) (.int .i64 rs)).setOther (p := ⟨w.heap.size + 1, 1, none⟩) (by simp) (.int .i64 cs)).setOther (p := ⟨w.heap.size + 1, 2, none⟩) (by simp) (.int .i64 n)).setOther (p := ⟨w.heap.size + 1, 3, none⟩) (by simp) (.slice sa i sc)
      have HFN : Hid _ := hfin
      clear hfin hM
      go_wp2_with fail
      refine bodyPost_ret (v := .tuple #[.agg #[.int .i64 rs, .int .i64 cs, .int .i64 n, .slice sa i sc], .int .i64 0]) (by simp [results, Try.results36, go_sem, *]) rfl ⟨.slice sa i sc, rfl, MS.mono HFN.out (by omega), ((hK9.setCell (by simp) _).setCell (by simp) _).setCell (by simp) _ |>.setCell (by simp) _⟩

set_option maxHeartbeats 4000000 in
set_option maxRecDepth 100000 in
theorem rwindow_ok (C s t : Nat) (n : Int) (hn : n = 64 ∨ n = 32) (hs : 0 < s) (ht : 0 < t) (hsC : s ≤ C) (hC4 : C ≤ 4096) (hq4 : ((C - s) / t + 1) * s ≤ 4096) (w : World) : Calls Try.prog 38 #[.agg #[.int .i64 1, .int .i64 C, .int .i64 n], .int .i64 s, .int .i64 t] w fun e w' => ∃ v, e = .returned (.tuple #[.agg #[.int .i64 ((C - s) / t + 1 : Nat), .int .i64 s, .int .i64 n, v], .int .i64 0]) ∧ MS 2 89 w.heap.size w' v (((C - s) / t + 1) * s) (prl (((C - s) / t + 1) * s) (fun _ => 0) (fun j => (j / s) * t + j % s)) ∧ Kept w w' := by
  have HWL : Hid (∀ x, x < (C - s) / t + 1 → x * t + s ≤ C) := fun x hx => wn_le C s t x ht hsC hx
  have hdl : (C - s) / t + 1 ≤ 4097 := by
    have := Nat.div_le_self (C - s) t
    omega
  have x3' : Int.tdiv ((C : Int) - (s : Int)) t + 1 = (((C - s) / t + 1 : Nat) : Int) := wnr_nat C s t hsC
  have hp : 0 < (C - s) / t + 1 := Nat.succ_pos _
  obtain ⟨d, hd⟩ : ∃ d, (C - s) / t + 1 = d := ⟨_, rfl⟩
  rw [hd] at HWL hdl x3' hp hq4 ⊢
  have KS : Hid (∀ u, Calls Try.prog 20 #[.int .i64 d, .int .i64 s, .int .i64 n] u fun e w' => e = .returned (.int .i64 0) ∧ u = w') := fun u => by
    have := sized_any d s n u
    rw [ckS_one hn (by omega) (by omega) (by
      have : ((d * s : Nat) : Int) ≤ 4096 := by omega
      simpa using this)] at this
    exact this
  have ht0 : ¬ (t : Int) = 0 := by omega
  have x1 : IntKind.i64.wrap ((C : Int) - (s : Int)) = (C : Int) - (s : Int) := by rw [wrap_i64]; omega
  obtain ⟨dv, hdv⟩ : ∃ dv, Int.tdiv ((C : Int) - (s : Int)) t = dv := ⟨_, rfl⟩
  rw [hdv] at x3'
  have x2 : IntKind.i64.wrap dv = dv := by rw [wrap_i64]; omega
  have x3 : IntKind.i64.wrap (dv + 1) = (d : Int) := by rw [x3', wrap_i64]; omega
  obtain ⟨X, hX⟩ : ∃ X, X = ((w.alloc (.cells #[.int .i64 1, .int .i64 C, .int .i64 n] 44)).alloc (.cells #[.int .i64 0, .int .i64 0, .int .i64 0, .slice none 0 0] 60)).alloc (.cells #[.int .i64 d, .int .i64 s, .int .i64 n, .slice none 0 0] 60) := ⟨_, rfl⟩
  have hK : Kept w X := by rw [hX]; exact (((Kept.refl w).alloc _ _).alloc _ _).alloc _ _
  have hXs : X.heap.size = w.heap.size + 3 := by rw [hX]; simp
  have hRs : M4 X (w.heap.size + 1) (.int .i64 0) (.int .i64 0) (.int .i64 0) (.slice none 0 0) := by rw [hX]; exact ⟨by simp [go_sem], by simp [go_sem], by simp [go_sem], by simp [go_sem]⟩
  have hO : M4 X (w.heap.size + 2) (.int .i64 d) (.int .i64 s) (.int .i64 n) (.slice none 0 0) := by rw [hX]; exact ⟨by simp [go_sem], by simp [go_sem], by simp [go_sem], by simp [go_sem]⟩
  have hF1 : ∀ o, X.frozen? ⟨w.heap.size + 1, o, none⟩ = false := fun o => by rw [hX]; simp [go_sem]
  have hF2 : ∀ o, X.frozen? ⟨w.heap.size + 2, o, none⟩ = false := fun o => by rw [hX]; simp [go_sem]
  have HRF : Hid (∀ i, i < d → i * s + s ≤ d * s) := fun i hi => by
    have := Nat.mul_le_mul_right s hi
    rw [Nat.succ_mul] at this
    exact this
  generalize hf : (fun j => (j / s) * t + j % s) = f at *
  have HFF : Hid (∀ i j, j < s → f (i * s + j) = i * t + j) := fun i j hj => by
    rw [← hf]
    obtain ⟨p1, p2⟩ := place_div s j i hj
    show ((i * s + j) / s) * t + (i * s + j) % s = _
    rw [p1, p2]
  have g1 : ¬ (s : Int) < 1 := by omega
  have g2 : ¬ (t : Int) < 1 := by omega
  have g3 : ¬ (C : Int) < (s : Int) := by omega
  obtain ⟨q, hq⟩ : ∃ q, d * s = q := ⟨_, rfl⟩
  have HQ : Hid (d * s = q) := hq
  rw [hq] at HRF hq4 ⊢
  clear hf hd hq x3' hn
  go_enter Try.func38, Try.ntmps38
  go_upto_region 12 with (first | (go_at_call 20; refine (KS.out _).mono ?_; rintro e w1 ⟨rfl, rfl⟩))
  rw [← hX]
  clear hX
  go_wp2_with fail
  clear g1 g2 g3 x1 x2 x3 hdv
  go_loopw [11] (fun iv wr => ∃ i : Nat, i ≤ d ∧ iv = .int .i64 i ∧ GrwS [w.heap.size + 2] X wr ∧ ∃ lv, M4 wr (w.heap.size + 2) (.int .i64 d) (.int .i64 s) (.int .i64 n) lv ∧ MS 2 89 (w.heap.size + 3) wr lv (i * s) (prl (i * s) (fun _ => 0) f)) (fun iv _ => d - (intOf iv).toNat)
  case atStart => exact ⟨0, Nat.zero_le _, rfl, GrwS.refl _ _, _, hO, .inl ⟨by simp, by simp [prl], rfl⟩⟩
  case round =>
    obtain ⟨i, hi, rfl, hG, lv, hM4, hM⟩ := hrel
    by_cases hil : i < d
    · rename World => wo
      have hi1 := HRF.out i hil
      have hit := HWL.out i hil
      have y0 : IntKind.i64.wrap ((i : Int) + 1) = (i : Int) + 1 := by rw [wrap_i64]; omega
      go_wp2_with fail
      go_loopw [12] (fun jv wr => ∃ j : Nat, j ≤ s ∧ jv = .int .i64 j ∧ GrwS [w.heap.size + 2] X wr ∧ ∃ lv, M4 wr (w.heap.size + 2) (.int .i64 d) (.int .i64 s) (.int .i64 n) lv ∧ MS 2 89 (w.heap.size + 3) wr lv (i * s + j) (prl (i * s + j) (fun _ => 0) f)) (fun jv _ => s - (intOf jv).toNat)
      case atStart => exact ⟨0, Nat.zero_le _, rfl, hG, lv, hM4, hM⟩
      case round =>
        clear hG hM4 hM
        obtain ⟨j, hj, rfl, hG, lv, hM4, hM⟩ := hrel
        by_cases hjl : j < s
        · have hH : w.heap.size + 3 ≤ wr.heap.size := by have := hG.size; omega
          obtain ⟨jc, hjc'⟩ : ∃ jc, i * t = jc := ⟨_, rfl⟩
          have e1 : (i : Int) * (t : Int) = (jc : Int) := by rw [← hjc']; simp
          have hq : jc + j = f (i * s + j) := by rw [HFF.out i j hjl, hjc']
          rw [hjc'] at hit
          obtain ⟨v', w', hr, hM', hB', hF'⟩ := app_pair (w.heap.size + 3) wr lv (i * s + j) (fun _ => 0) f hM 0 (jc + j) rfl hq hH (by omega)
          obtain ⟨sa, sc, rfl⟩ := hM'.form
          have HR9 : Hid (∀ ty, (Builtin.append_ #[58, 58] ty #[lv, .slice (some ⟨wr.heap.size, 0, none⟩) 1 1]).run Try.prog (wr.alloc (.cells #[.int .i64 0, .int .i64 ((jc + j : Nat) : Int)] 89)) = .ok (.slice sa (i * s + j + 1) sc) w') := hr
          have hM4' := hM4.below hB' (by omega)
          have pf : w'.frozen? ⟨w.heap.size + 2, 3, none⟩ = false := (hF' _).trans ((hG.frozen _).trans (hF2 3))
          have HN : Hid (M4 (w'.setCell ⟨w.heap.size + 2, 3, none⟩ (.slice sa (i * s + j + 1) sc)) (w.heap.size + 2) (.int .i64 d) (.int .i64 s) (.int .i64 n) (.slice sa (i * s + j + 1) sc)) := hM4'.set3 _
          have HN2 : Hid (MS 2 89 (w.heap.size + 3) (w'.setCell ⟨w.heap.size + 2, 3, none⟩ (.slice sa (i * s + j + 1) sc)) (.slice sa (i * s + j + 1) sc) (i * s + j + 1) (prl (i * s + j + 1) (fun _ => 0) f)) := hM'.setOther (by simp) _
          have HN3 : Hid (GrwS [w.heap.size + 2] X (w'.setCell ⟨w.heap.size + 2, 3, none⟩ (.slice sa (i * s + j + 1) sc))) := (hG.bl (hB'.mono (by omega)) hF').setCell (by simp) _
          obtain ⟨o0, o1, o2, o3⟩ := hM4
          obtain ⟨p0, p1, p2, p3⟩ := hM4'
          have y1 : IntKind.i64.wrap ((j : Int) + 1) = (j : Int) + 1 := by rw [wrap_i64]; omega
          have z3 : IntKind.i64.wrap ((i : Int) * (t : Int)) = (jc : Int) := by rw [e1, wrap_i64]; omega
          have z4 : IntKind.i64.wrap ((jc : Int) + (j : Int)) = ((jc + j : Nat) : Int) := by rw [wrap_i64]; omega
          clear hr hM' hB' hF' hM hq e1 hjc'
          generalize hP : jc + j = P at *
          obtain ⟨sn, hsn⟩ : ∃ sn, i * s + j + 1 = sn := ⟨_, rfl⟩
          rw [hsn] at HR9 HN HN2 HN3
          have HSN : Hid (i * s + (j + 1) = sn) := by show i * s + (j + 1) = sn; omega
          clear hsn
          go_wp2_with (first | (at_builtin; refine wpList_append_run rfl _ _ _ rfl _ _ rfl rfl _ _ (HR9.out _) ?_))
          go_roundw
          case rel => exact ⟨j + 1, by omega, by go_num, HN3.out, _, HN.out, by rw [HSN.out]; exact HN2.out⟩
          case measure => simp [intOf]; omega
        · obtain rfl : j = s := by omega
          have HM : Hid (MS 2 89 (w.heap.size + 3) wr lv ((i + 1) * j) (prl ((i + 1) * j) (fun _ => 0) f)) := by
            show MS 2 89 (w.heap.size + 3) wr lv ((i + 1) * j) (prl ((i + 1) * j) (fun _ => 0) f)
            rw [Nat.succ_mul]; exact hM
          go_wp2_with fail
          go_roundw
          case rel => exact ⟨i + 1, by omega, by go_num, hG, lv, hM4, HM.out⟩
          case measure => simp [intOf]; omega
    · obtain rfl : i = d := by omega
      have hR' := hG.m4 hRs (by simp)
      have f1 : ∀ o, wr.frozen? ⟨w.heap.size + 1, o, none⟩ = false := fun o => (hG.frozen _).trans (hF1 o)
      obtain ⟨sa, sc, rfl⟩ := hM.form
      obtain ⟨o0, o1, o2, o3⟩ := hM4
      rw [HQ.out] at hM o3
      have hK9 : Kept w wr := hK.grwS (by simp) hG
      obtain ⟨p0, p1, p2, p3⟩ := res4 wr _ _ _ _ _ hR' (.int .i64 i) (.int .i64 s) (.int .i64 n) (.slice sa q sc)
      obtain ⟨r0', r1', r2, r3⟩ := hR'
      have hfin := (((hM.setOther (p := ⟨w.heap.size + 1, 0, none⟩) (by simp) (.int .i64 i)).setOther (p := ⟨w.heap.size + 1, 1, none⟩) (by simp) (.int .i64 s)).setOther (p := ⟨w.heap.size + 1, 2, none⟩) (by simp) (.int .i64 n)).setOther (p := ⟨w.heap.size + 1, 3, none⟩) (by simp) (.slice sa q sc)
      have HFN : Hid _ := hfin
      clear hfin hM
      go_wp2_with fail
      refine bodyPost_ret (v := .tuple #[.agg #[.int .i64 i, .int .i64 s, .int .i64 n, .slice sa q sc], .int .i64 0]) (by simp [results, Try.results38, go_sem, *]) rfl ⟨.slice sa q sc, rfl, MS.mono HFN.out (by omega), ((hK9.setCell (by simp) _).setCell (by simp) _).setCell (by simp) _ |>.setCell (by simp) _⟩
end Go.Proofs.Ytcldcjchfagcoaa
