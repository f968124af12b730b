/- The document's Cut where it answers. -/
import Derived.Test.YtcldcjchfagcoaaT50
namespace Go.Proofs.Ytcldcjchfagcoaa
open Go.ChangeShapes Go.WideShapes Go.ChangeAt Go.RowKit
set_option linter.unusedVariables false
set_option linter.unusedSimpArgs false

set_option maxHeartbeats 4000000 in
set_option maxRecDepth 100000 in
theorem rcut_ok (R C r0 r1 c0 c1 : Nat) (n : Int) (h1 : r1 ≤ R) (h2 : r0 < r1) (h3 : c1 ≤ C) (h4 : c0 < c1) (hRC : R * C ≤ 4096) (w : World) : Calls Try.prog 37 #[.agg #[.int .i64 R, .int .i64 C, .int .i64 n], .int .i64 r0, .int .i64 r1, .int .i64 c0, .int .i64 c1] w fun e w' => ∃ v, e = .returned (.tuple #[.agg #[.int .i64 (r1 - r0 : Nat), .int .i64 (c1 - c0 : Nat), .int .i64 n, v], .int .i64 0]) ∧ MS 2 89 w.heap.size w' v ((r1 - r0) * (c1 - c0)) (prl ((r1 - r0) * (c1 - c0)) (fun _ => 0) (fun j => (r0 + j / (c1 - c0)) * C + (c0 + j % (c1 - c0)))) ∧ Kept w w' := by
  have hR : 0 < R := by omega
  have hC : 0 < C := by omega
  have hR4 : R ≤ 4096 := Nat.le_trans (Nat.le_mul_of_pos_right R hC) hRC
  have hC4 : C ≤ 4096 := Nat.le_trans (Nat.le_mul_of_pos_left C hR) hRC
  obtain ⟨d, hd⟩ : ∃ d, r1 - r0 = d := ⟨_, rfl⟩
  obtain ⟨D, hD⟩ : ∃ D, c1 - c0 = D := ⟨_, rfl⟩
  have x1 : IntKind.i64.wrap ((r1 : Int) - (r0 : Int)) = (d : Int) := by rw [wrap_i64]; omega
  have x2 : IntKind.i64.wrap ((c1 : Int) - (c0 : Int)) = (D : Int) := by rw [wrap_i64]; omega
  rw [hd, hD]
  have HD0 : Hid (0 < D ∧ r0 + d = r1 ∧ c0 + D = c1) := ⟨by omega, by omega, by omega⟩
  obtain ⟨X, hX⟩ : ∃ X, X = ((w.alloc (.cells #[.int .i64 R, .int .i64 C, .int .i64 n] 44)).alloc (.cells #[.int .i64 0, .int .i64 0, .int .i64 0, .slice none 0 0] 60)).alloc (.cells #[.int .i64 d, .int .i64 D, .int .i64 n, .slice none 0 0] 60) := ⟨_, rfl⟩
  have hK : Kept w X := by rw [hX]; exact (((Kept.refl w).alloc _ _).alloc _ _).alloc _ _
  have hXs : X.heap.size = w.heap.size + 3 := by rw [hX]; simp
  have hA : M3 X w.heap.size (.int .i64 R) (.int .i64 C) (.int .i64 n) := by rw [hX]; exact ⟨by simp [go_sem], by simp [go_sem], by simp [go_sem]⟩
  have hRs : M4 X (w.heap.size + 1) (.int .i64 0) (.int .i64 0) (.int .i64 0) (.slice none 0 0) := by rw [hX]; exact ⟨by simp [go_sem], by simp [go_sem], by simp [go_sem], by simp [go_sem]⟩
  have hO : M4 X (w.heap.size + 2) (.int .i64 d) (.int .i64 D) (.int .i64 n) (.slice none 0 0) := by rw [hX]; exact ⟨by simp [go_sem], by simp [go_sem], by simp [go_sem], by simp [go_sem]⟩
  have hF1 : ∀ o, X.frozen? ⟨w.heap.size + 1, o, none⟩ = false := fun o => by rw [hX]; simp [go_sem]
  have hF2 : ∀ o, X.frozen? ⟨w.heap.size + 2, o, none⟩ = false := fun o => by rw [hX]; simp [go_sem]
  have HRF : Hid (∀ i, i < d → i * D + D ≤ d * D) := fun i hi => by
    have := Nat.mul_le_mul_right D hi
    rw [Nat.succ_mul] at this
    exact this
  have hdD : d * D ≤ R * C := Nat.mul_le_mul (by omega) (by omega)
  have HJC : Hid (∀ i, i < d → (r0 + i) * C ≤ R * C) := fun i hi => Nat.mul_le_mul_right _ (by omega)
  generalize hf : (fun j => (r0 + j / D) * C + (c0 + j % D)) = f at *
  have HFF : Hid (∀ i j, j < D → f (i * D + j) = (r0 + i) * C + (c0 + j)) := fun i j hj => by
    rw [← hf]
    obtain ⟨p1, p2⟩ := place_div D j i hj
    show (r0 + (i * D + j) / D) * C + (c0 + (i * D + j) % D) = _
    rw [p1, p2]
  clear hf
  have g1 : ¬ (r0 : Int) < 0 := by omega
  have g2 : ¬ (R : Int) < (r1 : Int) := by omega
  have g3 : ¬ (r1 : Int) ≤ (r0 : Int) := by omega
  have g4 : ¬ (c0 : Int) < 0 := by omega
  have g5 : ¬ (C : Int) < (c1 : Int) := by omega
  have g6 : ¬ (c1 : Int) ≤ (c0 : Int) := by omega
  have hr14 : r1 ≤ 4096 := by omega
  have hc14 : c1 ≤ 4096 := by omega
  obtain ⟨q, hq⟩ : ∃ q, d * D = q := ⟨_, rfl⟩
  have HQ : Hid (d * D = q) := hq
  rw [hq] at HRF hdD ⊢
  clear hd hD h2 h4 hq
  go_enter Try.func37, Try.ntmps37
  go_upto_region 4 with fail
  rw [← hX]
  clear hX
  go_wp2_with fail
  clear g1 g2 g3 g4 g5 g6 x1 x2
  go_loopw [13] (fun iv wr => ∃ i : Nat, i ≤ d ∧ iv = .int .i64 (r0 + i : Nat) ∧ GrwS [w.heap.size + 2] X wr ∧ ∃ lv, M4 wr (w.heap.size + 2) (.int .i64 d) (.int .i64 D) (.int .i64 n) lv ∧ MS 2 89 (w.heap.size + 3) wr lv (i * D) (prl (i * D) (fun _ => 0) f)) (fun iv _ => r1 - (intOf iv).toNat)
  case atStart => exact ⟨0, Nat.zero_le _, by simp, GrwS.refl _ _, _, hO, .inl ⟨by simp, by simp [prl], rfl⟩⟩
  case round =>
    obtain ⟨i, hi, rfl, hG, lv, hM4, hM⟩ := hrel
    obtain ⟨hD0, hr01, hc01⟩ := HD0.out
    by_cases hil : i < d
    · rename World => wo
      have hi1 := HRF.out i hil
      have hjc := HJC.out i hil
      obtain ⟨ri, hri⟩ : ∃ ri, r0 + i = ri := ⟨_, rfl⟩
      have HRI : Hid (r0 + (i + 1) = ri + 1) := by show r0 + (i + 1) = ri + 1; omega
      have HFF2 : Hid (∀ j, j < D → f (i * D + j) = ri * C + (c0 + j)) := fun j hj => by rw [HFF.out i j hj, hri]
      rw [hri] at hjc ⊢
      have z1 : IntKind.i64.wrap ((ri : Int) + 1) = (ri : Int) + 1 := by rw [wrap_i64]; omega
      have g7 : (ri : Int) < (r1 : Int) := by omega
      have hril : ri < r1 := by omega
      clear hri
      go_wp2_with fail
      go_loopw [14] (fun jv wr => ∃ j : Nat, j ≤ D ∧ jv = .int .i64 (c0 + j : Nat) ∧ GrwS [w.heap.size + 2] X wr ∧ ∃ lv, M4 wr (w.heap.size + 2) (.int .i64 d) (.int .i64 D) (.int .i64 n) lv ∧ MS 2 89 (w.heap.size + 3) wr lv (i * D + j) (prl (i * D + j) (fun _ => 0) f)) (fun jv _ => c1 - (intOf jv).toNat)
      case atStart => exact ⟨0, Nat.zero_le _, by simp, hG, lv, hM4, hM⟩
      case round =>
        clear hG hM4 hM
        obtain ⟨j, hj, rfl, hG, lv, hM4, hM⟩ := hrel
        obtain ⟨a0, a1, a2⟩ : M3 wr w.heap.size (.int .i64 R) (.int .i64 C) (.int .i64 n) := ⟨(hG.cell hA.lt (by simp)).trans hA.c0, (hG.cell hA.lt (by simp)).trans hA.c1, (hG.cell hA.lt (by simp)).trans hA.c2⟩
        by_cases hjl : j < D
        · have hH : w.heap.size + 3 ≤ wr.heap.size := by have := hG.size; omega
          obtain ⟨jc, hjc'⟩ : ∃ jc, ri * C = jc := ⟨_, rfl⟩
          have e1 : (ri : Int) * (C : Int) = (jc : Int) := by rw [← hjc']; simp
          rw [hjc'] at hjc
          have hq : jc + (c0 + j) = f (i * D + j) := by rw [HFF2.out j hjl, hjc']
          obtain ⟨v', w', hr, hM', hB', hF'⟩ := app_pair (w.heap.size + 3) wr lv (i * D + j) (fun _ => 0) f hM 0 (jc + (c0 + j)) rfl hq hH (by omega)
          obtain ⟨sa, sc, rfl⟩ := hM'.form
          have HR9 : Hid (∀ ty, (Builtin.append_ #[58, 58] ty #[lv, .slice (some ⟨wr.heap.size, 0, none⟩) 1 1]).run Try.prog (wr.alloc (.cells #[.int .i64 0, .int .i64 ((jc + (c0 + j) : Nat) : Int)] 89)) = .ok (.slice sa (i * D + j + 1) sc) w') := hr
          have hM4' := hM4.below hB' (by omega)
          have pf : w'.frozen? ⟨w.heap.size + 2, 3, none⟩ = false := (hF' _).trans ((hG.frozen _).trans (hF2 3))
          have HN : Hid (M4 (w'.setCell ⟨w.heap.size + 2, 3, none⟩ (.slice sa (i * D + j + 1) sc)) (w.heap.size + 2) (.int .i64 d) (.int .i64 D) (.int .i64 n) (.slice sa (i * D + j + 1) sc)) := hM4'.set3 _
          have HN2 : Hid (MS 2 89 (w.heap.size + 3) (w'.setCell ⟨w.heap.size + 2, 3, none⟩ (.slice sa (i * D + j + 1) sc)) (.slice sa (i * D + j + 1) sc) (i * D + (j + 1)) (prl (i * D + (j + 1)) (fun _ => 0) f)) := hM'.setOther (by simp) _
          have HN3 : Hid (GrwS [w.heap.size + 2] X (w'.setCell ⟨w.heap.size + 2, 3, none⟩ (.slice sa (i * D + j + 1) sc))) := (hG.bl (hB'.mono (by omega)) hF').setCell (by simp) _
          obtain ⟨cj, hcj⟩ : ∃ cj, c0 + j = cj := ⟨_, rfl⟩
          have HCJ : Hid (c0 + (j + 1) = cj + 1) := by show c0 + (j + 1) = cj + 1; omega
          rw [hcj] at HR9 ⊢
          have z2 : IntKind.i64.wrap ((cj : Int) + 1) = (cj : Int) + 1 := by rw [wrap_i64]; omega
          have z3 : IntKind.i64.wrap ((ri : Int) * (C : Int)) = (jc : Int) := by rw [e1, wrap_i64]; omega
          have z4 : IntKind.i64.wrap ((jc : Int) + (cj : Int)) = ((jc + cj : Nat) : Int) := by rw [wrap_i64]; omega
          have g8 : (cj : Int) < (c1 : Int) := by omega
          obtain ⟨o0, o1, o2, o3⟩ := hM4
          obtain ⟨p0, p1, p2, p3⟩ := hM4'
          clear hr hM' hB' hF' hM hq e1 hjc'
          generalize hP : jc + cj = P at *
          obtain ⟨sn, hsn⟩ : ∃ sn, i * D + j + 1 = sn := ⟨_, rfl⟩
          rw [← Nat.add_assoc, hsn] at HN2
          rw [hsn] at HR9 HN HN3
          have HSN : Hid (i * D + (j + 1) = sn) := by show i * D + (j + 1) = sn; omega
          clear hsn
          go_wp2_with (first | (at_builtin; refine wpList_append_run rfl _ _ _ rfl _ _ rfl rfl _ _ (HR9.out _) ?_))
          go_roundw
          case rel => exact ⟨j + 1, by omega, by rw [HCJ.out]; go_num, HN3.out, _, HN.out, by rw [HSN.out]; exact HN2.out⟩
          case measure => simp [intOf]; omega
        · obtain rfl : j = D := by omega
          have HM : Hid (MS 2 89 (w.heap.size + 3) wr lv ((i + 1) * j) (prl ((i + 1) * j) (fun _ => 0) f)) := by
            show MS 2 89 (w.heap.size + 3) wr lv ((i + 1) * j) (prl ((i + 1) * j) (fun _ => 0) f)
            rw [Nat.succ_mul]; exact hM
          rw [hc01]
          have g9 : ¬ (c1 : Int) < (c1 : Int) := by omega
          go_wp2_with fail
          go_roundw
          case rel => exact ⟨i + 1, by omega, by rw [HRI.out]; go_num, hG, lv, hM4, HM.out⟩
          case measure => simp [intOf]; omega
    · obtain rfl : i = d := by omega
      rw [hr01]
      have g9 : ¬ (r1 : Int) < (r1 : Int) := by omega
      have hR' := hG.m4 hRs (by simp)
      have f1 : ∀ o, wr.frozen? ⟨w.heap.size + 1, o, none⟩ = false := fun o => (hG.frozen _).trans (hF1 o)
      obtain ⟨sa, sc, rfl⟩ := hM.form
      obtain ⟨o0, o1, o2, o3⟩ := hM4
      have hK9 : Kept w wr := hK.grwS (by simp) hG
      rw [HQ.out] at hM o3
      obtain ⟨p0, p1, p2, p3⟩ := res4 wr _ _ _ _ _ hR' (.int .i64 i) (.int .i64 D) (.int .i64 n) (.slice sa q sc)
      obtain ⟨r0', r1', r2, r3⟩ := hR'
      have hfin := (((hM.setOther (p := ⟨w.heap.size + 1, 0, none⟩) (by simp) (.int .i64 i)).setOther (p := ⟨w.heap.size + 1, 1, none⟩) (by simp) (.int .i64 D)).setOther (p := ⟨w.heap.size + 1, 2, none⟩) (by simp) (.int .i64 n)).setOther (p := ⟨w.heap.size + 1, 3, none⟩) (by simp) (.slice sa q sc)
      have HFN : Hid _ := hfin
      clear hfin hM
      go_wp2_with fail
      refine bodyPost_ret (v := .tuple #[.agg #[.int .i64 i, .int .i64 D, .int .i64 n, .slice sa q sc], .int .i64 0]) (by simp [results, Try.results37, go_sem, *]) rfl ⟨.slice sa q sc, rfl, MS.mono HFN.out (by omega), ((hK9.setCell (by simp) _).setCell (by simp) _).setCell (by simp) _ |>.setCell (by simp) _⟩
end Go.Proofs.Ytcldcjchfagcoaa
