/- The document's moves: Turn, Cut. -/
import Derived.Test.YtcldcjchfagcoaaTP
import Derived.Test.YtcldcjchfagcoaaT42
import Derived.Test.YtcldcjchfagcoaaT5
namespace Go.Proofs.Ytcldcjchfagcoaa
open Go.ChangeShapes Go.WideShapes Go.ChangeAt Go.RowKit
set_option linter.unusedVariables false
set_option linter.unusedSimpArgs false

theorem l2i_under : Try.prog.underlying 58 = some (.slice 89) := by kernel_rfl
theorem a2i_info : (Try.prog.info? 89).map (fun i => (i.zero, i.size, i.bytes)) = some (some (.agg #[.int .i64 0, .int .i64 0]), 2, 16) := by kernel_rfl

/-- Pairs by their places. -/
def prl (k : Nat) (a b : Nat → Nat) : List Value := (List.range k).flatMap fun i => [.int .i64 (a i : Nat), .int .i64 (b i : Nat)]
theorem prl_succ (k : Nat) (a b : Nat → Nat) : prl (k + 1) a b = prl k a b ++ [.int .i64 (a k : Nat), .int .i64 (b k : Nat)] := by
  unfold prl
  rw [List.range_succ, List.flatMap_append]
  simp
theorem prl_length (k : Nat) (a b : Nat → Nat) : (prl k a b).length = k * 2 := by
  induction k with
  | zero => simp [prl]
  | succ k ih => rw [prl_succ, List.length_append, ih]; simp; omega
theorem prl_get (k : Nat) (a b : Nat → Nat) (i : Nat) (hi : i < k) : (prl k a b)[i * 2]? = some (.int .i64 (a i : Nat)) ∧ (prl k a b)[i * 2 + 1]? = some (.int .i64 (b i : Nat)) := by
  induction k with
  | zero => omega
  | succ k ih =>
    rw [prl_succ]
    by_cases h : i < k
    · obtain ⟨h1, h2⟩ := ih h
      rw [List.getElem?_append_left (by rw [prl_length]; omega), List.getElem?_append_left (by rw [prl_length]; omega)]
      exact ⟨h1, h2⟩
    · obtain rfl : i = k := by omega
      rw [List.getElem?_append_right (by rw [prl_length]; omega), List.getElem?_append_right (by rw [prl_length]; omega), prl_length]
      simp
/-- One more pair. -/
theorem app_pair (H : Nat) (wr : World) (lv : Value) (k : Nat) (a b : Nat → Nat) (hM : MS 2 89 H wr lv k (prl k a b)) (p q : Nat) (hp : p = a k) (hq : q = b k) (hH : H ≤ wr.heap.size) (hlen : k < 10000000) :
    ∃ v' w', (∀ ty, (Builtin.append_ #[58, 58] ty #[lv, .slice (some ⟨wr.heap.size, 0, none⟩) 1 1]).run Try.prog (wr.alloc (.cells #[.int .i64 (p : Nat), .int .i64 (q : Nat)] 89)) = .ok v' w') ∧ MS 2 89 H w' v' (k + 1) (prl (k + 1) a b) ∧ Below H wr w' ∧ (∀ x, w'.frozen? x = wr.frozen? x) := by
  rw [prl_succ, ← hp, ← hq]
  exact app_elem 58 89 l2i_under (.agg #[.int .i64 0, .int .i64 0]) 2 16 a2i_info rfl (by decide) H wr lv k _ hM [.int .i64 (p : Nat), .int .i64 (q : Nat)] rfl (fun u hu => by
    rcases List.mem_cons.1 hu with rfl | hu
    · rfl
    · rw [List.mem_singleton.1 hu]; rfl) hH hlen

set_option maxHeartbeats 4000000 in
set_option maxRecDepth 100000 in
theorem rturn_ok (R C : Nat) (n : Int) (hR : 0 < R) (hC : 0 < C) (hRC : R * C ≤ 4096) (w : World) : Calls Try.prog 35 #[.agg #[.int .i64 R, .int .i64 C, .int .i64 n]] w fun e w' => ∃ v, e = .returned (.agg #[.int .i64 C, .int .i64 R, .int .i64 n, v]) ∧ MS 2 89 w.heap.size w' v (R * C) (prl (R * C) (fun _ => 0) (fun j => (j % R) * C + j / R)) ∧ Kept w w' := by
  obtain ⟨X, hX⟩ : ∃ X, X = ((w.alloc (.cells #[.int .i64 R, .int .i64 C, .int .i64 n] 44)).alloc (.cells #[.int .i64 0, .int .i64 0, .int .i64 0, .slice none 0 0] 60)).alloc (.cells #[.int .i64 C, .int .i64 R, .int .i64 n, .slice none 0 0] 60) := ⟨_, rfl⟩
  have hK : Kept w X := by rw [hX]; exact (((Kept.refl w).alloc _ _).alloc _ _).alloc _ _
  have hXs : X.heap.size = w.heap.size + 3 := by rw [hX]; simp
  have hA : M3 X w.heap.size (.int .i64 R) (.int .i64 C) (.int .i64 n) := by rw [hX]; exact ⟨by simp [go_sem], by simp [go_sem], by simp [go_sem]⟩
  have hRs : M4 X (w.heap.size + 1) (.int .i64 0) (.int .i64 0) (.int .i64 0) (.slice none 0 0) := by rw [hX]; exact ⟨by simp [go_sem], by simp [go_sem], by simp [go_sem], by simp [go_sem]⟩
  have hO : M4 X (w.heap.size + 2) (.int .i64 C) (.int .i64 R) (.int .i64 n) (.slice none 0 0) := by rw [hX]; exact ⟨by simp [go_sem], by simp [go_sem], by simp [go_sem], by simp [go_sem]⟩
  have hF1 : ∀ o, X.frozen? ⟨w.heap.size + 1, o, none⟩ = false := fun o => by rw [hX]; simp [go_sem]
  have hF2 : ∀ o, X.frozen? ⟨w.heap.size + 2, o, none⟩ = false := fun o => by rw [hX]; simp [go_sem]
  have hR4 : R ≤ 4096 := Nat.le_trans (Nat.le_mul_of_pos_right R hC) hRC
  have hC4 : C ≤ 4096 := Nat.le_trans (Nat.le_mul_of_pos_left C hR) hRC
  have HFI : Hid (∀ i j, j < R → ((i * R + j) % R) * C + (i * R + j) / R = j * C + i) := fun i j hj => by
    obtain ⟨p1, p2⟩ := place_div R j i hj
    rw [p1, p2]
  have HRF : Hid (∀ i, i < C → i * R + R ≤ R * C) := fun i hi => by
    have := Nat.mul_le_mul_right R hi
    rw [Nat.succ_mul, Nat.mul_comm C R] at this
    exact this
  have HCR : Hid (C * R = R * C) := Nat.mul_comm C R
  have HJC : Hid (∀ j, j < R → j * C ≤ R * C) := fun j hj => Nat.mul_le_mul_right _ (by omega)
  generalize hf : (fun j => (j % R) * C + j / R) = f at *
  have HFF : Hid (∀ i j, j < R → f (i * R + j) = j * C + i) := fun i j hj => by rw [← hf]; exact HFI.out i j hj
  clear hf HFI
  obtain ⟨rc, hrc⟩ : ∃ rc, R * C = rc := ⟨_, rfl⟩
  rw [hrc] at hRC HRF HCR HJC ⊢
  clear hrc
  go_enter Try.func35, Try.ntmps35
  go_upto_region 2 with fail
  rw [← hX]
  clear hX
  go_wp2_with fail
  go_loopw [4] (fun iv wr => ∃ i : Nat, i ≤ C ∧ iv = .int .i64 i ∧ GrwS [w.heap.size + 2] X wr ∧ ∃ lv, M4 wr (w.heap.size + 2) (.int .i64 C) (.int .i64 R) (.int .i64 n) lv ∧ MS 2 89 (w.heap.size + 3) wr lv (i * R) (prl (i * R) (fun _ => 0) f)) (fun iv _ => C - (intOf iv).toNat)
  case atStart => exact ⟨0, Nat.zero_le _, rfl, GrwS.refl _ _, _, hO, .inl ⟨by simp, by simp [prl], rfl⟩⟩
  case round =>
    obtain ⟨i, hi, rfl, hG, lv, hM4, hM⟩ := hrel
    obtain ⟨a0, a1, a2⟩ : M3 wr w.heap.size (.int .i64 R) (.int .i64 C) (.int .i64 n) := ⟨(hG.cell hA.lt (by simp)).trans hA.c0, (hG.cell hA.lt (by simp)).trans hA.c1, (hG.cell hA.lt (by simp)).trans hA.c2⟩
    by_cases hil : i < C
    · rename World => wo
      have hi1 := HRF.out i hil
      have z1 : IntKind.i64.wrap ((i : Int) + 1) = (i : Int) + 1 := by rw [wrap_i64]; omega
      go_wp2_with fail
      clear a0 a1 a2
      go_loopw [5] (fun jv wr => ∃ j : Nat, j ≤ R ∧ jv = .int .i64 j ∧ GrwS [w.heap.size + 2] X wr ∧ ∃ lv, M4 wr (w.heap.size + 2) (.int .i64 C) (.int .i64 R) (.int .i64 n) lv ∧ MS 2 89 (w.heap.size + 3) wr lv (i * R + j) (prl (i * R + j) (fun _ => 0) f)) (fun jv _ => R - (intOf jv).toNat)
      case atStart => exact ⟨0, Nat.zero_le _, rfl, hG, lv, hM4, hM⟩
      case round =>
        clear hG hM4 hM
        obtain ⟨j, hj, rfl, hG, lv, hM4, hM⟩ := hrel
        obtain ⟨a0, a1, a2⟩ : M3 wr w.heap.size (.int .i64 R) (.int .i64 C) (.int .i64 n) := ⟨(hG.cell hA.lt (by simp)).trans hA.c0, (hG.cell hA.lt (by simp)).trans hA.c1, (hG.cell hA.lt (by simp)).trans hA.c2⟩
        by_cases hjl : j < R
        · have hH : w.heap.size + 3 ≤ wr.heap.size := by have := hG.size; omega
          have hjc := HJC.out j hjl
          obtain ⟨jc, hjc'⟩ : ∃ jc, j * C = jc := ⟨_, rfl⟩
          have e1 : (j : Int) * (C : Int) = (jc : Int) := by rw [← hjc']; simp
          have z2 : IntKind.i64.wrap ((j : Int) + 1) = (j : Int) + 1 := by rw [wrap_i64]; omega
          rw [hjc'] at hjc
          have z3 : IntKind.i64.wrap ((j : Int) * (C : Int)) = (jc : Int) := by rw [e1, wrap_i64]; omega
          have z4 : IntKind.i64.wrap ((jc : Int) + (i : Int)) = ((jc + i : Nat) : Int) := by rw [wrap_i64]; omega
          have hq : jc + i = f (i * R + j) := by rw [HFF.out i j hjl, hjc']
          obtain ⟨v', w', hr, hM', hB', hF'⟩ := app_pair (w.heap.size + 3) wr lv (i * R + j) (fun _ => 0) f hM 0 (jc + i) rfl hq hH (by omega)
          obtain ⟨sa, sc, rfl⟩ := hM'.form
          have HR9 : Hid (∀ ty, (Builtin.append_ #[58, 58] ty #[lv, .slice (some ⟨wr.heap.size, 0, none⟩) 1 1]).run Try.prog (wr.alloc (.cells #[.int .i64 0, .int .i64 ((jc + i : Nat) : Int)] 89)) = .ok (.slice sa (i * R + j + 1) sc) w') := hr
          have hM4' := hM4.below hB' (by omega)
          have pf : w'.frozen? ⟨w.heap.size + 2, 3, none⟩ = false := (hF' _).trans ((hG.frozen _).trans (hF2 3))
          have HN : Hid (M4 (w'.setCell ⟨w.heap.size + 2, 3, none⟩ (.slice sa (i * R + j + 1) sc)) (w.heap.size + 2) (.int .i64 C) (.int .i64 R) (.int .i64 n) (.slice sa (i * R + j + 1) sc)) := hM4'.set3 _
          have HN2 : Hid (MS 2 89 (w.heap.size + 3) (w'.setCell ⟨w.heap.size + 2, 3, none⟩ (.slice sa (i * R + j + 1) sc)) (.slice sa (i * R + j + 1) sc) (i * R + (j + 1)) (prl (i * R + (j + 1)) (fun _ => 0) f)) := hM'.setOther (by simp) _
          have HN3 : Hid (GrwS [w.heap.size + 2] X (w'.setCell ⟨w.heap.size + 2, 3, none⟩ (.slice sa (i * R + j + 1) sc))) := (hG.bl (hB'.mono (by omega)) hF').setCell (by simp) _
          obtain ⟨o0, o1, o2, o3⟩ := hM4
          obtain ⟨p0, p1, p2, p3⟩ := hM4'
          clear hr hM' hB' hF' hM hq e1 hjc'
          generalize hP : jc + i = P at *
          obtain ⟨sn, hsn⟩ : ∃ sn, i * R + j + 1 = sn := ⟨_, rfl⟩
          rw [← Nat.add_assoc, hsn] at HN2
          rw [hsn] at HR9 HN HN3
          have HSN : Hid (i * R + (j + 1) = sn) := by show i * R + (j + 1) = sn; omega
          clear hsn
          go_wp2_with (first | (at_builtin; refine wpList_append_run rfl _ _ _ rfl _ _ rfl rfl _ _ (HR9.out _) ?_))
          go_roundw
          case rel => exact ⟨j + 1, by omega, by go_num, HN3.out, _, HN.out, by rw [HSN.out]; exact HN2.out⟩
          case measure => simp [intOf]; omega
        · obtain rfl : j = R := by omega
          have HM : Hid (MS 2 89 (w.heap.size + 3) wr lv ((i + 1) * j) (prl ((i + 1) * j) (fun _ => 0) f)) := by
            show MS 2 89 (w.heap.size + 3) wr lv ((i + 1) * j) (prl ((i + 1) * j) (fun _ => 0) f)
            rw [Nat.succ_mul]; exact hM
          go_wp2_with fail
          go_roundw
          case rel => exact ⟨i + 1, by omega, by go_num, hG, lv, hM4, HM.out⟩
          case measure => simp [intOf]; omega
    · obtain rfl : i = C := by omega
      have hR' := hG.m4 hRs (by simp)
      have f1 : ∀ o, wr.frozen? ⟨w.heap.size + 1, o, none⟩ = false := fun o => (hG.frozen _).trans (hF1 o)
      obtain ⟨sa, sc, rfl⟩ := hM.form
      obtain ⟨o0, o1, o2, o3⟩ := hM4
      rw [HCR.out] at hM o3
      have hK9 : Kept w wr := hK.grwS (by simp) hG
      obtain ⟨p0, p1, p2, p3⟩ := res4 wr _ _ _ _ _ hR' (.int .i64 i) (.int .i64 R) (.int .i64 n) (.slice sa rc sc)
      obtain ⟨r0, r1, r2, r3⟩ := hR'
      have hfin := (((hM.setOther (p := ⟨w.heap.size + 1, 0, none⟩) (by simp) (.int .i64 i)).setOther (p := ⟨w.heap.size + 1, 1, none⟩) (by simp) (.int .i64 R)).setOther (p := ⟨w.heap.size + 1, 2, none⟩) (by simp) (.int .i64 n)).setOther (p := ⟨w.heap.size + 1, 3, none⟩) (by simp) (.slice sa rc sc)
      have HFN : Hid _ := hfin
      clear hfin hM
      go_wp2_with fail
      refine bodyPost_ret (v := .agg #[.int .i64 i, .int .i64 R, .int .i64 n, .slice sa rc sc]) (by simp [results, Try.results35, go_sem, *]) rfl ⟨.slice sa rc sc, rfl, MS.mono HFN.out (by omega), ((hK9.setCell (by simp) _).setCell (by simp) _).setCell (by simp) _ |>.setCell (by simp) _⟩
end Go.Proofs.Ytcldcjchfagcoaa
