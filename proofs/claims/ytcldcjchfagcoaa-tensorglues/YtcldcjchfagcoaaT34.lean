/- The document's From, Stretched, Stretch. -/
import Derived.Test.YtcldcjchfagcoaaT33
namespace Go.Proofs.Ytcldcjchfagcoaa
open Go.ChangeShapes Go.WideShapes Go.ChangeAt Go.RowKit
set_option linter.unusedVariables false
set_option linter.unusedSimpArgs false

/-- Of a stretched element the place where it came from. -/
def stx (R C i j : Nat) : Nat := (if R = 1 then 0 else i) * C + (if C = 1 then 0 else j)
theorem stf_at (M : List Int) (R C cs i j : Nat) (hj : j < cs) : stf M R C cs (i * cs + j) = M.getD (stx R C i j) 0 := by
  unfold stf stx
  have hc : 0 < cs := by omega
  have h1 : (i * cs + j) / cs = i := by rw [Nat.mul_comm, Nat.mul_add_div hc, Nat.div_eq_of_lt hj]; omega
  have h2 : (i * cs + j) % cs = j := by rw [Nat.mul_comm, Nat.mul_add_mod, Nat.mod_eq_of_lt hj]
  rw [h1, h2]
theorem stx_lt (R C rs cs i j : Nat) (hR : 0 < R) (hC : 0 < C) (hrs : rs = R ∨ (R = 1 ∧ 0 < rs)) (hcs : cs = C ∨ (C = 1 ∧ 0 < cs)) (hi : i < rs) (hj : j < cs) : stx R C i j < R * C := by
  unfold stx
  obtain ⟨x, hx⟩ : ∃ x, (if R = 1 then 0 else i) = x := ⟨_, rfl⟩
  obtain ⟨y, hy⟩ : ∃ y, (if C = 1 then 0 else j) = y := ⟨_, rfl⟩
  rw [hx, hy]
  have hxR : x < R := by
    rw [← hx]
    split <;> omega
  have hyC : y < C := by
    rw [← hy]
    split <;> omega
  calc x * C + y < x * C + C := by omega
    _ = (x + 1) * C := by rw [Nat.succ_mul]
    _ ≤ R * C := Nat.mul_le_mul_right _ hxR
theorem MR.mono {H H' : Nat} {w : World} {v : Value} {M : List Int} (h : MR H w v M) (hH : H' ≤ H) : MR H' w v M := by
  rcases h with h | ⟨g, cap, e, hg, ho⟩
  · exact .inl h
  · exact .inr ⟨g, cap, e, by omega, ho⟩

set_option maxHeartbeats 1000000 in
theorem rfrom_ok (R C i j : Nat) (n : Int) (hR : R ≤ 4096) (hC : C ≤ 4096) (hi : i ≤ 4096) (hj : j ≤ 4096) (w : World) : Calls Try.prog 57 #[.agg #[.int .i64 R, .int .i64 C, .int .i64 n], .int .i64 i, .int .i64 j] w fun e w' => e = .returned (.int .i64 (stx R C i j : Nat)) ∧ Kept w w' := by
  have hK := (Kept.refl w).alloc #[.int .i64 R, .int .i64 C, .int .i64 n] 44
  have hic : i * C ≤ 4096 * 4096 := Nat.mul_le_mul hi hC
  obtain ⟨ic, hic'⟩ : ∃ ic, i * C = ic := ⟨_, rfl⟩
  have e1 : (i : Int) * (C : Int) = (ic : Int) := by rw [← hic']; simp
  have z1 : IntKind.i64.wrap ((i : Int) * (C : Int)) = (ic : Int) := by rw [e1, wrap_i64]; omega
  have z2 : IntKind.i64.wrap ((ic : Int) + (j : Int)) = (ic : Int) + (j : Int) := by rw [wrap_i64]; omega
  have z3 : IntKind.i64.wrap ((ic : Int) + 0) = (ic : Int) := by rw [wrap_i64]; omega
  have z4 : IntKind.i64.wrap ((j : Int)) = (j : Int) := by rw [wrap_i64]; omega
  have z5 : IntKind.i64.wrap ((ic : Int)) = (ic : Int) := by rw [wrap_i64]; omega
  rcases (show R = 1 ∨ R ≠ 1 by omega) with hR1 | hR1
  · have hb : ((R : Int) == 1) = true := by simp; omega
    rcases (show C = 1 ∨ C ≠ 1 by omega) with hC1 | hC1
    · have hc : ((C : Int) == 1) = true := by simp; omega
      have hs : stx R C i j = 0 := by unfold stx; rw [if_pos hR1, if_pos hC1]; simp
      rw [hs]
      clear hs hic' e1 z1 z2 hR1 hC1
      go_enter Try.func57, Try.ntmps57
      go_wp2
      go_ret
      exact ⟨by simp, hK⟩
    · have hc : ((C : Int) == 1) = false := by simp; omega
      have hs : stx R C i j = j := by unfold stx; rw [if_pos hR1, if_neg hC1]; simp
      rw [hs]
      clear hs hic' e1 z1 z2 hR1 hC1
      go_enter Try.func57, Try.ntmps57
      go_wp2
      go_ret
      exact ⟨by simp, hK⟩
  · have hb : ((R : Int) == 1) = false := by simp; omega
    rcases (show C = 1 ∨ C ≠ 1 by omega) with hC1 | hC1
    · have hc : ((C : Int) == 1) = true := by simp; omega
      have hs : stx R C i j = ic := by unfold stx; rw [if_neg hR1, if_pos hC1, hic']; simp
      rw [hs]
      clear hs hic' e1 hR1 hC1
      go_enter Try.func57, Try.ntmps57
      go_wp2
      go_ret
      exact ⟨by simp, hK⟩
    · have hc : ((C : Int) == 1) = false := by simp; omega
      have hs : stx R C i j = ic + j := by unfold stx; rw [if_neg hR1, if_neg hC1, hic']
      rw [hs]
      clear hs hic' e1 hR1 hC1
      go_enter Try.func57, Try.ntmps57
      go_wp2
      go_ret
      exact ⟨by simp, hK⟩

theorem strE_doc {r c n rs cs : Int} (hn : n = 64 ∨ n = 32) (hr : 1 ≤ r) (hc : 1 ≤ c) : strE r c rs cs = if rs < 1 ∨ cs < 1 ∨ (rs ≠ r ∧ r ≠ 1) ∨ (cs ≠ c ∧ c ≠ 1) then 4 else ckS rs cs n := by
  unfold strE
  by_cases h : rs < 1 ∨ cs < 1 ∨ (rs ≠ r ∧ r ≠ 1) ∨ (cs ≠ c ∧ c ≠ 1)
  · rw [if_pos h, if_pos]
    unfold stq
    omega
  · rw [if_neg h, if_neg]
    · unfold ckS
      rw [if_neg (fun k => k hn), if_neg (by omega)]
    · unfold stq
      omega

set_option maxHeartbeats 2000000 in
set_option maxRecDepth 100000 in
theorem rstretched_any (r c n rs cs : Int) (hn : n = 64 ∨ n = 32) (hr : 1 ≤ r) (hc : 1 ≤ c) (s : Value) (w : World) : Calls Try.prog 24 #[.agg #[.int .i64 r, .int .i64 c, .int .i64 n, s], .int .i64 rs, .int .i64 cs] w fun e w' => e = .returned (.int .i64 (strE r c rs cs)) ∧ Kept w w' := by
  have hK := (Kept.refl w).alloc #[.int .i64 r, .int .i64 c, .int .i64 n, s] 24
  have KS : Hid (∀ u, Calls Try.prog 20 #[.int .i64 rs, .int .i64 cs, .int .i64 n] u fun e w' => e = .returned (.int .i64 (ckS rs cs n)) ∧ u = w') := fun u => sized_any rs cs n u
  rw [strE_doc hn hr hc]
  clear hn
  by_cases h1 : rs < 1
  · rw [if_pos (by omega)]
    clear hr hc
    go_enter Try.func24, Try.ntmps24
    go_wp2
    go_ret
    exact ⟨rfl, hK⟩
  · by_cases h2 : cs < 1
    · rw [if_pos (by omega)]
      clear hr hc
      go_enter Try.func24, Try.ntmps24
      go_wp2
      go_ret
      exact ⟨rfl, hK⟩
    · rcases (show (rs ≠ r ∧ r ≠ 1) ∨ rs = r ∨ (rs ≠ r ∧ r = 1) by omega) with ⟨a1, a2⟩ | a1 | ⟨a1, a2⟩
      · rw [if_pos (by omega)]
        have b1 : (rs != r) = true := by simpa using a1
        have b2 : (r != 1) = true := by simpa using a2
        clear hr hc a1 a2
        go_enter Try.func24, Try.ntmps24
        go_wp2
        go_ret
        exact ⟨rfl, hK⟩
      all_goals rcases (show (cs ≠ c ∧ c ≠ 1) ∨ cs = c ∨ (cs ≠ c ∧ c = 1) by omega) with ⟨d1, d2⟩ | d1 | ⟨d1, d2⟩
      · rw [if_pos (by omega)]
        have b1 : (rs != r) = false := by simpa using a1
        have b3 : (cs != c) = true := by simpa using d1
        have b4 : (c != 1) = true := by simpa using d2
        clear hr hc a1 d1 d2
        go_enter Try.func24, Try.ntmps24
        go_wp2
        go_ret
        exact ⟨rfl, hK⟩
      · rw [if_neg (by omega)]
        have b1 : (rs != r) = false := by simpa using a1
        have b3 : (cs != c) = false := by simpa using d1
        clear hr hc a1 d1
        go_enter Try.func24, Try.ntmps24
        go_wp2_with (first | (go_at_call 20; refine (KS.out _).mono ?_; rintro e w1 ⟨rfl, rfl⟩))
        go_ret
        exact ⟨rfl, hK⟩
      · rw [if_neg (by omega)]
        have b1 : (rs != r) = false := by simpa using a1
        have b3 : (cs != c) = true := by simpa using d1
        have b4 : (c != 1) = false := by simpa using d2
        clear hr hc a1 d1 d2
        go_enter Try.func24, Try.ntmps24
        go_wp2_with (first | (go_at_call 20; refine (KS.out _).mono ?_; rintro e w1 ⟨rfl, rfl⟩))
        go_ret
        exact ⟨rfl, hK⟩
      · rw [if_pos (by omega)]
        have b1 : (rs != r) = true := by simpa using a1
        have b2 : (r != 1) = false := by simpa using a2
        have b3 : (cs != c) = true := by simpa using d1
        have b4 : (c != 1) = true := by simpa using d2
        clear hr hc a1 a2 d1 d2
        go_enter Try.func24, Try.ntmps24
        go_wp2
        go_ret
        exact ⟨rfl, hK⟩
      · rw [if_neg (by omega)]
        have b1 : (rs != r) = true := by simpa using a1
        have b2 : (r != 1) = false := by simpa using a2
        have b3 : (cs != c) = false := by simpa using d1
        clear hr hc a1 a2 d1
        go_enter Try.func24, Try.ntmps24
        go_wp2_with (first | (go_at_call 20; refine (KS.out _).mono ?_; rintro e w1 ⟨rfl, rfl⟩))
        go_ret
        exact ⟨rfl, hK⟩
      · rw [if_neg (by omega)]
        have b1 : (rs != r) = true := by simpa using a1
        have b2 : (r != 1) = false := by simpa using a2
        have b3 : (cs != c) = true := by simpa using d1
        have b4 : (c != 1) = false := by simpa using d2
        clear hr hc a1 a2 d1 d2
        go_enter Try.func24, Try.ntmps24
        go_wp2_with (first | (go_at_call 20; refine (KS.out _).mono ?_; rintro e w1 ⟨rfl, rfl⟩))
        go_ret
        exact ⟨rfl, hK⟩

set_option maxHeartbeats 4000000 in
set_option maxRecDepth 100000 in
theorem rstretch_ok (R C rs cs : Nat) (n : Int) (hn : n = 64 ∨ n = 32) (hR : 0 < R) (hC : 0 < C) (hRC : R * C ≤ 4096) (hrs : rs = R ∨ (R = 1 ∧ 0 < rs)) (hcs : cs = C ∨ (C = 1 ∧ 0 < cs)) (hrc : rs * cs ≤ 4096) (M : List Int) (hML : M.length = R * C) (hRgT : Rgl (lst (rs * cs) (stf M R C cs))) (b off cp : Nat) (w : World) (hb : b < w.heap.size) (hrd : Reads w b off M) : Calls Try.prog 25 #[.agg #[.int .i64 R, .int .i64 C, .int .i64 n, .slice (some ⟨b, off, none⟩) (R * C) cp], .int .i64 rs, .int .i64 cs] w fun e w' => ∃ v, e = .returned (.agg #[.int .i64 rs, .int .i64 cs, .int .i64 n, v]) ∧ MR w.heap.size w' v ((lst (rs * cs) (stf M R C cs)).map (cln · n)) ∧ Kept w w' := by
  have hRl : R ≤ 4096 := Nat.le_trans (Nat.le_mul_of_pos_right R hC) hRC
  have hCl : C ≤ 4096 := Nat.le_trans (Nat.le_mul_of_pos_left C hR) hRC
  have hrsl : rs ≤ 4096 := Nat.le_trans (Nat.le_mul_of_pos_right rs (by omega)) hrc
  have hcsl : cs ≤ 4096 := Nat.le_trans (Nat.le_mul_of_pos_left cs (by omega)) hrc
  obtain ⟨rc, hrc'⟩ : ∃ rc, R * C = rc := ⟨_, rfl⟩
  have HXL : Hid (∀ i j, i < rs → j < cs → stx R C i j < rc ∧ stf M R C cs (i * cs + j) = M.getD (stx R C i j) 0) := fun i j hi hj => ⟨by rw [← hrc']; exact stx_lt R C rs cs i j hR hC hrs hcs hi hj, stf_at M R C cs i j hj⟩
  have KO : Hid (∀ u, Calls Try.prog 34 #[.agg #[.int .i64 R, .int .i64 C, .int .i64 n, .slice (some ⟨b, off, none⟩) rc cp]] u fun e w' => e = .returned (.agg #[.int .i64 R, .int .i64 C, .int .i64 n]) ∧ Kept u w') := fun u => rof_any _ _ _ _ u
  have KF : Hid (∀ u i j, i < rs → j < cs → Calls Try.prog 57 #[.agg #[.int .i64 R, .int .i64 C, .int .i64 n], .int .i64 i, .int .i64 j] u fun e w' => e = .returned (.int .i64 (stx R C i j : Nat)) ∧ Kept u w') := fun u i j hi hj => rfrom_ok R C i j n hRl hCl (by omega) (by omega) u
  have HCan : Hid (∀ u v, MR (w.heap.size + 3) u v (lst (rs * cs) (stf M R C cs)) → Calls Try.prog 58 #[.agg #[.int .i64 rs, .int .i64 cs, .int .i64 n, v]] u fun e w' => ∃ v, e = .returned (.agg #[.int .i64 rs, .int .i64 cs, .int .i64 n, v]) ∧ MR u.heap.size w' v ((lst (rs * cs) (stf M R C cs)).map (cln · n)) ∧ Kept u w') := fun u v hv => by
    obtain ⟨ao, c, e, -, hs⟩ := hv.sl
    rw [e]
    exact rcanon_ok rs cs n hn _ hRgT (by rw [lst_length]; omega) ao c u hs
  have HRF : Hid (∀ k, k < rs → (k + 1) * cs ≤ rs * cs) := fun k hk => Nat.mul_le_mul_right _ hk
  rw [hrc'] at hML ⊢
  obtain ⟨X, hX⟩ : ∃ X, X = ((w.alloc (.cells #[.int .i64 R, .int .i64 C, .int .i64 n, .slice (some ⟨b, off, none⟩) rc cp] 24)).alloc (.cells #[.int .i64 0, .int .i64 0, .int .i64 0, .slice none 0 0] 24)).alloc (.cells #[.int .i64 rs, .int .i64 cs, .int .i64 n, .slice none 0 0] 24) := ⟨_, rfl⟩
  have hK : Kept w X := by rw [hX]; exact (((Kept.refl w).alloc _ _).alloc _ _).alloc _ _
  have hXs : X.heap.size = w.heap.size + 3 := by rw [hX]; simp
  have hA : M4 X w.heap.size (.int .i64 R) (.int .i64 C) (.int .i64 n) (.slice (some ⟨b, off, none⟩) rc cp) := by rw [hX]; exact ⟨by simp [go_sem], by simp [go_sem], by simp [go_sem], by simp [go_sem]⟩
  have hRs : M4 X (w.heap.size + 1) (.int .i64 0) (.int .i64 0) (.int .i64 0) (.slice none 0 0) := by rw [hX]; exact ⟨by simp [go_sem], by simp [go_sem], by simp [go_sem], by simp [go_sem]⟩
  have hO : M4 X (w.heap.size + 2) (.int .i64 rs) (.int .i64 cs) (.int .i64 n) (.slice none 0 0) := by rw [hX]; exact ⟨by simp [go_sem], by simp [go_sem], by simp [go_sem], by simp [go_sem]⟩
  have hF1 : ∀ o, X.frozen? ⟨w.heap.size + 1, o, none⟩ = false := fun o => by rw [hX]; simp [go_sem]
  have hF2 : ∀ o, X.frozen? ⟨w.heap.size + 2, o, none⟩ = false := fun o => by rw [hX]; simp [go_sem]
  have HRD : Hid (∀ u, GrwS [w.heap.size + 2] X u → ∀ i, i < rc → u.cell? ⟨b, off + i, none⟩ = some (.int .i64 (M.getD i 0))) := fun u k i hi => (k.cell (by omega) (by simp; omega)).trans (hrd.kept hb hK i (by rw [hML]; exact hi))
  obtain ⟨T, hT⟩ : ∃ T, (lst (rs * cs) (stf M R C cs)).map (cln · n) = T := ⟨_, rfl⟩
  rw [hT]
  rw [hT] at HCan
  generalize stf M R C cs = f at *
  clear hT hML hRgT hrc' hrs hcs hrd hRC
  go_enter Try.func25, Try.ntmps25
  go_upto_region 2 with fail
  rw [← hX]
  clear hX
  go_wp2_with fail
  go_loopw [8] (fun iv wr => ∃ i : Nat, i ≤ rs ∧ iv = .int .i64 i ∧ GrwS [w.heap.size + 2] X wr ∧ ∃ lv, M4 wr (w.heap.size + 2) (.int .i64 rs) (.int .i64 cs) (.int .i64 n) lv ∧ MR (w.heap.size + 3) wr lv (lst (i * cs) f)) (fun iv _ => rs - (intOf iv).toNat)
  case atStart => exact ⟨0, Nat.zero_le _, rfl, GrwS.refl _ _, _, hO, .inl ⟨by simp [lst], rfl⟩⟩
  case round =>
    obtain ⟨i, hi, rfl, hG, lv, hM4, hM⟩ := hrel
    by_cases hil : i < rs
    · rename World => wo
      have hi1 := HRF.out i hil
      rw [Nat.succ_mul] at hi1
      have z1 : IntKind.i64.wrap ((i : Int) + 1) = (i : Int) + 1 := by rw [wrap_i64]; omega
      go_wp2_with fail
      go_loopw [9] (fun jv wr => ∃ j : Nat, j ≤ cs ∧ jv = .int .i64 j ∧ GrwS [w.heap.size + 2] X wr ∧ ∃ lv, M4 wr (w.heap.size + 2) (.int .i64 rs) (.int .i64 cs) (.int .i64 n) lv ∧ MR (w.heap.size + 3) wr lv (lst (i * cs + j) f)) (fun jv _ => cs - (intOf jv).toNat)
      case atStart => exact ⟨0, Nat.zero_le _, rfl, hG, lv, hM4, hM⟩
      case round =>
        clear hG hM4 hM
        obtain ⟨j, hj, rfl, hG, lv, hM4, hM⟩ := hrel
        have hA' := hG.m4 hA (by simp)
        obtain ⟨a0, a1, a2, a3⟩ := hA'
        by_cases hjl : j < cs
        · obtain ⟨hP1, hP2⟩ := HXL.out i j hil hjl
          have e1 := HRD.out _ hG _ hP1
          have KF2 : Hid (∀ u, Calls Try.prog 57 #[.agg #[.int .i64 R, .int .i64 C, .int .i64 n], .int .i64 i, .int .i64 j] u fun e w' => e = .returned (.int .i64 (stx R C i j : Nat)) ∧ Kept u w') := fun u => KF.out u i j hil hjl
          have hH : w.heap.size + 3 ≤ wr.heap.size := by have := hG.size; omega
          have hf3 : wr.frozen? ⟨w.heap.size + 2, 3, none⟩ = false := (hG.frozen _).trans (hF2 3)
          have HFK : Hid (f (i * cs + j) = M.getD (stx R C i j) 0) := hP2
          have z2 : IntKind.i64.wrap ((j : Int) + 1) = (j : Int) + 1 := by rw [wrap_i64]; omega
          generalize stx R C i j = P at *
          generalize M.getD P 0 = d at *
          have y1 : (0 : Int) ≤ (P : Int) := by omega
          have y2 : (P : Int) < (rc : Int) := by omega
          have HS : Hid (∀ u, Kept wr u → Kept wr u ∧ (u.cell? ⟨w.heap.size + 2, 3, none⟩ = some lv ∧ u.cell? ⟨w.heap.size, 0, none⟩ = some (.int .i64 R) ∧ u.cell? ⟨w.heap.size, 1, none⟩ = some (.int .i64 C) ∧ u.cell? ⟨w.heap.size, 2, none⟩ = some (.int .i64 n) ∧ u.cell? ⟨w.heap.size, 3, none⟩ = some (.slice (some ⟨b, off, none⟩) rc cp)) ∧ u.cell? ⟨b, off + P, none⟩ = some (.int .i64 d)) := fun u ku => ⟨ku, ⟨(ku.bl.cell _ 3 hM4.lt).trans hM4.c3, (ku.bl.cell _ 0 (by omega)).trans a0, (ku.bl.cell _ 1 (by omega)).trans a1, (ku.bl.cell _ 2 (by omega)).trans a2, (ku.bl.cell _ 3 (by omega)).trans a3⟩, (ku.bl.cell b _ (by omega)).trans e1⟩
          clear KF HRD hRs hO hP2 HCan HXL
          go_wp2_with fail
          refine wp_region_late [12, 13, 14] (fun u => Kept wr u ∧ (u.cell? ⟨w.heap.size + 2, 3, none⟩ = some lv ∧ u.cell? ⟨w.heap.size, 0, none⟩ = some (.int .i64 R) ∧ u.cell? ⟨w.heap.size, 1, none⟩ = some (.int .i64 C) ∧ u.cell? ⟨w.heap.size, 2, none⟩ = some (.int .i64 n) ∧ u.cell? ⟨w.heap.size, 3, none⟩ = some (.slice (some ⟨b, off, none⟩) rc cp)) ∧ u.cell? ⟨b, off + P, none⟩ = some (.int .i64 d)) (by kernel_rfl) (HS.out _ ((Kept.refl wr).drew)) (fun hHeld => ?_)
          refine wpAnyD_take (i := 0) (v := ?_) rfl (by kernel_rfl) (by kernel_rfl) (by kernel_rfl) (by kernel_rfl) (fun _ _ _ h => h) (Or.inl ⟨by rfl, ?hya0⟩) hHeld ?_
          case hya0 => (intro w hSw; (try dsimp only at hSw); go_simp; try (with_reducible rfl))
          (try simp only [Act.put, List.getElem_toArray, List.getElem_cons_succ, List.getElem_cons_zero, List.setIfInBounds_toArray, List.set_cons_zero, List.set_cons_succ])
          refine wpAnyD_take (i := 1) (v := ?_) rfl (by kernel_rfl) (by kernel_rfl) (by kernel_rfl) (by kernel_rfl) (fun _ _ _ h => h) (Or.inl ⟨by rfl, ?hya1⟩) hHeld ?_
          case hya1 => (intro w hSw; (try dsimp only at hSw); go_simp; try (with_reducible rfl))
          (try simp only [Act.put, List.getElem_toArray, List.getElem_cons_succ, List.getElem_cons_zero, List.setIfInBounds_toArray, List.set_cons_zero, List.set_cons_succ])
          refine wpAnyD_take (i := 2) (v := ?_) rfl (by kernel_rfl) (by kernel_rfl) (by kernel_rfl) (by kernel_rfl) (fun _ _ _ h => h) (Or.inl ⟨by rfl, ?hya2⟩) hHeld ?_
          case hya2 => (intro w hSw; (try dsimp only at hSw); go_simp; try (with_reducible rfl))
          (try simp only [Act.put, List.getElem_toArray, List.getElem_cons_succ, List.getElem_cons_zero, List.setIfInBounds_toArray, List.set_cons_zero, List.set_cons_succ])
          refine wpAnyD_take (i := 3) (v := ?_) rfl (by kernel_rfl) (by kernel_rfl) (by kernel_rfl) (by kernel_rfl) (fun _ _ _ h => h) (Or.inl ⟨by rfl, ?hya3⟩) hHeld ?_
          case hya3 => (intro w hSw; (try dsimp only at hSw); go_simp; try (with_reducible rfl))
          (try simp only [Act.put, List.getElem_toArray, List.getElem_cons_succ, List.getElem_cons_zero, List.setIfInBounds_toArray, List.set_cons_zero, List.set_cons_succ])
          refine wpAnyD_take (i := 4) (v := ?_) rfl (by kernel_rfl) (by kernel_rfl) (by kernel_rfl) (by kernel_rfl) (fun _ _ _ h => h) (Or.inl ⟨by rfl, ?hya4⟩) hHeld ?_
          case hya4 => (intro w hSw; (try dsimp only at hSw); go_simp; try (with_reducible rfl))
          (try simp only [Act.put, List.getElem_toArray, List.getElem_cons_succ, List.getElem_cons_zero, List.setIfInBounds_toArray, List.set_cons_zero, List.set_cons_succ])
          refine wpAnyD_take (i := 6) (v := ?_) rfl (by kernel_rfl) (by kernel_rfl) (by kernel_rfl) (by kernel_rfl) (fun _ _ _ h => h) (Or.inl ⟨by rfl, ?hya6⟩) hHeld ?_
          case hya6 => (intro w hSw; (try dsimp only at hSw); go_simp; try (with_reducible rfl))
          (try simp only [Act.put, List.getElem_toArray, List.getElem_cons_succ, List.getElem_cons_zero, List.setIfInBounds_toArray, List.set_cons_zero, List.set_cons_succ])
          refine wpAnyD_take (i := 7) (v := ?_) rfl (by kernel_rfl) (by kernel_rfl) (by kernel_rfl) (by kernel_rfl) (fun _ _ _ h => h) (Or.inl ⟨by rfl, ?hya7⟩) hHeld ?_
          case hya7 => (intro w hSw; (try dsimp only at hSw); go_simp; try (with_reducible rfl))
          (try simp only [Act.put, List.getElem_toArray, List.getElem_cons_succ, List.getElem_cons_zero, List.setIfInBounds_toArray, List.set_cons_zero, List.set_cons_succ])
          refine wpAnyD_step (i := 5) (by kernel_rfl) rfl (fun K hK9 => ?_)
          go_simp
          go_wp2_with fail
          refine (KO.out _).mono ?_
          rintro e u5 ⟨rfl, k5⟩
          refine hK9.out _ _ (HS.out _ (hHeld.1.trans k5)) (fun hHeld5 => ?_)
          clear hK9 K
          refine wpAnyD_step (i := 8) (by kernel_rfl) rfl (fun K hK9 => ?_)
          go_simp
          go_wp2_with fail
          refine (KF2.out _).mono ?_
          rintro e u8 ⟨rfl, k8⟩
          refine hK9.out _ _ (HS.out _ (hHeld5.1.trans k8)) (fun hHeld8 => ?_)
          clear hK9 K
          refine wpAnyD_take (i := 9) (v := ?_) rfl (by kernel_rfl) (by kernel_rfl) (by kernel_rfl) (by kernel_rfl) (fun _ _ _ h => h) (Or.inl ⟨by rfl, ?hyb9⟩) hHeld8 ?_
          case hyb9 => (intro w hSw; (try dsimp only at hSw); go_simp; try (with_reducible rfl))
          (try simp only [Act.put, List.getElem_toArray, List.getElem_cons_succ, List.getElem_cons_zero, List.setIfInBounds_toArray, List.set_cons_zero, List.set_cons_succ])
          refine wpAnyD_take (i := 10) (v := ?_) rfl (by kernel_rfl) (by kernel_rfl) (by kernel_rfl) (by kernel_rfl) (fun _ _ _ h => h) (Or.inl ⟨by rfl, ?hyb10⟩) hHeld8 ?_
          case hyb10 => (intro w hSw; (try dsimp only at hSw); go_simp; try (with_reducible rfl))
          (try simp only [Act.put, List.getElem_toArray, List.getElem_cons_succ, List.getElem_cons_zero, List.setIfInBounds_toArray, List.set_cons_zero, List.set_cons_succ])
          refine wpAnyD_step (i := 11) (by kernel_rfl) rfl (fun K hK9 => ?_)
          go_simp
          refine hK9.out _ _ (HS.out _ (hHeld8.1.alloc _ _)) (fun hHeld11 => ?_)
          clear hK9 K
          obtain ⟨v', w', hr, hM', hB', hF'⟩ := app_one (w.heap.size + 3) u8 lv _ (hM.kept hHeld8.1) d (Nat.le_trans hH hHeld8.1.below.size) (by rw [lst_length]; omega)
          obtain ⟨sa, sn, sc, rfl⟩ := hM'.form
          have HF9 : Hid (∀ x, w'.frozen? x = u8.frozen? x) := hF'
          clear hF'
          refine wpAnyD_late (i := 12) (by kernel_rfl) rfl rfl (fun K hK9 => ?_)
          rw [if_pos (by rfl)]
          refine oper_append_run _ _ _ rfl _ _ rfl rfl _ _ (hr _) ?_
          refine hK9.out _ _ ?_
          clear hK9 K
          (try simp only [Act.put, List.getElem_toArray, List.getElem_cons_succ, List.getElem_cons_zero, List.setIfInBounds_toArray, List.set_cons_zero, List.set_cons_succ])
          refine wpAnyD_late (i := 13) (by kernel_rfl) rfl rfl (fun K hK9 => ?_)
          go_simp
          refine hK9.out _ _ ?_
          clear hK9 K
          (try simp only [Act.put, List.getElem_toArray, List.getElem_cons_succ, List.getElem_cons_zero, List.setIfInBounds_toArray, List.set_cons_zero, List.set_cons_succ])
          obtain ⟨p0, p1, p2, p3⟩ := (hM4.bl hHeld8.1.bl).below hB' (by omega)
          have pf : w'.frozen? ⟨w.heap.size + 2, 3, none⟩ = false := (HF9.out _).trans ((hHeld8.1.frozen _).trans hf3)
          refine wpAnyD_late (i := 14) (by kernel_rfl) rfl rfl (fun K hK9 => ?_)
          go_simp
          refine hK9.out _ _ ?_
          clear hK9 K
          (try simp only [Act.put, List.getElem_toArray, List.getElem_cons_succ, List.getElem_cons_zero, List.setIfInBounds_toArray, List.set_cons_zero, List.set_cons_succ])
          refine wpAnyD_done (by kernel_rfl) ?_ _
          (try simp only [Act.put, List.getElem_toArray, List.getElem_cons_succ, List.getElem_cons_zero, List.setIfInBounds_toArray, List.set_cons_zero, List.set_cons_succ])
          have hM4n : M4 (w'.setCell ⟨w.heap.size + 2, 3, none⟩ (.slice sa sn sc)) (w.heap.size + 2) (.int .i64 rs) (.int .i64 cs) (.int .i64 n) (.slice sa sn sc) := M4.set3 ⟨p0, p1, p2, p3⟩ _
          have hMn : MR (w.heap.size + 3) (w'.setCell ⟨w.heap.size + 2, 3, none⟩ (.slice sa sn sc)) (.slice sa sn sc) (lst (i * cs + (j + 1)) f) := by
            rw [← Nat.add_assoc, ← lst_snoc, HFK.out]
            exact hM'.setOther (by simp) _
          have hGn : GrwS [w.heap.size + 2] X (w'.setCell ⟨w.heap.size + 2, 3, none⟩ (.slice sa sn sc)) := ((hG.kept hHeld8.1).bl (hB'.mono (by omega)) HF9.out).setCell (by simp) _
          have HN : Hid _ := hM4n
          have HN2 : Hid _ := hMn
          have HN3 : Hid _ := hGn
          clear hM4n hMn hGn
          go_wp2_with fail
          go_roundw
          case rel => exact ⟨j + 1, by omega, by go_num, HN3.out, _, HN.out, HN2.out⟩
          case measure => simp [intOf]; omega
        · obtain rfl : j = cs := by omega
          have HM : Hid (MR (w.heap.size + 3) wr lv (lst ((i + 1) * j) f)) := by
            show MR (w.heap.size + 3) wr lv (lst ((i + 1) * j) f)
            rw [Nat.succ_mul]; exact hM
          clear a0 a1 a2 a3 KF HCan
          go_wp2_with fail
          go_roundw
          case rel => exact ⟨i + 1, by omega, by go_num, hG, lv, hM4, HM.out⟩
          case measure => simp [intOf]; omega
    · obtain rfl : i = rs := by omega
      have hR' := hG.m4 hRs (by simp)
      have f1 : ∀ o, wr.frozen? ⟨w.heap.size + 1, o, none⟩ = false := fun o => (hG.frozen _).trans (hF1 o)
      obtain ⟨sa, sn, sc, rfl⟩ := hM.form
      have KCn := HCan.out _ _ hM
      obtain ⟨o0, o1, o2, o3⟩ := hM4
      have hK9 : Kept w wr := hK.grwS (by simp) hG
      clear hM KF HCan
      go_wp2_with (first | (go_at_call 58; refine KCn.mono ?_; rintro e w3 ⟨v3, rfl, hM3, k3⟩; obtain ⟨ta, tn, tc, rfl⟩ := hM3.form; have hr3 := hR'.bl k3.bl; have f3 : ∀ o, w3.frozen? ⟨w.heap.size + 1, o, none⟩ = false := fun o => (k3.frozen _).trans (f1 o); obtain ⟨p0, p1, p2, p3⟩ := res4 w3 _ _ _ _ _ hr3 (.int .i64 i) (.int .i64 cs) (.int .i64 n) (.slice ta tn tc); obtain ⟨r0, r1, r2, r3⟩ := hr3))
      have hsz : w.heap.size + 3 ≤ wr.heap.size := by have := hG.size; omega
      have hfin := (((hM3.setOther (p := ⟨w.heap.size + 1, 0, none⟩) (by simp; omega) (.int .i64 i)).setOther (p := ⟨w.heap.size + 1, 1, none⟩) (by simp; omega) (.int .i64 cs)).setOther (p := ⟨w.heap.size + 1, 2, none⟩) (by simp; omega) (.int .i64 n)).setOther (p := ⟨w.heap.size + 1, 3, none⟩) (by simp; omega) (.slice ta tn tc)
      refine bodyPost_ret (v := .agg #[.int .i64 i, .int .i64 cs, .int .i64 n, .slice ta tn tc]) (by simp [results, Try.results25, go_sem, *]) rfl ⟨.slice ta tn tc, rfl, hfin.mono (by omega), (((hK9.trans k3).setCell (by simp) _).setCell (by simp) _).setCell (by simp) _ |>.setCell (by simp) _⟩
end Go.Proofs.Ytcldcjchfagcoaa
