/- The document's Check of a set. -/
import Derived.Test.YtcjgdfnbjbboeaaWr36
namespace Go.Proofs.Ytcjgdfnbjbboeaa
open Go.ChangeShapes Go.WideShapes Go.ChangeAt Go.RowKit Go.Shelf
set_option linter.unusedVariables false
set_option linter.unusedSimpArgs false

set_option maxRecDepth 100000 in
set_option maxHeartbeats 8000000 in
theorem drcheck_no (r c n : Int) (a : Option Addr) (p : Nat) (L : List Int) (r' c' n' : Int) (a' : Option Addr) (p' : Nat) (L' : List Int) (w : World) (hX : Sl w (.slice a L.length p) L) (hY : Sl w (.slice a' L'.length p') L') (hF0 : ckF r c n L r' c' n' L' ≠ 0) :
    Calls Try.prog 28 #[sv8 r c n (.slice a L.length p) r' c' n' (.slice a' L'.length p')] w fun e w' => e = .returned (.tuple #[.int .i64 0, .int .i64 (ckF r c n L r' c' n' L')]) ∧ Kept w w' := by
  have hK : Kept w (w.alloc (.cells (sl8 r c n (.slice a L.length p) r' c' n' (.slice a' L'.length p')).toArray 26)) := (Kept.refl w).alloc _ _
  have hB := Bq.new w (sl8 r c n (.slice a L.length p) r' c' n' (.slice a' L'.length p')) 26
  obtain ⟨X, hXw⟩ : ∃ X, X = w.alloc (.cells (sl8 r c n (.slice a L.length p) r' c' n' (.slice a' L'.length p')).toArray 26) := ⟨_, rfl⟩
  rw [← hXw] at hK hB
  have K1 : Hid (∀ u, Kept w u → Calls Try.prog 68 #[.agg #[.int .i64 r, .int .i64 c, .int .i64 n, .slice a L.length p]] u fun e w' => e = .returned (.int .i64 (ckM r c n L)) ∧ Kept u w') := fun u k => rcheck_any r c n a p L u (hX.kept k)
  have K2 : Hid (∀ u, Kept w u → Calls Try.prog 68 #[.agg #[.int .i64 r', .int .i64 c', .int .i64 n', .slice a' L'.length p']] u fun e w' => e = .returned (.int .i64 (ckM r' c' n' L')) ∧ Kept u w') := fun u k => rcheck_any r' c' n' a' p' L' u (hY.kept k)
  obtain ⟨F, hF⟩ : ∃ F, ckF r c n L r' c' n' L' = F := ⟨_, rfl⟩
  rw [hF] at hF0 ⊢
  unfold ckF at hF
  generalize ckM r c n L = q at *
  generalize ckM r' c' n' L' = q' at *
  generalize L.length = l at *
  generalize L'.length = l' at *
  have HF := hidq hF
  have HF0 := hidq hF0
  clear hX hY hF hF0
  go_enter Try.func28, Try.ntmps28
  go_upto_region 1 with fail
  rw [← hXw]
  clear hXw
  have c0 := hB.c 0 _ rfl
  have c1 := hB.c 1 _ rfl
  have c2 := hB.c 2 _ rfl
  have c3 := hB.c 3 _ rfl
  go_upto_region 2 with (first | (go_at_call 68; refine (K1.out _ hK).mono ?_; rintro e w1 ⟨rfl, k1⟩))
  clear c0 c1 c2 c3 K1
  have hB1 := hB.kept k1
  have hK1 := hK.trans k1
  clear hB hK k1
  by_cases hq : q = 0
  · have c4 := hB1.c 4 _ rfl
    have c5 := hB1.c 5 _ rfl
    have c6 := hB1.c 6 _ rfl
    have c7 := hB1.c 7 _ rfl
    subst hq
    go_upto_region 4 with (first | (go_at_call 68; refine (K2.out _ hK1).mono ?_; rintro e w2 ⟨rfl, k2⟩))
    clear c4 c5 c6 c7
    have hB2 := hB1.kept k2
    have hK2 := hK1.trans k2
    clear hB1 hK1 k2 K2
    by_cases hq' : q' = 0
    · subst hq'
      have c0 := hB2.c 0 _ rfl
      have c2 := hB2.c 2 _ rfl
      have c4 := hB2.c 4 _ rfl
      have c6 := hB2.c 6 _ rfl
      by_cases hn : n = n'
      · subst hn
        by_cases hr : r = r'
        · exact absurd (by rw [← HF.out]; simp [hr]) HF0.out
        · go_wp2
          exact bodyPost_ret (v := .tuple #[.int .i64 0, .int .i64 4]) (by simp [results, Try.results28, go_sem, *]) rfl ⟨by rw [← HF.out]; simp [hr], hK2⟩
      · go_wp2
        exact bodyPost_ret (v := .tuple #[.int .i64 0, .int .i64 3]) (by simp [results, Try.results28, go_sem, *]) rfl ⟨by rw [← HF.out]; simp [hn], hK2⟩
    · go_wp2
      exact bodyPost_ret (v := .tuple #[.int .i64 0, .int .i64 q']) (by simp [results, Try.results28, go_sem, *]) rfl ⟨by rw [← HF.out]; simp [hq'], hK2⟩
  · go_wp2
    exact bodyPost_ret (v := .tuple #[.int .i64 0, .int .i64 q]) (by simp [results, Try.results28, go_sem, *]) rfl ⟨by rw [← HF.out]; simp [hq], hK1⟩

set_option maxRecDepth 100000 in
set_option maxHeartbeats 8000000 in
theorem drcheck_ok (R C C' : Nat) (wd : Int) (M N : List Int) (b off cap b' off' cap' l l' : Nat) (w : World) (hR4 : R ≤ 4096)
    (K1 : Hid (∀ u, Kept w u → Calls Try.prog 68 #[.agg #[.int .i64 R, .int .i64 C, .int .i64 wd, .slice (some ⟨b, off, none⟩) l cap]] u fun e w' => e = .returned (.int .i64 0) ∧ Kept u w'))
    (K2 : Hid (∀ u, Kept w u → Calls Try.prog 68 #[.agg #[.int .i64 R, .int .i64 C', .int .i64 wd, .slice (some ⟨b', off', none⟩) l' cap']] u fun e w' => e = .returned (.int .i64 0) ∧ Kept u w'))
    (KC : Hid (∀ (k : Nat) (u : World), k < R → Kept w u → Calls Try.prog 29 #[.agg #[.int .i64 R, .int .i64 C, .int .i64 wd, .slice (some ⟨b, off, none⟩) l cap], .int .i64 k] u fun e w' => ∃ g cp, e = .returned (.agg #[.int .i64 1, .int .i64 C, .int .i64 wd, .slice (some ⟨g, 0, none⟩) C cp]) ∧ Own w' g cp (bpt M (k * C) C) ∧ Kept u w'))
    (KC' : Hid (∀ (k : Nat) (u : World), k < R → Kept w u → Calls Try.prog 29 #[.agg #[.int .i64 R, .int .i64 C', .int .i64 wd, .slice (some ⟨b', off', none⟩) l' cap'], .int .i64 k] u fun e w' => ∃ g cp, e = .returned (.agg #[.int .i64 1, .int .i64 C', .int .i64 wd, .slice (some ⟨g, 0, none⟩) C' cp]) ∧ Own w' g cp (bpt N (k * C') C') ∧ Kept u w'))
    (KS : Hid (∀ (k : Nat) (u : World) (g cp : Nat), k < R → Own u g cp (bpt M (k * C) C) → Calls Try.prog 69 #[.agg #[.int .i64 1, .int .i64 C, .int .i64 wd, .slice (some ⟨g, 0, none⟩) C cp]] u fun e w' => ∃ x, e = .returned (.tuple #[.int .i64 x, .int .i64 (stp wd (bpt M (k * C) C) 0).2]) ∧ Kept u w'))
    (KS' : Hid (∀ (k : Nat) (u : World) (g cp : Nat), k < R → Own u g cp (bpt N (k * C') C') → Calls Try.prog 69 #[.agg #[.int .i64 1, .int .i64 C', .int .i64 wd, .slice (some ⟨g, 0, none⟩) C' cp]] u fun e w' => ∃ x, e = .returned (.tuple #[.int .i64 x, .int .i64 (stp wd (bpt N (k * C') C') 0).2]) ∧ Kept u w')) :
    Calls Try.prog 28 #[sv8 R C wd (.slice (some ⟨b, off, none⟩) l cap) R C' wd (.slice (some ⟨b', off', none⟩) l' cap')] w fun e w' => ∃ a q, e = .returned (.tuple #[.int .i64 a, .int .i64 q]) ∧ Ans R (rwst M N C C' wd) a q ∧ Kept w w' := by
  have hK : Kept w (w.alloc (.cells (sl8 R C wd (.slice (some ⟨b, off, none⟩) l cap) R C' wd (.slice (some ⟨b', off', none⟩) l' cap')).toArray 26)) := (Kept.refl w).alloc _ _
  have hB := Bq.new w (sl8 R C wd (.slice (some ⟨b, off, none⟩) l cap) R C' wd (.slice (some ⟨b', off', none⟩) l' cap')) 26
  obtain ⟨X, hXw⟩ : ∃ X, X = w.alloc (.cells (sl8 R C wd (.slice (some ⟨b, off, none⟩) l cap) R C' wd (.slice (some ⟨b', off', none⟩) l' cap')).toArray 26) := ⟨_, rfl⟩
  rw [← hXw] at hK hB
  have ee1 : ((R : Int) == (R : Int)) = true := by simp
  have ee2 : (wd == wd) = true := by simp
  go_enter Try.func28, Try.ntmps28
  go_upto_region 1 with fail
  rw [← hXw]
  clear hXw
  have c0 := hB.c 0 _ rfl
  have c1 := hB.c 1 _ rfl
  have c2 := hB.c 2 _ rfl
  have c3 := hB.c 3 _ rfl
  go_upto_region 2 with (first | (go_at_call 68; refine (K1.out _ hK).mono ?_; rintro e w1 ⟨rfl, k1⟩))
  clear c0 c1 c2 c3 K1
  have hB1 := hB.kept k1
  have hK1 := hK.trans k1
  clear hB hK k1
  have c4 := hB1.c 4 _ rfl
  have c5 := hB1.c 5 _ rfl
  have c6 := hB1.c 6 _ rfl
  have c7 := hB1.c 7 _ rfl
  go_upto_region 4 with (first | (go_at_call 68; refine (K2.out _ hK1).mono ?_; rintro e w2 ⟨rfl, k2⟩))
  clear c4 c5 c6 c7
  have hB2 := hB1.kept k2
  have hK2 := hK1.trans k2
  clear hB1 hK1 k2 K2
  have c0 := hB2.c 0 _ rfl
  have c2 := hB2.c 2 _ rfl
  have c4 := hB2.c 4 _ rfl
  have c6 := hB2.c 6 _ rfl
  go_wp2_with fail
  clear c0 c2 c4 c6
  go_loopw [5] (fun iv wr => ∃ (k : Nat), k ≤ R ∧ iv = .int .i64 k ∧ (∀ j, j < k → rwst M N C C' wd j = 0) ∧ Kept w2 wr) (fun iv _ => R - (intOf iv).toNat)
  case atStart => exact ⟨0, Nat.zero_le _, rfl, fun j hj => by omega, Kept.refl _⟩
  case round =>
    obtain ⟨k, hk, rfl, hall, hkr⟩ := hrel
    have hBr := hB2.kept hkr
    have hKr := hK2.trans hkr
    have c0 := hBr.c 0 _ rfl
    have HALL := hidq hall
    clear hall
    by_cases hlt : k < R
    · have b4 : (k : Int) < (R : Int) := by omega
      have z1 : IntKind.i64.wrap ((k : Int) + 1) = (k : Int) + 1 := by rw [wrap_i64]; omega
      obtain ⟨E0, hE0⟩ : ∃ E, (stp wd (bpt M (k * C) C) 0).2 = E := ⟨_, rfl⟩
      obtain ⟨E1, hE1⟩ : ∃ E, (stp wd (bpt N (k * C') C') 0).2 = E := ⟨_, rfl⟩
      have HE : Hid (rwst M N C C' wd k = e2 E0 E1) := by show _ = _; unfold rwst; rw [hE0, hE1]
      have KSk : Hid (∀ (u : World) (g cp : Nat), Own u g cp (bpt M (k * C) C) → Calls Try.prog 69 #[.agg #[.int .i64 1, .int .i64 C, .int .i64 wd, .slice (some ⟨g, 0, none⟩) C cp]] u fun e w' => ∃ x, e = .returned (.tuple #[.int .i64 x, .int .i64 E0]) ∧ Kept u w') := fun u g cp h => by rw [← hE0]; exact KS.out k u g cp hlt h
      have KSk' : Hid (∀ (u : World) (g cp : Nat), Own u g cp (bpt N (k * C') C') → Calls Try.prog 69 #[.agg #[.int .i64 1, .int .i64 C', .int .i64 wd, .slice (some ⟨g, 0, none⟩) C' cp]] u fun e w' => ∃ x, e = .returned (.tuple #[.int .i64 x, .int .i64 E1]) ∧ Kept u w') := fun u g cp h => by rw [← hE1]; exact KS'.out k u g cp hlt h
      clear hE0 hE1
      have c1 := hBr.c 1 _ rfl
      have c2 := hBr.c 2 _ rfl
      have c3 := hBr.c 3 _ rfl
      go_upto_region 14 with (first | (go_at_call 29; refine (KC.out k _ hlt hKr).mono ?_; rintro e w3 ⟨g, cp, rfl, ho, k3⟩) | (go_at_call 69; refine (KSk.out _ _ _ ho).mono ?_; rintro e w4 ⟨x, rfl, k4⟩))
      clear c0 c1 c2 c3
      have hB4 := hBr.kept (k3.trans k4)
      have hK4 := hKr.trans (k3.trans k4)
      have hk4 := hkr.trans (k3.trans k4)
      clear k3 k4 ho
      by_cases hz : E0 = 0
      · have HZ := hidq hz
        subst hz
        have c4 := hB4.c 4 _ rfl
        have c5 := hB4.c 5 _ rfl
        have c6 := hB4.c 6 _ rfl
        have c7 := hB4.c 7 _ rfl
        go_upto_region 16 with (first | (go_at_call 29; refine (KC'.out k _ hlt hK4).mono ?_; rintro e w5 ⟨g', cp', rfl, ho', k5⟩) | (go_at_call 69; refine (KSk'.out _ _ _ ho').mono ?_; rintro e w6 ⟨x', rfl, k6⟩))
        clear c4 c5 c6 c7
        have hk6 := hk4.trans (k5.trans k6)
        have hK6 := hK4.trans (k5.trans k6)
        by_cases hz' : E1 = 0
        · have HZ' := hidq hz'
          subst hz'
          go_wp2_with fail
          go_roundw
          case rel => exact ⟨k + 1, by omega, by go_num, fun j hj => (by
            by_cases e : j = k
            · rw [e, HE.out]; rfl
            · exact HALL.out j (by omega)), hk6⟩
          case measure => simp [intOf]; omega
        · go_wp2
          exact bodyPost_ret (v := .tuple #[.int .i64 (k : Int), .int .i64 E1]) (by simp [results, Try.results28, go_sem, *]) rfl ⟨_, _, rfl, .inl ⟨k, hlt, HALL.out, by rw [HE.out]; simpa [e2] using hz', rfl, by rw [HE.out]; simp [e2]⟩, hK6⟩
      · go_wp2
        exact bodyPost_ret (v := .tuple #[.int .i64 (k : Int), .int .i64 E0]) (by simp [results, Try.results28, go_sem, *]) rfl ⟨_, _, rfl, .inl ⟨k, hlt, HALL.out, by rw [HE.out]; simp [e2, hz], rfl, by rw [HE.out]; simp [e2, hz]⟩, hK4⟩
    · obtain rfl : k = R := by omega
      go_wp2
      exact bodyPost_ret (v := .tuple #[.int .i64 0, .int .i64 0]) (by simp [results, Try.results28, go_sem, *]) rfl ⟨_, _, rfl, .inr ⟨HALL.out, rfl, rfl⟩, hKr⟩

theorem rgl_bpt {L : List Int} (h : Rgl L) (f k : Nat) (hf : f + k ≤ L.length) : Rgl (bpt L f k) := fun i hi => by
  rw [bpt_len L f k hf] at hi
  have := h (f + i) (by omega)
  unfold bpt
  rw [List.getD_eq_getElem?_getD] at this ⊢
  rwa [List.getElem?_take_of_lt hi, List.getElem?_drop]

theorem drcheck_any (r c n : Int) (a : Option Addr) (p : Nat) (L : List Int) (r' c' n' : Int) (a' : Option Addr) (p' : Nat) (L' : List Int) (hg : Rgl L) (hg' : Rgl L') (w : World) (hX : Sl w (.slice a L.length p) L) (hY : Sl w (.slice a' L'.length p') L') :
    Calls Try.prog 28 #[sv8 r c n (.slice a L.length p) r' c' n' (.slice a' L'.length p')] w fun e w' => ∃ x q, e = .returned (.tuple #[.int .i64 x, .int .i64 q]) ∧ DAns r c n L r' c' n' L' x q ∧ Kept w w' := by
  by_cases hF : ckF r c n L r' c' n' L' = 0
  · obtain ⟨h1, h2, rfl, rfl⟩ := ckf_parts hF
    have h1' := h1
    have h2' := h2
    obtain ⟨R, C, rfl, rfl, hR, hC, hRC, hl, hn, ha⟩ := ck_form _ _ _ _ h1
    obtain ⟨R', C', e1, rfl, hR', hC', hRC', hl', hn', ha'⟩ := ck_form _ _ _ _ h2
    obtain rfl : R = R' := by omega
    have hX' := hX
    have hY' := hY
    obtain ⟨ao, cp, e3, hc1, hc2, hrd⟩ := hX
    obtain ⟨ao', cp', e3', hc1', hc2', hrd'⟩ := hY
    cases e3
    cases e3'
    have hRCp : 0 < R * C := Nat.mul_pos hR hC
    have hRCp' : 0 < R * C' := Nat.mul_pos hR hC'
    obtain ⟨b, off, rfl, hb, hr⟩ := hrd (by intro e; rw [e] at hl; simp at hl; omega)
    obtain ⟨b', off', rfl, hb', hr'⟩ := hrd' (by intro e; rw [e] at hl'; simp at hl'; omega)
    have hk1 : ∀ k, k < R → k * C + C ≤ R * C := fun k hk => by
      have h1 : (k + 1) * C ≤ R * C := Nat.mul_le_mul_right _ hk
      rwa [Nat.succ_mul] at h1
    have hk2 : ∀ k, k < R → k * C' + C' ≤ R * C' := fun k hk => by
      have h1 : (k + 1) * C' ≤ R * C' := Nat.mul_le_mul_right _ hk
      rwa [Nat.succ_mul] at h1
    have hR4 : R ≤ 4096 := Nat.le_trans (Nat.le_mul_of_pos_right R hC) hRC
    have := drcheck_ok R C C' n L L' b off p b' off' p' L.length L'.length w hR4
      (fun u k => by
        have := rcheck_any R C n _ p L u (hX'.kept k)
        rwa [h1'] at this)
      (fun u k => by
        have := rcheck_any R C' n _ p' L' u (hY'.kept k)
        rwa [h2'] at this)
      (fun k u hk ku => (cut_any R C k n hk hC (by omega) L hl b off L.length p hl hc1 u (Nat.lt_of_lt_of_le hb ku.below.size) (hr.kept hb ku) hc2).mono fun e w' ⟨g, cp, x1, x2, x3, x4⟩ => ⟨g, cp, x1, x3, x4⟩)
      (fun k u hk ku => (cut_any R C' k n hk hC' (by omega) L' hl' b' off' L'.length p' hl' hc1' u (Nat.lt_of_lt_of_le hb' ku.below.size) (hr'.kept hb' ku) hc2').mono fun e w' ⟨g, cp, x1, x2, x3, x4⟩ => ⟨g, cp, x1, x3, x4⟩)
      (fun k u g cp hk ho => by
        have hbl := bpt_len L (k * C) C (by rw [hl]; exact hk1 k hk)
        have hC4 := hk1 k hk
        have := stop_ok 1 C n g 0 cp (bpt L (k * C) C) (rgl_bpt hg _ _ (by rw [hl]; exact hC4)) (by omega) u ho.lt ho.reads
        rw [hbl] at this
        exact this.mono fun e w' ⟨h3, h4⟩ => ⟨_, h3, h4⟩)
      (fun k u g cp hk ho => by
        have hbl := bpt_len L' (k * C') C' (by rw [hl']; exact hk2 k hk)
        have hC4 := hk2 k hk
        have := stop_ok 1 C' n g 0 cp (bpt L' (k * C') C') (rgl_bpt hg' _ _ (by rw [hl']; exact hC4)) (by omega) u ho.lt ho.reads
        rw [hbl] at this
        exact this.mono fun e w' ⟨h3, h4⟩ => ⟨_, h3, h4⟩)
    refine this.mono ?_
    rintro e w' ⟨x, q, rfl, h3, h4⟩
    exact ⟨x, q, rfl, .inr ⟨hF, h3⟩, h4⟩
  · refine (drcheck_no r c n a p L r' c' n' a' p' L' w hX hY hF).mono ?_
    rintro e w' ⟨rfl, h4⟩
    exact ⟨_, _, rfl, .inl ⟨hF, rfl, rfl⟩, h4⟩
end Go.Proofs.Ytcjgdfnbjbboeaa
