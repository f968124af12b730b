/- Check of package data at any set; the document's Check. The document's Check of a set. DataChecks. -/
import Derived.Test.YthjcofdcbinliaaDCx
import Derived.Test.YthjcofdcbinliaaDS1
import Derived.Test.YthjcofdcbinliaaGP
namespace Go.Proofs.Ythjcofdcbinliaa
open Go.ChangeShapes Go.WideShapes Go.ChangeAt Go.RowKit Go.Shelf
set_option linter.unusedVariables false
set_option linter.unusedSimpArgs false

theorem ck_form (r c n : Int) (L : List Int) (h : ckM r c n L = 0) : ∃ R C : Nat, r = R ∧ c = C ∧ 0 < R ∧ 0 < C ∧ R * C ≤ 4096 ∧ L.length = R * C ∧ (n = 64 ∨ n = 32) ∧ (L.all fun b => val b n) = true := by
  have hS : ckS r c n = 0 := by
    unfold ckM at h
    split at h
    · rename_i h1; exact absurd h h1
    · rename_i h1; exact Classical.not_not.1 h1
  unfold ckM at h
  rw [if_neg (by rw [hS]; simp)] at h
  unfold ckS at hS
  by_cases hn : n = 64 ∨ n = 32
  · rw [if_neg (fun k => k hn)] at hS
    by_cases hm : min r c < 1
    · rw [if_pos hm] at hS; omega
    · rw [if_neg hm] at hS
      unfold ckR at hS
      by_cases hr : Int.tdiv 4096 c < r
      · rw [if_pos hr] at hS; omega
      · obtain ⟨R, rfl⟩ : ∃ R : Nat, r = R := ⟨r.toNat, by omega⟩
        obtain ⟨C, rfl⟩ : ∃ C : Nat, c = C := ⟨c.toNat, by omega⟩
        have hC : 0 < C := by omega
        rw [Int.tdiv_eq_ediv_of_nonneg (by omega), show ((4096 : Int) / (C : Int)) = ((4096 / C : Nat) : Int) from rfl] at hr
        have h4 : R ≤ 4096 / C := by omega
        have h5 := (Nat.le_div_iff_mul_le hC).1 h4
        by_cases hl : (L.length : Int) ≠ (R : Int) * (C : Int)
        · rw [if_pos hl] at h; omega
        · rw [if_neg hl] at h
          by_cases ha : (L.all fun b => val b n) = true
          · refine ⟨R, C, rfl, rfl, by omega, hC, h5, ?_, hn, ha⟩
            have : (L.length : Int) = ((R * C : Nat) : Int) := by rw [Int.natCast_mul]; exact Classical.not_not.1 hl
            omega
          · rw [if_neg ha] at h; omega
  · rw [if_pos hn] at hS; omega
theorem ck_row (R C : Nat) (n : Int) (M : List Int) (h : ckM R C n M = 0) (k : Nat) (hk : k < R) : ckM 1 C n (bpt M (k * C) C) = 0 := by
  obtain ⟨R', C', e1, e2, hR, hC, hRC, hl, hn, ha⟩ := ck_form _ _ _ _ h
  obtain rfl : R = R' := by omega
  obtain rfl : C = C' := by omega
  have h1 : (k + 1) * C ≤ R * C := Nat.mul_le_mul_right _ hk
  have h2 : (k + 1) * C = k * C + C := by rw [Nat.succ_mul]
  have hbl : (bpt M (k * C) C).length = C := bpt_len M _ _ (by omega)
  have hC4 : C ≤ 4096 := by have := Nat.le_mul_of_pos_left C hR; omega
  have hS : ckS 1 C n = 0 := by
    unfold ckS
    rw [if_neg (fun k => k hn), if_neg (by omega)]
    unfold ckR
    rw [if_neg]
    rw [Int.tdiv_eq_ediv_of_nonneg (by omega), show ((4096 : Int) / (C : Int)) = ((4096 / C : Nat) : Int) from rfl]
    have : 1 ≤ 4096 / C := (Nat.le_div_iff_mul_le hC).2 (by omega)
    omega
  unfold ckM
  rw [if_neg (by rw [hS]; simp), hbl, if_neg (by omega), if_pos]
  rw [List.all_eq_true] at ha ⊢
  exact fun x hx => ha x (List.mem_of_mem_drop (List.mem_of_mem_take hx))
theorem ckf_parts {r c n : Int} {L : List Int} {r' c' n' : Int} {L' : List Int} (h : ckF r c n L r' c' n' L' = 0) : ckM r c n L = 0 ∧ ckM r' c' n' L' = 0 ∧ n = n' ∧ r = r' := by
  unfold ckF at h
  by_cases h1 : ckM r c n L = 0
  · rw [if_neg (fun k => k h1)] at h
    by_cases h2 : ckM r' c' n' L' = 0
    · rw [if_neg (fun k => k h2)] at h
      by_cases h3 : n = n'
      · rw [if_neg (fun k => k h3)] at h
        by_cases h4 : r = r'
        · exact ⟨h1, h2, h3, h4⟩
        · rw [if_pos h4] at h; omega
      · rw [if_pos h3] at h; omega
    · rw [if_pos h2] at h; exact absurd h h2
  · rw [if_pos h1] at h; exact absurd h h1
/-- what Check answers of any set -/
def DAns (r c n : Int) (L : List Int) (r' c' n' : Int) (L' : List Int) (a q : Int) : Prop := (ckF r c n L r' c' n' L' ≠ 0 ∧ a = 0 ∧ q = ckF r c n L r' c' n' L') ∨ (ckF r c n L r' c' n' L' = 0 ∧ Ans r.toNat (rwst L L' c.toNat c'.toNat n) a q)
theorem DAns.uniq {r c n : Int} {L : List Int} {r' c' n' : Int} {L' : List Int} {a q a' q' : Int} (h : DAns r c n L r' c' n' L' a q) (h' : DAns r c n L r' c' n' L' a' q') : a = a' ∧ q = q' := by
  rcases h with ⟨h1, rfl, rfl⟩ | ⟨h1, h2⟩
  · rcases h' with ⟨g1, rfl, rfl⟩ | ⟨g1, g2⟩
    · exact ⟨rfl, rfl⟩
    · exact absurd g1 h1
  · rcases h' with ⟨g1, rfl, rfl⟩ | ⟨g1, g2⟩
    · exact absurd h1 g1
    · exact h2.uniq g2

set_option maxRecDepth 100000 in
set_option maxHeartbeats 8000000 in
theorem dcheck_no (r c n : Int) (a : Option Addr) (p : Nat) (L : List Int) (r' c' n' : Int) (a' : Option Addr) (p' : Nat) (L' : List Int) (w : World) (hX : Sl w (.slice a L.length p) L) (hY : Sl w (.slice a' L'.length p') L') (hF : ckF r c n L r' c' n' L' ≠ 0) :
    Calls Try.prog 13 #[sv8 r c n (.slice a L.length p) r' c' n' (.slice a' L'.length p')] w fun e w' => e = .returned (.tuple #[.int .i64 0, .int .i64 (ckF r c n L r' c' n' L')]) ∧ Kept w w' := by
  obtain ⟨X, hXw⟩ : ∃ X, X = ((w.alloc (.cells (sl8 r c n (.slice a L.length p) r' c' n' (.slice a' L'.length p')).toArray 33)).alloc (.cells #[.int .i64 0] 3)).alloc (.cells #[.int .i64 0] 24) := ⟨_, rfl⟩
  have hK : Kept w X := by rw [hXw]; exact (((Kept.refl w).alloc _ _).alloc _ _).alloc _ _
  have hB : Bq X w.heap.size (sl8 r c n (.slice a L.length p) r' c' n' (.slice a' L'.length p')) := by rw [hXw]; exact ((Bq.new w _ 33).kept ((Kept.refl _).alloc _ _)).kept ((Kept.refl _).alloc _ _)
  have hx1 : Boxed X (w.heap.size + 1) 3 (.int .i64 0) := by
    have := (Boxed.new (w.alloc (.cells (sl8 r c n (.slice a L.length p) r' c' n' (.slice a' L'.length p')).toArray 33)) 3 (.int .i64 0)).alloc (.cells #[.int .i64 0] 24)
    rw [hXw]; simpa using this
  have hx2 : Boxed X (w.heap.size + 2) 24 (.int .i64 0) := by
    have := Boxed.new ((w.alloc (.cells (sl8 r c n (.slice a L.length p) r' c' n' (.slice a' L'.length p')).toArray 33)).alloc (.cells #[.int .i64 0] 3)) 24 (.int .i64 0)
    rw [hXw]; simpa using this
  have KC : Hid (∀ u, Kept w u → Calls Try.prog 36 #[sv8 r c n (.slice a L.length p) r' c' n' (.slice a' L'.length p')] u fun e w' => e = .returned (.int .i64 (ckF r c n L r' c' n' L')) ∧ Kept u w') := fun u k => checkForm_any r c n a p L r' c' n' a' p' L' u (hX.kept k) (hY.kept k)
  generalize ckF r c n L r' c' n' L' = F at *
  clear hX hY
  generalize L.length = l at *
  generalize L'.length = l' at *
  have hF2 : (F == 0) = false := by simpa using hF
  go_enter Try.func13, Try.ntmps13
  go_upto_region 1 with fail
  rw [← hXw]
  clear hXw
  have c0 := hB.c 0 _ rfl
  have c1 := hB.c 1 _ rfl
  have c2 := hB.c 2 _ rfl
  have c3 := hB.c 3 _ rfl
  have c4 := hB.c 4 _ rfl
  have c5 := hB.c 5 _ rfl
  have c6 := hB.c 6 _ rfl
  have c7 := hB.c 7 _ rfl
  go_upto_region 2 with (first | (go_at_call 36; refine (KC.out _ hK).mono ?_; rintro e w1 ⟨rfl, k1⟩))
  clear c0 c1 c2 c3 c4 c5 c6 c7 KC
  have u1 := boxed_on hx1 k1.grn
  have u2 := boxed_on hx2 k1.grn
  have q1 := u1.cell
  have q2 := u2.cell
  have f1 := u1.frozen
  have f2 := u2.frozen
  go_wp2
  have v1 := ((u1.set (.int .i64 0)).other (B' := w.heap.size + 2) (by omega) (.int .i64 F)).cell
  have v2 := ((u2.other (B' := w.heap.size + 1) (by omega) (.int .i64 0)).set (.int .i64 F)).cell
  exact bodyPost_ret (v := .tuple #[.int .i64 0, .int .i64 F]) (by simp [results, Try.f13, go_sem, v1, v2]) rfl ⟨rfl, ((hK.trans k1).setCell (by show w.heap.size ≤ w.heap.size + 1; omega) _).setCell (by show w.heap.size ≤ w.heap.size + 1 + 1; omega) _⟩

theorem dcheck_any (r c n : Int) (a : Option Addr) (p : Nat) (L : List Int) (r' c' n' : Int) (a' : Option Addr) (p' : Nat) (L' : List Int) (w : World) (hX : Sl w (.slice a L.length p) L) (hY : Sl w (.slice a' L'.length p') L') :
    Calls Try.prog 13 #[sv8 r c n (.slice a L.length p) r' c' n' (.slice a' L'.length p')] w fun e w' => ∃ x q, e = .returned (.tuple #[.int .i64 x, .int .i64 q]) ∧ DAns r c n L r' c' n' L' x q ∧ Below w.heap.size w w' := by
  by_cases hF : ckF r c n L r' c' n' L' = 0
  · obtain ⟨h1, h2, rfl, rfl⟩ := ckf_parts hF
    obtain ⟨R, C, rfl, rfl, hR, hC, hRC, hl, hn, ha⟩ := ck_form _ _ _ _ h1
    obtain ⟨R', C', e1, rfl, hR', hC', hRC', hl', hn', ha'⟩ := ck_form _ _ _ _ h2
    obtain rfl : R = R' := by omega
    obtain ⟨ao, cp, e3, hc1, hc2, hrd⟩ := hX
    obtain ⟨ao', cp', e3', hc1', hc2', hrd'⟩ := hY
    cases e3
    cases e3'
    have hRCp : 0 < R * C := Nat.mul_pos hR hC
    have hRCp' : 0 < R * C' := Nat.mul_pos hR hC'
    obtain ⟨b, off, rfl, hb, hr⟩ := hrd (by intro e; rw [e] at hl; simp at hl; omega)
    obtain ⟨b', off', rfl, hb', hr'⟩ := hrd' (by intro e; rw [e] at hl'; simp at hl'; omega)
    have hX : Sl w (.slice (some ⟨b, off, none⟩) L.length p) L := ⟨_, _, rfl, hc1, hc2, fun _ => ⟨_, _, rfl, hb, hr⟩⟩
    have hY : Sl w (.slice (some ⟨b', off', none⟩) L'.length p') L' := ⟨_, _, rfl, hc1', hc2', fun _ => ⟨_, _, rfl, hb', hr'⟩⟩
    have hk1 : ∀ k, k < R → k * C + C ≤ R * C := fun k hk => by
      have h1 : (k + 1) * C ≤ R * C := Nat.mul_le_mul_right _ hk
      rwa [Nat.succ_mul] at h1
    have hk2 : ∀ k, k < R → k * C' + C' ≤ R * C' := fun k hk => by
      have h1 : (k + 1) * C' ≤ R * C' := Nat.mul_le_mul_right _ hk
      rwa [Nat.succ_mul] at h1
    have := dcheck_ok R C C' n L L' hR hC hC' hRC hRC' hl hl' hF b off p b' off' p' w (by omega) (by omega) hX hY
      (fun k u hk hu => by
        have hbl := bpt_len L (k * C) C (by rw [hl]; exact hk1 k hk)
        have hru : Reads u b (off + k * C) (bpt L (k * C) C) := bpt_reads (fun i hi => (hu.cell hb).trans (hr i hi)) _ _ (by rw [hl]; exact hk1 k hk)
        have hC4 := hk1 k hk
        have hbu : b < u.heap.size := Nat.lt_of_lt_of_le hb hu.size
        have := finite_ok 1 C n b (off + k * C) C (bpt L (k * C) C) (ck_row R C n L h1 k hk) (by omega) u hbu hru ⟨_, _, by rw [hbl], by rw [hbl]; exact Nat.le_refl _, by simp [maxLen]; omega, fun _ => ⟨_, _, rfl, hbu, hru⟩⟩
        rw [hbl] at this
        exact this.mono fun e w' ⟨h3, h4⟩ => ⟨_, h3, h4⟩)
      (fun k u hk hu => by
        have hbl := bpt_len L' (k * C') C' (by rw [hl']; exact hk2 k hk)
        have hru : Reads u b' (off' + k * C') (bpt L' (k * C') C') := bpt_reads (fun i hi => (hu.cell hb').trans (hr' i hi)) _ _ (by rw [hl']; exact hk2 k hk)
        have hC4 := hk2 k hk
        have hbu : b' < u.heap.size := Nat.lt_of_lt_of_le hb' hu.size
        have := finite_ok 1 C' n b' (off' + k * C') C' (bpt L' (k * C') C') (ck_row R C' n L' h2 k hk) (by omega) u hbu hru ⟨_, _, by rw [hbl], by rw [hbl]; exact Nat.le_refl _, by simp [maxLen]; omega, fun _ => ⟨_, _, rfl, hbu, hru⟩⟩
        rw [hbl] at this
        exact this.mono fun e w' ⟨h3, h4⟩ => ⟨_, h3, h4⟩)
    rw [hl, hl']
    refine this.mono ?_
    rintro e w' ⟨x, q, rfl, h3, h4⟩
    exact ⟨x, q, rfl, .inr ⟨hF, h3⟩, h4⟩
  · refine (dcheck_no r c n a p L r' c' n' a' p' L' w hX hY hF).mono ?_
    rintro e w' ⟨rfl, h4⟩
    exact ⟨_, _, rfl, .inl ⟨hF, rfl, rfl⟩, h4.below⟩
end Go.Proofs.Ythjcofdcbinliaa

namespace Go.Proofs.Ythjcofdcbinliaa
open Go.ChangeShapes Go.WideShapes Go.ChangeAt Go.RowKit Go.Shelf
set_option linter.unusedVariables false
set_option linter.unusedSimpArgs false

set_option maxRecDepth 100000 in
set_option maxHeartbeats 8000000 in
theorem drcheck_no (r c n : Int) (a : Option Addr) (p : Nat) (L : List Int) (r' c' n' : Int) (a' : Option Addr) (p' : Nat) (L' : List Int) (w : World) (hX : Sl w (.slice a L.length p) L) (hY : Sl w (.slice a' L'.length p') L') (hF0 : ckF r c n L r' c' n' L' ≠ 0) :
    Calls Try.prog 14 #[sv8 r c n (.slice a L.length p) r' c' n' (.slice a' L'.length p')] w fun e w' => e = .returned (.tuple #[.int .i64 0, .int .i64 (ckF r c n L r' c' n' L')]) ∧ Kept w w' := by
  have hK : Kept w (w.alloc (.cells (sl8 r c n (.slice a L.length p) r' c' n' (.slice a' L'.length p')).toArray 33)) := (Kept.refl w).alloc _ _
  have hB := Bq.new w (sl8 r c n (.slice a L.length p) r' c' n' (.slice a' L'.length p')) 33
  obtain ⟨X, hXw⟩ : ∃ X, X = w.alloc (.cells (sl8 r c n (.slice a L.length p) r' c' n' (.slice a' L'.length p')).toArray 33) := ⟨_, rfl⟩
  rw [← hXw] at hK hB
  have K1 : Hid (∀ u, Kept w u → Calls Try.prog 39 #[.agg #[.int .i64 r, .int .i64 c, .int .i64 n, .slice a L.length p]] u fun e w' => e = .returned (.int .i64 (ckM r c n L)) ∧ Kept u w') := fun u k => rcheck_any r c n a p L u (hX.kept k)
  have K2 : Hid (∀ u, Kept w u → Calls Try.prog 39 #[.agg #[.int .i64 r', .int .i64 c', .int .i64 n', .slice a' L'.length p']] u fun e w' => e = .returned (.int .i64 (ckM r' c' n' L')) ∧ Kept u w') := fun u k => rcheck_any r' c' n' a' p' L' u (hY.kept k)
  obtain ⟨F, hF⟩ : ∃ F, ckF r c n L r' c' n' L' = F := ⟨_, rfl⟩
  rw [hF] at hF0 ⊢
  unfold ckF at hF
  generalize ckM r c n L = q at *
  generalize ckM r' c' n' L' = q' at *
  generalize L.length = l at *
  generalize L'.length = l' at *
  have HF := hidq hF
  have HF0 := hidq hF0
  clear hX hY hF hF0
  go_enter Try.func14, Try.ntmps14
  go_upto_region 1 with fail
  rw [← hXw]
  clear hXw
  have c0 := hB.c 0 _ rfl
  have c1 := hB.c 1 _ rfl
  have c2 := hB.c 2 _ rfl
  have c3 := hB.c 3 _ rfl
  go_upto_region 2 with (first | (go_at_call 39; refine (K1.out _ hK).mono ?_; rintro e w1 ⟨rfl, k1⟩))
  clear c0 c1 c2 c3 K1
  have hB1 := hB.kept k1
  have hK1 := hK.trans k1
  clear hB hK k1
  by_cases hq : q = 0
  · have c4 := hB1.c 4 _ rfl
    have c5 := hB1.c 5 _ rfl
    have c6 := hB1.c 6 _ rfl
    have c7 := hB1.c 7 _ rfl
    subst hq
    go_upto_region 4 with (first | (go_at_call 39; refine (K2.out _ hK1).mono ?_; rintro e w2 ⟨rfl, k2⟩))
    clear c4 c5 c6 c7
    have hB2 := hB1.kept k2
    have hK2 := hK1.trans k2
    clear hB1 hK1 k2 K2
    by_cases hq' : q' = 0
    · subst hq'
      have c0 := hB2.c 0 _ rfl
      have c2 := hB2.c 2 _ rfl
      have c4 := hB2.c 4 _ rfl
      have c6 := hB2.c 6 _ rfl
      by_cases hn : n = n'
      · subst hn
        by_cases hr : r = r'
        · exact absurd (by rw [← HF.out]; simp [hr]) HF0.out
        · go_wp2
          exact bodyPost_ret (v := .tuple #[.int .i64 0, .int .i64 4]) (by simp [results, Try.results14, go_sem, *]) rfl ⟨by rw [← HF.out]; simp [hr], hK2⟩
      · go_wp2
        exact bodyPost_ret (v := .tuple #[.int .i64 0, .int .i64 3]) (by simp [results, Try.results14, go_sem, *]) rfl ⟨by rw [← HF.out]; simp [hn], hK2⟩
    · go_wp2
      exact bodyPost_ret (v := .tuple #[.int .i64 0, .int .i64 q']) (by simp [results, Try.results14, go_sem, *]) rfl ⟨by rw [← HF.out]; simp [hq'], hK2⟩
  · go_wp2
    exact bodyPost_ret (v := .tuple #[.int .i64 0, .int .i64 q]) (by simp [results, Try.results14, go_sem, *]) rfl ⟨by rw [← HF.out]; simp [hq], hK1⟩

set_option maxRecDepth 100000 in
set_option maxHeartbeats 8000000 in
theorem drcheck_ok (R C C' : Nat) (wd : Int) (M N : List Int) (b off cap b' off' cap' l l' : Nat) (w : World) (hR4 : R ≤ 4096)
    (K1 : Hid (∀ u, Kept w u → Calls Try.prog 39 #[.agg #[.int .i64 R, .int .i64 C, .int .i64 wd, .slice (some ⟨b, off, none⟩) l cap]] u fun e w' => e = .returned (.int .i64 0) ∧ Kept u w'))
    (K2 : Hid (∀ u, Kept w u → Calls Try.prog 39 #[.agg #[.int .i64 R, .int .i64 C', .int .i64 wd, .slice (some ⟨b', off', none⟩) l' cap']] u fun e w' => e = .returned (.int .i64 0) ∧ Kept u w'))
    (KC : Hid (∀ (k : Nat) (u : World), k < R → Kept w u → Calls Try.prog 41 #[.agg #[.int .i64 R, .int .i64 C, .int .i64 wd, .slice (some ⟨b, off, none⟩) l cap], .int .i64 k] u fun e w' => ∃ g cp, e = .returned (.agg #[.int .i64 1, .int .i64 C, .int .i64 wd, .slice (some ⟨g, 0, none⟩) C cp]) ∧ Own w' g cp (bpt M (k * C) C) ∧ Kept u w'))
    (KC' : Hid (∀ (k : Nat) (u : World), k < R → Kept w u → Calls Try.prog 41 #[.agg #[.int .i64 R, .int .i64 C', .int .i64 wd, .slice (some ⟨b', off', none⟩) l' cap'], .int .i64 k] u fun e w' => ∃ g cp, e = .returned (.agg #[.int .i64 1, .int .i64 C', .int .i64 wd, .slice (some ⟨g, 0, none⟩) C' cp]) ∧ Own w' g cp (bpt N (k * C') C') ∧ Kept u w'))
    (KS : Hid (∀ (k : Nat) (u : World) (g cp : Nat), k < R → Own u g cp (bpt M (k * C) C) → Calls Try.prog 40 #[.agg #[.int .i64 1, .int .i64 C, .int .i64 wd, .slice (some ⟨g, 0, none⟩) C cp]] u fun e w' => ∃ x, e = .returned (.tuple #[.int .i64 x, .int .i64 (stp wd (bpt M (k * C) C) 0).2]) ∧ Kept u w'))
    (KS' : Hid (∀ (k : Nat) (u : World) (g cp : Nat), k < R → Own u g cp (bpt N (k * C') C') → Calls Try.prog 40 #[.agg #[.int .i64 1, .int .i64 C', .int .i64 wd, .slice (some ⟨g, 0, none⟩) C' cp]] u fun e w' => ∃ x, e = .returned (.tuple #[.int .i64 x, .int .i64 (stp wd (bpt N (k * C') C') 0).2]) ∧ Kept u w')) :
    Calls Try.prog 14 #[sv8 R C wd (.slice (some ⟨b, off, none⟩) l cap) R C' wd (.slice (some ⟨b', off', none⟩) l' cap')] w fun e w' => ∃ a q, e = .returned (.tuple #[.int .i64 a, .int .i64 q]) ∧ Ans R (rwst M N C C' wd) a q ∧ Kept w w' := by
  have hK : Kept w (w.alloc (.cells (sl8 R C wd (.slice (some ⟨b, off, none⟩) l cap) R C' wd (.slice (some ⟨b', off', none⟩) l' cap')).toArray 33)) := (Kept.refl w).alloc _ _
  have hB := Bq.new w (sl8 R C wd (.slice (some ⟨b, off, none⟩) l cap) R C' wd (.slice (some ⟨b', off', none⟩) l' cap')) 33
  obtain ⟨X, hXw⟩ : ∃ X, X = w.alloc (.cells (sl8 R C wd (.slice (some ⟨b, off, none⟩) l cap) R C' wd (.slice (some ⟨b', off', none⟩) l' cap')).toArray 33) := ⟨_, rfl⟩
  rw [← hXw] at hK hB
  have ee1 : ((R : Int) == (R : Int)) = true := by simp
  have ee2 : (wd == wd) = true := by simp
  go_enter Try.func14, Try.ntmps14
  go_upto_region 1 with fail
  rw [← hXw]
  clear hXw
  have c0 := hB.c 0 _ rfl
  have c1 := hB.c 1 _ rfl
  have c2 := hB.c 2 _ rfl
  have c3 := hB.c 3 _ rfl
  go_upto_region 2 with (first | (go_at_call 39; refine (K1.out _ hK).mono ?_; rintro e w1 ⟨rfl, k1⟩))
  clear c0 c1 c2 c3 K1
  have hB1 := hB.kept k1
  have hK1 := hK.trans k1
  clear hB hK k1
  have c4 := hB1.c 4 _ rfl
  have c5 := hB1.c 5 _ rfl
  have c6 := hB1.c 6 _ rfl
  have c7 := hB1.c 7 _ rfl
  go_upto_region 4 with (first | (go_at_call 39; refine (K2.out _ hK1).mono ?_; rintro e w2 ⟨rfl, k2⟩))
  clear c4 c5 c6 c7
  have hB2 := hB1.kept k2
  have hK2 := hK1.trans k2
  clear hB1 hK1 k2 K2
  have c0 := hB2.c 0 _ rfl
  have c2 := hB2.c 2 _ rfl
  have c4 := hB2.c 4 _ rfl
  have c6 := hB2.c 6 _ rfl
  go_wp2_with fail
  clear c0 c2 c4 c6
  go_loopw [5] (fun iv wr => ∃ (k : Nat), k ≤ R ∧ iv = .int .i64 k ∧ (∀ j, j < k → rwst M N C C' wd j = 0) ∧ Kept w2 wr) (fun iv _ => R - (intOf iv).toNat)
  case atStart => exact ⟨0, Nat.zero_le _, rfl, fun j hj => by omega, Kept.refl _⟩
  case round =>
    obtain ⟨k, hk, rfl, hall, hkr⟩ := hrel
    have hBr := hB2.kept hkr
    have hKr := hK2.trans hkr
    have c0 := hBr.c 0 _ rfl
    have HALL := hidq hall
    clear hall
    by_cases hlt : k < R
    · have b4 : (k : Int) < (R : Int) := by omega
      have z1 : IntKind.i64.wrap ((k : Int) + 1) = (k : Int) + 1 := by rw [wrap_i64]; omega
      obtain ⟨E0, hE0⟩ : ∃ E, (stp wd (bpt M (k * C) C) 0).2 = E := ⟨_, rfl⟩
      obtain ⟨E1, hE1⟩ : ∃ E, (stp wd (bpt N (k * C') C') 0).2 = E := ⟨_, rfl⟩
      have HE : Hid (rwst M N C C' wd k = e2 E0 E1) := by show _ = _; unfold rwst; rw [hE0, hE1]
      have KSk : Hid (∀ (u : World) (g cp : Nat), Own u g cp (bpt M (k * C) C) → Calls Try.prog 40 #[.agg #[.int .i64 1, .int .i64 C, .int .i64 wd, .slice (some ⟨g, 0, none⟩) C cp]] u fun e w' => ∃ x, e = .returned (.tuple #[.int .i64 x, .int .i64 E0]) ∧ Kept u w') := fun u g cp h => by rw [← hE0]; exact KS.out k u g cp hlt h
      have KSk' : Hid (∀ (u : World) (g cp : Nat), Own u g cp (bpt N (k * C') C') → Calls Try.prog 40 #[.agg #[.int .i64 1, .int .i64 C', .int .i64 wd, .slice (some ⟨g, 0, none⟩) C' cp]] u fun e w' => ∃ x, e = .returned (.tuple #[.int .i64 x, .int .i64 E1]) ∧ Kept u w') := fun u g cp h => by rw [← hE1]; exact KS'.out k u g cp hlt h
      clear hE0 hE1
      have c1 := hBr.c 1 _ rfl
      have c2 := hBr.c 2 _ rfl
      have c3 := hBr.c 3 _ rfl
      go_upto_region 14 with (first | (go_at_call 41; refine (KC.out k _ hlt hKr).mono ?_; rintro e w3 ⟨g, cp, rfl, ho, k3⟩) | (go_at_call 40; refine (KSk.out _ _ _ ho).mono ?_; rintro e w4 ⟨x, rfl, k4⟩))
      clear c0 c1 c2 c3
      have hB4 := hBr.kept (k3.trans k4)
      have hK4 := hKr.trans (k3.trans k4)
      have hk4 := hkr.trans (k3.trans k4)
      clear k3 k4 ho
      by_cases hz : E0 = 0
      · have HZ := hidq hz
        subst hz
        have c4 := hB4.c 4 _ rfl
        have c5 := hB4.c 5 _ rfl
        have c6 := hB4.c 6 _ rfl
        have c7 := hB4.c 7 _ rfl
        go_upto_region 16 with (first | (go_at_call 41; refine (KC'.out k _ hlt hK4).mono ?_; rintro e w5 ⟨g', cp', rfl, ho', k5⟩) | (go_at_call 40; refine (KSk'.out _ _ _ ho').mono ?_; rintro e w6 ⟨x', rfl, k6⟩))
        clear c4 c5 c6 c7
        have hk6 := hk4.trans (k5.trans k6)
        have hK6 := hK4.trans (k5.trans k6)
        by_cases hz' : E1 = 0
        · have HZ' := hidq hz'
          subst hz'
          go_wp2_with fail
          go_roundw
          case rel => exact ⟨k + 1, by omega, by go_num, fun j hj => (by
            by_cases e : j = k
            · rw [e, HE.out]; rfl
            · exact HALL.out j (by omega)), hk6⟩
          case measure => simp [intOf]; omega
        · go_wp2
          exact bodyPost_ret (v := .tuple #[.int .i64 (k : Int), .int .i64 E1]) (by simp [results, Try.results14, go_sem, *]) rfl ⟨_, _, rfl, .inl ⟨k, hlt, HALL.out, by rw [HE.out]; simpa [e2] using hz', rfl, by rw [HE.out]; simp [e2]⟩, hK6⟩
      · go_wp2
        exact bodyPost_ret (v := .tuple #[.int .i64 (k : Int), .int .i64 E0]) (by simp [results, Try.results14, go_sem, *]) rfl ⟨_, _, rfl, .inl ⟨k, hlt, HALL.out, by rw [HE.out]; simp [e2, hz], rfl, by rw [HE.out]; simp [e2, hz]⟩, hK4⟩
    · obtain rfl : k = R := by omega
      go_wp2
      exact bodyPost_ret (v := .tuple #[.int .i64 0, .int .i64 0]) (by simp [results, Try.results14, go_sem, *]) rfl ⟨_, _, rfl, .inr ⟨HALL.out, rfl, rfl⟩, hKr⟩

theorem rgl_bpt {L : List Int} (h : Rgl L) (f k : Nat) (hf : f + k ≤ L.length) : Rgl (bpt L f k) := fun i hi => by
  rw [bpt_len L f k hf] at hi
  have := h (f + i) (by omega)
  unfold bpt
  rw [List.getD_eq_getElem?_getD] at this ⊢
  rwa [List.getElem?_take_of_lt hi, List.getElem?_drop]

theorem drcheck_any (r c n : Int) (a : Option Addr) (p : Nat) (L : List Int) (r' c' n' : Int) (a' : Option Addr) (p' : Nat) (L' : List Int) (hg : Rgl L) (hg' : Rgl L') (w : World) (hX : Sl w (.slice a L.length p) L) (hY : Sl w (.slice a' L'.length p') L') :
    Calls Try.prog 14 #[sv8 r c n (.slice a L.length p) r' c' n' (.slice a' L'.length p')] w fun e w' => ∃ x q, e = .returned (.tuple #[.int .i64 x, .int .i64 q]) ∧ DAns r c n L r' c' n' L' x q ∧ Kept w w' := by
  by_cases hF : ckF r c n L r' c' n' L' = 0
  · obtain ⟨h1, h2, rfl, rfl⟩ := ckf_parts hF
    have h1' := h1
    have h2' := h2
    obtain ⟨R, C, rfl, rfl, hR, hC, hRC, hl, hn, ha⟩ := ck_form _ _ _ _ h1
    obtain ⟨R', C', e1, rfl, hR', hC', hRC', hl', hn', ha'⟩ := ck_form _ _ _ _ h2
    obtain rfl : R = R' := by omega
    have hX' := hX
    have hY' := hY
    obtain ⟨ao, cp, e3, hc1, hc2, hrd⟩ := hX
    obtain ⟨ao', cp', e3', hc1', hc2', hrd'⟩ := hY
    cases e3
    cases e3'
    have hRCp : 0 < R * C := Nat.mul_pos hR hC
    have hRCp' : 0 < R * C' := Nat.mul_pos hR hC'
    obtain ⟨b, off, rfl, hb, hr⟩ := hrd (by intro e; rw [e] at hl; simp at hl; omega)
    obtain ⟨b', off', rfl, hb', hr'⟩ := hrd' (by intro e; rw [e] at hl'; simp at hl'; omega)
    have hk1 : ∀ k, k < R → k * C + C ≤ R * C := fun k hk => by
      have h1 : (k + 1) * C ≤ R * C := Nat.mul_le_mul_right _ hk
      rwa [Nat.succ_mul] at h1
    have hk2 : ∀ k, k < R → k * C' + C' ≤ R * C' := fun k hk => by
      have h1 : (k + 1) * C' ≤ R * C' := Nat.mul_le_mul_right _ hk
      rwa [Nat.succ_mul] at h1
    have hR4 : R ≤ 4096 := Nat.le_trans (Nat.le_mul_of_pos_right R hC) hRC
    have := drcheck_ok R C C' n L L' b off p b' off' p' L.length L'.length w hR4
      (fun u k => by
        have := rcheck_any R C n _ p L u (hX'.kept k)
        rwa [h1'] at this)
      (fun u k => by
        have := rcheck_any R C' n _ p' L' u (hY'.kept k)
        rwa [h2'] at this)
      (fun k u hk ku => (cut_any R C k n hk hC (by omega) L hl b off L.length p hl hc1 u (Nat.lt_of_lt_of_le hb ku.below.size) (hr.kept hb ku) hc2).mono fun e w' ⟨g, cp, x1, x2, x3, x4⟩ => ⟨g, cp, x1, x3, x4⟩)
      (fun k u hk ku => (cut_any R C' k n hk hC' (by omega) L' hl' b' off' L'.length p' hl' hc1' u (Nat.lt_of_lt_of_le hb' ku.below.size) (hr'.kept hb' ku) hc2').mono fun e w' ⟨g, cp, x1, x2, x3, x4⟩ => ⟨g, cp, x1, x3, x4⟩)
      (fun k u g cp hk ho => by
        have hbl := bpt_len L (k * C) C (by rw [hl]; exact hk1 k hk)
        have hC4 := hk1 k hk
        have := stop_ok 1 C n g 0 cp (bpt L (k * C) C) (rgl_bpt hg _ _ (by rw [hl]; exact hC4)) (by omega) u ho.lt ho.reads
        rw [hbl] at this
        exact this.mono fun e w' ⟨h3, h4⟩ => ⟨_, h3, h4⟩)
      (fun k u g cp hk ho => by
        have hbl := bpt_len L' (k * C') C' (by rw [hl']; exact hk2 k hk)
        have hC4 := hk2 k hk
        have := stop_ok 1 C' n g 0 cp (bpt L' (k * C') C') (rgl_bpt hg' _ _ (by rw [hl']; exact hC4)) (by omega) u ho.lt ho.reads
        rw [hbl] at this
        exact this.mono fun e w' ⟨h3, h4⟩ => ⟨_, h3, h4⟩)
    refine this.mono ?_
    rintro e w' ⟨x, q, rfl, h3, h4⟩
    exact ⟨x, q, rfl, .inr ⟨hF, h3⟩, h4⟩
  · refine (drcheck_no r c n a p L r' c' n' a' p' L' w hX hY hF).mono ?_
    rintro e w' ⟨rfl, h4⟩
    exact ⟨_, _, rfl, .inl ⟨hF, rfl, rfl⟩, h4⟩
end Go.Proofs.Ythjcofdcbinliaa

namespace Go.Proofs.Ythjcofdcbinliaa
open Go.ChangeShapes Go.WideShapes Go.ChangeAt Go.RowKit Go.Shelf
set_option linter.unusedVariables false
set_option linter.unusedSimpArgs false

theorem bq_below {w w' : World} {b : Nat} {vs : List Value} (h : Bq w b vs) (k : Below w.heap.size w w') : Bq w' b vs :=
  ⟨fun i v e => (k.cell h.lt).trans (h.c i v e), fun o => (World.frozen?_of_block (a := ⟨b, o, none⟩) (k.block b h.lt)).trans (h.fz o), Nat.lt_of_lt_of_le h.lt k.size⟩
theorem sl_below {w w' : World} {v : Value} {L : List Int} (h : Sl w v L) (k : Below w.heap.size w w') : Sl w' v L := by
  obtain ⟨ao, cap, e, h1, h2, h3⟩ := h
  exact ⟨ao, cap, e, h1, h2, fun hne => by
    obtain ⟨b, off, e, hb, hr⟩ := h3 hne
    exact ⟨b, off, e, Nat.lt_of_lt_of_le hb k.size, fun i hi => (k.cell hb).trans (hr i hi)⟩⟩

set_option maxRecDepth 100000 in
set_option maxHeartbeats 8000000 in
theorem dataChecks_true (r c n : Int) (a : Option Addr) (p : Nat) (L : List Int) (r' c' n' : Int) (a' : Option Addr) (p' : Nat) (L' : List Int) (hg : Rgl L) (hg' : Rgl L') (hl : L.length ≤ 4611686018427387903) (hl' : L'.length ≤ 4611686018427387903) (w : World) (hX : Sl w (.slice a L.length p) L) (hY : Sl w (.slice a' L'.length p') L') :
    Calls Try.prog 4 #[sv8 r c n (.slice a L.length p) r' c' n' (.slice a' L'.length p')] w fun e w' => e = .returned (.bool true) ∧ Below w.heap.size w w' := by
  have HA : Hid (∀ u, Calls Try.prog 9 #[] u fun e w' => e = .returned (.bool true) ∧ Kept u w') := fun u => dalive_true u
  have hK : Kept w (w.alloc (.cells (sl8 r c n (.slice a L.length p) r' c' n' (.slice a' L'.length p')).toArray 33)) := (Kept.refl w).alloc _ _
  have hB := Bq.new w (sl8 r c n (.slice a L.length p) r' c' n' (.slice a' L'.length p')) 33
  obtain ⟨X, hXw⟩ : ∃ X, X = w.alloc (.cells (sl8 r c n (.slice a L.length p) r' c' n' (.slice a' L'.length p')).toArray 33) := ⟨_, rfl⟩
  rw [← hXw] at hK hB
  have KL : Hid (∀ u, Calls Try.prog 11 #[sv8 r c n (.slice a L.length p) r' c' n' (.slice a' L'.length p')] u fun e w' => e = .returned (.bool (decide ((L.length : Int) + (L'.length : Int) ≤ 600))) ∧ Kept u w') := fun u => dlight_any r c n a _ p r' c' n' a' _ p' (by omega) (by omega) u
  have KS : Hid (∀ u, Below w.heap.size w u → L.length < 1000000 → L'.length < 1000000 → Calls Try.prog 12 #[sv8 r c n (.slice a L.length p) r' c' n' (.slice a' L'.length p')] u fun e w' => ∃ g cap g' cap', e = .returned (sv8 r c n (.slice (some ⟨g, 0, none⟩) L.length cap) r' c' n' (.slice (some ⟨g', 0, none⟩) L'.length cap')) ∧ Own w' g cap (L ++ [-77, -78]) ∧ Own w' g' cap' (L' ++ [-77, -78]) ∧ Kept u w') := fun u k h1 h2 => (lentSet_any r c n a p L r' c' n' a' p' L' h1 h2 u (sl_below hX k) (sl_below hY k)).mono fun e w' ⟨g, cap, g', cap', x1, x2, x3, x4, x5, x6⟩ => ⟨g, cap, g', cap', x1, x4, x5, x6⟩
  have KR : Hid (∀ u, Below w.heap.size w u → Calls Try.prog 14 #[sv8 r c n (.slice a L.length p) r' c' n' (.slice a' L'.length p')] u fun e w' => ∃ x q, e = .returned (.tuple #[.int .i64 x, .int .i64 q]) ∧ DAns r c n L r' c' n' L' x q ∧ Kept u w') := fun u k => drcheck_any r c n a p L r' c' n' a' p' L' hg hg' u (sl_below hX k) (sl_below hY k)
  have KC : Hid (∀ (u : World) (g cap g' cap' : Nat), Own u g cap (L ++ [-77, -78]) → Own u g' cap' (L' ++ [-77, -78]) → Calls Try.prog 13 #[sv8 r c n (.slice (some ⟨g, 0, none⟩) L.length cap) r' c' n' (.slice (some ⟨g', 0, none⟩) L'.length cap')] u fun e w' => ∃ x q, e = .returned (.tuple #[.int .i64 x, .int .i64 q]) ∧ DAns r c n L r' c' n' L' x q ∧ Below u.heap.size u w') := fun u g cap g' cap' h1 h2 => by
    have s1 := h1.slTake L.length (by simp)
    have s2 := h2.slTake L'.length (by simp)
    rw [List.take_left' rfl] at s1 s2
    exact dcheck_any r c n _ cap L r' c' n' _ cap' L' u s1 s2
  have KT : Hid (∀ (u : World) (g cap g' cap' : Nat), Below w.heap.size w u → L.length < 900000 → L'.length < 900000 → Own u g cap (L ++ [-77, -78]) → Own u g' cap' (L' ++ [-77, -78]) → Calls Try.prog 15 #[sv8 r c n (.slice (some ⟨g, 0, none⟩) L.length cap) r' c' n' (.slice (some ⟨g', 0, none⟩) L'.length cap'), sv8 r c n (.slice a L.length p) r' c' n' (.slice a' L'.length p')] u fun e w' => e = .returned (.bool true) ∧ Kept u w') := fun u g cap g' cap' k h1 h2 o1 o2 => staysSet_true r c n L h1 g cap a p r' c' n' L' h2 g' cap' a' p' u o1 (sl_below hX k) o2 (sl_below hY k)
  clear hX hY hg hg'
  go_enter Try.func4, Try.ntmps4
  go_upto_region 1 with fail
  rw [← hXw]
  clear hXw
  go_wp2_with fail
  refine (HA.out _).mono ?_
  rintro e w1 ⟨rfl, k1⟩
  have hB1 := hB.kept k1
  have hK1 := hK.trans k1
  clear hB hK k1
  have c0 := hB1.c 0 _ rfl
  have c1 := hB1.c 1 _ rfl
  have c2 := hB1.c 2 _ rfl
  have c3 := hB1.c 3 _ rfl
  have c4 := hB1.c 4 _ rfl
  have c5 := hB1.c 5 _ rfl
  have c6 := hB1.c 6 _ rfl
  have c7 := hB1.c 7 _ rfl
  by_cases hlt : (L.length : Int) + (L'.length : Int) ≤ 600
  · have KL1 : Hid (∀ u, Calls Try.prog 11 #[sv8 r c n (.slice a L.length p) r' c' n' (.slice a' L'.length p')] u fun e w' => e = .returned (.bool true) ∧ Kept u w') := fun u => by
      have := KL.out u
      rwa [decide_eq_true hlt] at this
    have hL1 : L.length < 900000 := by omega
    have hL2 : L'.length < 900000 := by omega
    clear KL
    generalize hll : L.length = l at *
    generalize hll' : L'.length = l' at *
    clear hll hll' hlt hl hl'
    go_wp2_with fail
    refine (KL1.out _).mono ?_
    rintro e w2 ⟨rfl, k2⟩
    have hB2 := hB1.kept k2
    have hK2 := hK1.trans k2
    clear c0 c1 c2 c3 c4 c5 c6 c7 hB1 hK1 k2
    have c0 := hB2.c 0 _ rfl
    have c1 := hB2.c 1 _ rfl
    have c2 := hB2.c 2 _ rfl
    have c3 := hB2.c 3 _ rfl
    have c4 := hB2.c 4 _ rfl
    have c5 := hB2.c 5 _ rfl
    have c6 := hB2.c 6 _ rfl
    have c7 := hB2.c 7 _ rfl
    go_upto_region 4 with (first | (go_at_call 12; refine (KS.out _ hK2.below (by omega) (by omega)).mono ?_; rintro e w3 ⟨g, cap, g', cap', rfl, ho, ho', k3⟩))
    clear c0 c1 c2 c3 c4 c5 c6 c7
    have hB3 := hB2.kept k3
    have hK3 := hK2.trans k3
    have hA := Bq.new w3 (sl8 r c n (.slice (some ⟨g, 0, none⟩) l cap) r' c' n' (.slice (some ⟨g', 0, none⟩) l' cap')) 33
    have kA : Kept w3 (w3.alloc (.cells (sl8 r c n (.slice (some ⟨g, 0, none⟩) l cap) r' c' n' (.slice (some ⟨g', 0, none⟩) l' cap')).toArray 33)) := (Kept.refl w3).alloc _ _
    obtain ⟨Y, hY⟩ : ∃ Y, Y = w3.alloc (.cells (sl8 r c n (.slice (some ⟨g, 0, none⟩) l cap) r' c' n' (.slice (some ⟨g', 0, none⟩) l' cap')).toArray 33) := ⟨_, rfl⟩
    obtain ⟨G, hG⟩ : ∃ G, G = w3.heap.size := ⟨_, rfl⟩
    rw [← hY] at hA kA
    rw [← hG] at hA ⊢
    rw [show w3.alloc (.cells #[.int .i64 r, .int .i64 c, .int .i64 n, .slice (some ⟨g, 0, none⟩) l cap, .int .i64 r', .int .i64 c', .int .i64 n', .slice (some ⟨g', 0, none⟩) l' cap'] 33) = Y from hY.symm]
    have hB4 := hB3.kept kA
    have hK4 := hK3.trans kA
    have ho4 := ho.kept kA
    have ho4' := ho'.kept kA
    clear hY hG hB2 hK2 k3 hB3 hK3 kA ho ho'
    have c0 := hA.c 0 _ rfl
    have c1 := hA.c 1 _ rfl
    have c2 := hA.c 2 _ rfl
    have c3 := hA.c 3 _ rfl
    have c4 := hA.c 4 _ rfl
    have c5 := hA.c 5 _ rfl
    have c6 := hA.c 6 _ rfl
    have c7 := hA.c 7 _ rfl
    go_upto_region 5 with (first | (go_at_call 13; refine (KC.out _ _ _ _ _ ho4 ho4').mono ?_; rintro e w5 ⟨x, q, rfl, hD, b5⟩))
    clear c0 c1 c2 c3 c4 c5 c6 c7
    have hA5 := bq_below hA b5
    have hB5 := bq_below hB4 b5
    have ho5 := ho4.below b5
    have ho5' := ho4'.below b5
    have hb5 : Below w.heap.size w w5 := hK4.below.trans (b5.mono hK4.below.size)
    clear hA hB4 ho4 ho4' hK4 b5
    have c0 := hB5.c 0 _ rfl
    have c1 := hB5.c 1 _ rfl
    have c2 := hB5.c 2 _ rfl
    have c3 := hB5.c 3 _ rfl
    have c4 := hB5.c 4 _ rfl
    have c5 := hB5.c 5 _ rfl
    have c6 := hB5.c 6 _ rfl
    have c7 := hB5.c 7 _ rfl
    go_upto_region 6 with (first | (go_at_call 14; refine (KR.out _ hb5).mono ?_; rintro e w6 ⟨x', q', rfl, hD', k6⟩))
    clear c0 c1 c2 c3 c4 c5 c6 c7
    obtain ⟨rfl, rfl⟩ := hD.uniq hD'
    clear hD hD'
    have hA6 := hA5.kept k6
    have hB6 := hB5.kept k6
    have ho6 := ho5.kept k6
    have ho6' := ho5'.kept k6
    have hb6 : Below w.heap.size w w6 := hb5.trans (k6.below.mono hb5.size)
    clear hA5 hB5 ho5 ho5' hb5 k6
    have c0 := hB6.c 0 _ rfl
    have c1 := hB6.c 1 _ rfl
    have c2 := hB6.c 2 _ rfl
    have c3 := hB6.c 3 _ rfl
    have c4 := hB6.c 4 _ rfl
    have c5 := hB6.c 5 _ rfl
    have c6 := hB6.c 6 _ rfl
    have c7 := hB6.c 7 _ rfl
    have d0 := hA6.c 0 _ rfl
    have d1 := hA6.c 1 _ rfl
    have d2 := hA6.c 2 _ rfl
    have d3 := hA6.c 3 _ rfl
    have d4 := hA6.c 4 _ rfl
    have d5 := hA6.c 5 _ rfl
    have d6 := hA6.c 6 _ rfl
    have d7 := hA6.c 7 _ rfl
    have x1 : (x == x) = true := by simp
    have x2 : (q == q) = true := by simp
    go_wp2_with (first | (go_at_call 15; refine (KT.out _ _ _ _ _ hb6 hL1 hL2 ho6 ho6').mono ?_; rintro e w7 ⟨rfl, k7⟩))
    go_ret
    exact ⟨rfl, hb6.trans (k7.below.mono hb6.size)⟩
  · have KL1 : Hid (∀ u, Calls Try.prog 11 #[sv8 r c n (.slice a L.length p) r' c' n' (.slice a' L'.length p')] u fun e w' => e = .returned (.bool false) ∧ Kept u w') := fun u => by
      have := KL.out u
      rwa [decide_eq_false hlt] at this
    clear KL hlt
    go_wp2_with fail
    refine (KL1.out _).mono ?_
    rintro e w2 ⟨rfl, k2⟩
    clear c0 c1 c2 c3 c4 c5 c6 c7
    go_wp2_with fail
    refine (HA.out _).mono ?_
    rintro e w3 ⟨rfl, k3⟩
    go_wp2
    go_ret
    exact ⟨rfl, (hK1.trans (k2.trans k3)).below⟩
end Go.Proofs.Ythjcofdcbinliaa
