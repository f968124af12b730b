/- Check of package data at any set; the document's Check. -/
import Derived.Test.YtcjgdfnbjbboeaaWr35
namespace Go.Proofs.Ytcjgdfnbjbboeaa
open Go.ChangeShapes Go.WideShapes Go.ChangeAt Go.RowKit Go.Shelf
set_option linter.unusedVariables false
set_option linter.unusedSimpArgs false

theorem ck_form (r c n : Int) (L : List Int) (h : ckM r c n L = 0) : ∃ R C : Nat, r = R ∧ c = C ∧ 0 < R ∧ 0 < C ∧ R * C ≤ 4096 ∧ L.length = R * C ∧ (n = 64 ∨ n = 32) ∧ (L.all fun b => val b n) = true := by
  have hS : ckS r c n = 0 := by
    unfold ckM at h
    split at h
    · rename_i h1; exact absurd h h1
    · rename_i h1; exact Classical.not_not.1 h1
  unfold ckM at h
  rw [if_neg (by rw [hS]; simp)] at h
  unfold ckS at hS
  by_cases hn : n = 64 ∨ n = 32
  · rw [if_neg (fun k => k hn)] at hS
    by_cases hm : min r c < 1
    · rw [if_pos hm] at hS; omega
    · rw [if_neg hm] at hS
      unfold ckR at hS
      by_cases hr : Int.tdiv 4096 c < r
      · rw [if_pos hr] at hS; omega
      · obtain ⟨R, rfl⟩ : ∃ R : Nat, r = R := ⟨r.toNat, by omega⟩
        obtain ⟨C, rfl⟩ : ∃ C : Nat, c = C := ⟨c.toNat, by omega⟩
        have hC : 0 < C := by omega
        rw [Int.tdiv_eq_ediv_of_nonneg (by omega), show ((4096 : Int) / (C : Int)) = ((4096 / C : Nat) : Int) from rfl] at hr
        have h4 : R ≤ 4096 / C := by omega
        have h5 := (Nat.le_div_iff_mul_le hC).1 h4
        by_cases hl : (L.length : Int) ≠ (R : Int) * (C : Int)
        · rw [if_pos hl] at h; omega
        · rw [if_neg hl] at h
          by_cases ha : (L.all fun b => val b n) = true
          · refine ⟨R, C, rfl, rfl, by omega, hC, h5, ?_, hn, ha⟩
            have : (L.length : Int) = ((R * C : Nat) : Int) := by rw [Int.natCast_mul]; exact Classical.not_not.1 hl
            omega
          · rw [if_neg ha] at h; omega
  · rw [if_pos hn] at hS; omega
theorem ck_row (R C : Nat) (n : Int) (M : List Int) (h : ckM R C n M = 0) (k : Nat) (hk : k < R) : ckM 1 C n (bpt M (k * C) C) = 0 := by
  obtain ⟨R', C', e1, e2, hR, hC, hRC, hl, hn, ha⟩ := ck_form _ _ _ _ h
  obtain rfl : R = R' := by omega
  obtain rfl : C = C' := by omega
  have h1 : (k + 1) * C ≤ R * C := Nat.mul_le_mul_right _ hk
  have h2 : (k + 1) * C = k * C + C := by rw [Nat.succ_mul]
  have hbl : (bpt M (k * C) C).length = C := bpt_len M _ _ (by omega)
  have hC4 : C ≤ 4096 := by have := Nat.le_mul_of_pos_left C hR; omega
  have hS : ckS 1 C n = 0 := by
    unfold ckS
    rw [if_neg (fun k => k hn), if_neg (by omega)]
    unfold ckR
    rw [if_neg]
    rw [Int.tdiv_eq_ediv_of_nonneg (by omega), show ((4096 : Int) / (C : Int)) = ((4096 / C : Nat) : Int) from rfl]
    have : 1 ≤ 4096 / C := (Nat.le_div_iff_mul_le hC).2 (by omega)
    omega
  unfold ckM
  rw [if_neg (by rw [hS]; simp), hbl, if_neg (by omega), if_pos]
  rw [List.all_eq_true] at ha ⊢
  exact fun x hx => ha x (List.mem_of_mem_drop (List.mem_of_mem_take hx))
theorem ckf_parts {r c n : Int} {L : List Int} {r' c' n' : Int} {L' : List Int} (h : ckF r c n L r' c' n' L' = 0) : ckM r c n L = 0 ∧ ckM r' c' n' L' = 0 ∧ n = n' ∧ r = r' := by
  unfold ckF at h
  by_cases h1 : ckM r c n L = 0
  · rw [if_neg (fun k => k h1)] at h
    by_cases h2 : ckM r' c' n' L' = 0
    · rw [if_neg (fun k => k h2)] at h
      by_cases h3 : n = n'
      · rw [if_neg (fun k => k h3)] at h
        by_cases h4 : r = r'
        · exact ⟨h1, h2, h3, h4⟩
        · rw [if_pos h4] at h; omega
      · rw [if_pos h3] at h; omega
    · rw [if_pos h2] at h; exact absurd h h2
  · rw [if_pos h1] at h; exact absurd h h1
/-- what Check answers of any set -/
def DAns (r c n : Int) (L : List Int) (r' c' n' : Int) (L' : List Int) (a q : Int) : Prop := (ckF r c n L r' c' n' L' ≠ 0 ∧ a = 0 ∧ q = ckF r c n L r' c' n' L') ∨ (ckF r c n L r' c' n' L' = 0 ∧ Ans r.toNat (rwst L L' c.toNat c'.toNat n) a q)
theorem DAns.uniq {r c n : Int} {L : List Int} {r' c' n' : Int} {L' : List Int} {a q a' q' : Int} (h : DAns r c n L r' c' n' L' a q) (h' : DAns r c n L r' c' n' L' a' q') : a = a' ∧ q = q' := by
  rcases h with ⟨h1, rfl, rfl⟩ | ⟨h1, h2⟩
  · rcases h' with ⟨g1, rfl, rfl⟩ | ⟨g1, g2⟩
    · exact ⟨rfl, rfl⟩
    · exact absurd g1 h1
  · rcases h' with ⟨g1, rfl, rfl⟩ | ⟨g1, g2⟩
    · exact absurd h1 g1
    · exact h2.uniq g2

set_option maxRecDepth 100000 in
set_option maxHeartbeats 8000000 in
theorem dcheck_no (r c n : Int) (a : Option Addr) (p : Nat) (L : List Int) (r' c' n' : Int) (a' : Option Addr) (p' : Nat) (L' : List Int) (w : World) (hX : Sl w (.slice a L.length p) L) (hY : Sl w (.slice a' L'.length p') L') (hF : ckF r c n L r' c' n' L' ≠ 0) :
    Calls Try.prog 30 #[sv8 r c n (.slice a L.length p) r' c' n' (.slice a' L'.length p')] w fun e w' => e = .returned (.tuple #[.int .i64 0, .int .i64 (ckF r c n L r' c' n' L')]) ∧ Kept w w' := by
  obtain ⟨X, hXw⟩ : ∃ X, X = ((w.alloc (.cells (sl8 r c n (.slice a L.length p) r' c' n' (.slice a' L'.length p')).toArray 26)).alloc (.cells #[.int .i64 0] 3)).alloc (.cells #[.int .i64 0] 41) := ⟨_, rfl⟩
  have hK : Kept w X := by rw [hXw]; exact (((Kept.refl w).alloc _ _).alloc _ _).alloc _ _
  have hB : Bq X w.heap.size (sl8 r c n (.slice a L.length p) r' c' n' (.slice a' L'.length p')) := by rw [hXw]; exact ((Bq.new w _ 26).kept ((Kept.refl _).alloc _ _)).kept ((Kept.refl _).alloc _ _)
  have hx1 : Boxed X (w.heap.size + 1) 3 (.int .i64 0) := by
    have := (Boxed.new (w.alloc (.cells (sl8 r c n (.slice a L.length p) r' c' n' (.slice a' L'.length p')).toArray 26)) 3 (.int .i64 0)).alloc (.cells #[.int .i64 0] 41)
    rw [hXw]; simpa using this
  have hx2 : Boxed X (w.heap.size + 2) 41 (.int .i64 0) := by
    have := Boxed.new ((w.alloc (.cells (sl8 r c n (.slice a L.length p) r' c' n' (.slice a' L'.length p')).toArray 26)).alloc (.cells #[.int .i64 0] 3)) 41 (.int .i64 0)
    rw [hXw]; simpa using this
  have KC : Hid (∀ u, Kept w u → Calls Try.prog 70 #[sv8 r c n (.slice a L.length p) r' c' n' (.slice a' L'.length p')] u fun e w' => e = .returned (.int .i64 (ckF r c n L r' c' n' L')) ∧ Kept u w') := fun u k => checkForm_any r c n a p L r' c' n' a' p' L' u (hX.kept k) (hY.kept k)
  generalize ckF r c n L r' c' n' L' = F at *
  clear hX hY
  generalize L.length = l at *
  generalize L'.length = l' at *
  have hF2 : (F == 0) = false := by simpa using hF
  go_enter Try.func30, Try.ntmps30
  go_upto_region 1 with fail
  rw [← hXw]
  clear hXw
  have c0 := hB.c 0 _ rfl
  have c1 := hB.c 1 _ rfl
  have c2 := hB.c 2 _ rfl
  have c3 := hB.c 3 _ rfl
  have c4 := hB.c 4 _ rfl
  have c5 := hB.c 5 _ rfl
  have c6 := hB.c 6 _ rfl
  have c7 := hB.c 7 _ rfl
  go_upto_region 2 with (first | (go_at_call 70; refine (KC.out _ hK).mono ?_; rintro e w1 ⟨rfl, k1⟩))
  clear c0 c1 c2 c3 c4 c5 c6 c7 KC
  have u1 := boxed_on hx1 k1.grn
  have u2 := boxed_on hx2 k1.grn
  have q1 := u1.cell
  have q2 := u2.cell
  have f1 := u1.frozen
  have f2 := u2.frozen
  go_wp2
  have v1 := ((u1.set (.int .i64 0)).other (B' := w.heap.size + 2) (by omega) (.int .i64 F)).cell
  have v2 := ((u2.other (B' := w.heap.size + 1) (by omega) (.int .i64 0)).set (.int .i64 F)).cell
  exact bodyPost_ret (v := .tuple #[.int .i64 0, .int .i64 F]) (by simp [results, Try.f30, go_sem, v1, v2]) rfl ⟨rfl, ((hK.trans k1).setCell (by show w.heap.size ≤ w.heap.size + 1; omega) _).setCell (by show w.heap.size ≤ w.heap.size + 1 + 1; omega) _⟩

theorem dcheck_any (r c n : Int) (a : Option Addr) (p : Nat) (L : List Int) (r' c' n' : Int) (a' : Option Addr) (p' : Nat) (L' : List Int) (w : World) (hX : Sl w (.slice a L.length p) L) (hY : Sl w (.slice a' L'.length p') L') :
    Calls Try.prog 30 #[sv8 r c n (.slice a L.length p) r' c' n' (.slice a' L'.length p')] w fun e w' => ∃ x q, e = .returned (.tuple #[.int .i64 x, .int .i64 q]) ∧ DAns r c n L r' c' n' L' x q ∧ Below w.heap.size w w' := by
  by_cases hF : ckF r c n L r' c' n' L' = 0
  · obtain ⟨h1, h2, rfl, rfl⟩ := ckf_parts hF
    obtain ⟨R, C, rfl, rfl, hR, hC, hRC, hl, hn, ha⟩ := ck_form _ _ _ _ h1
    obtain ⟨R', C', e1, rfl, hR', hC', hRC', hl', hn', ha'⟩ := ck_form _ _ _ _ h2
    obtain rfl : R = R' := by omega
    obtain ⟨ao, cp, e3, hc1, hc2, hrd⟩ := hX
    obtain ⟨ao', cp', e3', hc1', hc2', hrd'⟩ := hY
    cases e3
    cases e3'
    have hRCp : 0 < R * C := Nat.mul_pos hR hC
    have hRCp' : 0 < R * C' := Nat.mul_pos hR hC'
    obtain ⟨b, off, rfl, hb, hr⟩ := hrd (by intro e; rw [e] at hl; simp at hl; omega)
    obtain ⟨b', off', rfl, hb', hr'⟩ := hrd' (by intro e; rw [e] at hl'; simp at hl'; omega)
    have hX : Sl w (.slice (some ⟨b, off, none⟩) L.length p) L := ⟨_, _, rfl, hc1, hc2, fun _ => ⟨_, _, rfl, hb, hr⟩⟩
    have hY : Sl w (.slice (some ⟨b', off', none⟩) L'.length p') L' := ⟨_, _, rfl, hc1', hc2', fun _ => ⟨_, _, rfl, hb', hr'⟩⟩
    have hk1 : ∀ k, k < R → k * C + C ≤ R * C := fun k hk => by
      have h1 : (k + 1) * C ≤ R * C := Nat.mul_le_mul_right _ hk
      rwa [Nat.succ_mul] at h1
    have hk2 : ∀ k, k < R → k * C' + C' ≤ R * C' := fun k hk => by
      have h1 : (k + 1) * C' ≤ R * C' := Nat.mul_le_mul_right _ hk
      rwa [Nat.succ_mul] at h1
    have := dcheck_ok R C C' n L L' hR hC hC' hRC hRC' hl hl' hF b off p b' off' p' w (by omega) (by omega) hX hY
      (fun k u hk hu => by
        have hbl := bpt_len L (k * C) C (by rw [hl]; exact hk1 k hk)
        have hru : Reads u b (off + k * C) (bpt L (k * C) C) := bpt_reads (fun i hi => (hu.cell hb).trans (hr i hi)) _ _ (by rw [hl]; exact hk1 k hk)
        have hC4 := hk1 k hk
        have hbu : b < u.heap.size := Nat.lt_of_lt_of_le hb hu.size
        have := finite_ok 1 C n b (off + k * C) C (bpt L (k * C) C) (ck_row R C n L h1 k hk) (by omega) u hbu hru ⟨_, _, by rw [hbl], by rw [hbl]; exact Nat.le_refl _, by simp [maxLen]; omega, fun _ => ⟨_, _, rfl, hbu, hru⟩⟩
        rw [hbl] at this
        exact this.mono fun e w' ⟨h3, h4⟩ => ⟨_, h3, h4⟩)
      (fun k u hk hu => by
        have hbl := bpt_len L' (k * C') C' (by rw [hl']; exact hk2 k hk)
        have hru : Reads u b' (off' + k * C') (bpt L' (k * C') C') := bpt_reads (fun i hi => (hu.cell hb').trans (hr' i hi)) _ _ (by rw [hl']; exact hk2 k hk)
        have hC4 := hk2 k hk
        have hbu : b' < u.heap.size := Nat.lt_of_lt_of_le hb' hu.size
        have := finite_ok 1 C' n b' (off' + k * C') C' (bpt L' (k * C') C') (ck_row R C' n L' h2 k hk) (by omega) u hbu hru ⟨_, _, by rw [hbl], by rw [hbl]; exact Nat.le_refl _, by simp [maxLen]; omega, fun _ => ⟨_, _, rfl, hbu, hru⟩⟩
        rw [hbl] at this
        exact this.mono fun e w' ⟨h3, h4⟩ => ⟨_, h3, h4⟩)
    rw [hl, hl']
    refine this.mono ?_
    rintro e w' ⟨x, q, rfl, h3, h4⟩
    exact ⟨x, q, rfl, .inr ⟨hF, h3⟩, h4⟩
  · refine (dcheck_no r c n a p L r' c' n' a' p' L' w hX hY hF).mono ?_
    rintro e w' ⟨rfl, h4⟩
    exact ⟨_, _, rfl, .inl ⟨hF, rfl, rfl⟩, h4.below⟩
end Go.Proofs.Ytcjgdfnbjbboeaa
