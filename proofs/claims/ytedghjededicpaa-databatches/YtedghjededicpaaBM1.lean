/- The document's Order, Batches, Batch. -/
import Derived.Test.YtedghjededicpaaGR
import Derived.Test.YtedghjededicpaaDB1
namespace Go.Proofs.Ytedghjededicpaa
open Go.ChangeShapes Go.WideShapes Go.ChangeAt Go.RowKit
set_option linter.unusedVariables false
set_option linter.unusedSimpArgs false

theorem mks_mem (n : Nat) (P : List Int) (hr : ∀ i, i < P.length → 0 ≤ P.getD i 0 ∧ P.getD i 0 < n) (i : Nat) (hi : i ≤ P.length) (y : Nat) (hy : y < n) : (mks n P i).getD y false = true ↔ ∃ x, x < i ∧ P.getD x 0 = (y : Int) := by
  induction i with
  | zero =>
    simp only [mks]
    rw [List.getD_eq_getElem?_getD, List.getElem?_replicate, if_pos hy]
    simp
  | succ i ih =>
    have hr := hr i (by omega)
    rw [mks, getDsetb _ _ _ _ (by rw [mks_length]; omega)]
    constructor
    · intro e
      split at e
      · exact ⟨i, by omega, by omega⟩
      · obtain ⟨x, hx, hy2⟩ := (ih (by omega)).1 e
        exact ⟨x, by omega, hy2⟩
    · rintro ⟨x, hx, hxy⟩
      split
      · rfl
      · rename_i hne
        refine (ih (by omega)).2 ⟨x, ?_, hxy⟩
        rcases Nat.lt_or_ge x i with h1 | h1
        · exact h1
        · have : x = i := by omega
          subst this
          omega
theorem srt_lt (P : List Int) (hn : P.Nodup) : (srt P).Pairwise (· < ·) := by
  have hs := List.pairwise_mergeSort (le := fun (x y : Int) => decide (x ≤ y)) (by intro a b c h1 h2; simp at *; omega) (by intro a b; simp; omega) P
  have hn : (srt P).Nodup := (srt_perm P).nodup_iff.2 hn
  unfold srt at *
  refine (hs.and hn).imp (fun {a b} hab => ?_)
  have h1 := hab.1
  have h2 := hab.2
  simp only [decide_eq_true_eq] at h1
  omega
theorem getD_of_mem (P : List Int) (z : Int) : z ∈ P ↔ ∃ x, x < P.length ∧ P.getD x 0 = z := by
  constructor
  · intro hz
    obtain ⟨x, hx, e⟩ := List.getElem_of_mem hz
    refine ⟨x, hx, ?_⟩
    rw [← e, List.getD_eq_getElem?_getD, List.getElem?_eq_getElem hx]
    all_goals rfl
  · rintro ⟨x, hx, rfl⟩
    rw [List.getD_eq_getElem?_getD, List.getElem?_eq_getElem hx]
    exact List.getElem_mem hx
theorem outl_srt (n : Nat) (P : List Int) (hr : ∀ i, i < P.length → 0 ≤ P.getD i 0 ∧ P.getD i 0 < n) (hn : P.Nodup) : outl (mks n P P.length) n = srt P := by
  refine rise_eq _ _ (outl_rise _ _) (srt_lt P hn) (fun z => ?_)
  rw [outl_mem, srt_mem, getD_of_mem]
  constructor
  · rintro ⟨y, hy, hm, rfl⟩
    exact (mks_mem n P hr _ (Nat.le_refl _) y hy).1 hm
  · rintro ⟨x, hx, rfl⟩
    have h := hr x hx
    exact ⟨(P.getD x 0).toNat, by omega, (mks_mem n P hr _ (Nat.le_refl _) _ (by omega)).2 ⟨x, hx, by omega⟩, by omega⟩
theorem bpt_at (L : List Int) (f m i : Nat) (hi : i < m) : (bpt L f m).getD i 0 = L.getD (f + i) 0 := by
  unfold bpt
  rw [List.getD_eq_getElem?_getD, List.getD_eq_getElem?_getD, List.getElem?_take, if_pos hi, List.getElem?_drop]
theorem outl_bpt {n : Nat} {L : List Int} (h : Ech n L) (f m : Nat) (hf : f + m ≤ n) : outl (mks n (bpt L f m) m) n = srt (bpt L f m) ∧ (bpt L f m).length = m ∧ ∀ i, i < m → (bpt L f m).getD i 0 = L.getD (f + i) 0 ∧ 0 ≤ L.getD (f + i) 0 ∧ L.getD (f + i) 0 < n := by
  have hl := bpt_len L f m (by rw [h.len]; exact hf)
  have hr : ∀ i, i < m → 0 ≤ L.getD (f + i) 0 ∧ L.getD (f + i) 0 < n := fun i hi => h.rng (f + i) (by omega)
  have := outl_srt n (bpt L f m) (fun i hi => by rw [bpt_at _ _ _ _ (by omega)]; exact hr i (by omega)) (bpt_nodup h f m)
  rw [hl] at this
  exact ⟨this, hl, fun i hi => ⟨bpt_at _ _ _ _ hi, hr i hi⟩⟩

set_option maxHeartbeats 4000000 in
set_option maxRecDepth 100000 in
theorem rorder_ok (n : Nat) (hn : 0 < n) (hn4 : n ≤ 4096) (s ep : Int) (hep : 0 ≤ ep) (w : World) : Calls Try.prog 6 #[.int .i64 n, .int .i64 s, .int .i64 ep] w fun e w' => ∃ g c, e = .returned (.tuple #[.slice (some ⟨g, 0, none⟩) n c, .int .i64 0]) ∧ w.heap.size ≤ g ∧ Own w' g c (ord s ep n) ∧ Kept w w' := by
  have g0 : ¬ (n : Int) < 1 := by omega
  have g1 : ¬ ep < 0 := by omega
  have g2 : ¬ (4096 : Int) < (n : Int) := by omega
  have v4 : decide (4096 < n) = false := decide_eq_false (by omega)
  obtain ⟨t, ht⟩ : ∃ t, IntKind.i64.wrap (-1 - ep) = t := ⟨_, rfl⟩
  have HO : Hid (∀ u : World, Calls Try.prog 16 #[.agg #[.int .i64 s, .int .i64 t, .int .i64 0], .int .i64 n] u fun e w' => ∃ g c P, e = .returned (.tuple #[.slice (some ⟨g, 0, none⟩) n c, .agg #[.int .i64 s, .int .i64 t, .int .i64 P]]) ∧ u.heap.size ≤ g ∧ Own w' g c (ord s ep n) ∧ Kept u w') := fun u => (rshuffle_ok s t 0 n (by omega) u).mono fun e w' ⟨lv, h1, h2, h3⟩ => by
    have hl := (ech_ord s ep n hn4).len
    have e0 : (shuf s t 0 n).1 = ord s ep n := by unfold ord; rw [ht]
    rw [e0] at h2
    rcases h2 with ⟨h4, -⟩ | ⟨g, c, h4, h5, h6⟩
    · rw [h4] at hl; simp at hl; omega
    · rw [hl] at h4
      exact ⟨g, c, _, by rw [h1, h4], by omega, h6, h3⟩
  go_enter Try.func6, Try.ntmps6
  go_wp2_with fail
  refine (HO.out _).mono ?_
  rintro e w1 ⟨g, c, P, rfl, hg, ho, hk⟩
  have hg2 : w.heap.size ≤ g := hg
  clear hg
  go_wp2
  exact bodyPost_ret (v := .tuple #[.slice (some ⟨g, 0, none⟩) n c, .int .i64 0]) (by simp [results, Try.results6, go_sem, *]) rfl ⟨g, c, rfl, hg2, ho.kept ((Kept.refl _).alloc _ _), hk.alloc _ _⟩

set_option maxHeartbeats 4000000 in
set_option maxRecDepth 100000 in
theorem rorder_e (n s ep q : Int) (hq : (n < 1 ∨ ep < 0) ∧ q = 1 ∨ ¬ (n < 1 ∨ ep < 0) ∧ 4096 < n ∧ q = 2) (w : World) : Calls Try.prog 6 #[.int .i64 n, .int .i64 s, .int .i64 ep] w fun e w' => e = .returned (.tuple #[.slice none 0 0, .int .i64 q]) ∧ Kept w w' := by
  go_enter Try.func6, Try.ntmps6
  rcases hq with ⟨h, rfl⟩ | ⟨h, h2, rfl⟩
  · by_cases h0 : n < 1
    · go_wp2
      exact bodyPost_ret (v := .tuple #[.slice none 0 0, .int .i64 1]) (by simp [results, Try.results6, go_sem, *]) rfl ⟨rfl, Kept.refl _⟩
    · have h1 : ep < 0 := by omega
      clear h
      go_wp2
      exact bodyPost_ret (v := .tuple #[.slice none 0 0, .int .i64 1]) (by simp [results, Try.results6, go_sem, *]) rfl ⟨rfl, Kept.refl _⟩
  · have h0 : ¬ n < 1 := by omega
    have h1 : ¬ ep < 0 := by omega
    clear h
    go_wp2
    exact bodyPost_ret (v := .tuple #[.slice none 0 0, .int .i64 2]) (by simp [results, Try.results6, go_sem, *]) rfl ⟨rfl, Kept.refl _⟩

set_option maxHeartbeats 4000000 in
set_option maxRecDepth 100000 in
theorem order_e (n s ep q : Int) (hq : (n < 1 ∨ ep < 0) ∧ q = 1 ∨ ¬ (n < 1 ∨ ep < 0) ∧ 4096 < n ∧ q = 2) (w : World) : Calls Try.prog 5 #[.int .i64 n, .int .i64 s, .int .i64 ep] w fun e w' => e = .returned (.tuple #[.slice none 0 0, .int .i64 q]) ∧ Kept w w' := by
  go_enter Try.func5, Try.ntmps5
  rcases hq with ⟨h, rfl⟩ | ⟨h, h2, rfl⟩
  · by_cases h0 : n < 1
    · go_wp2
      exact bodyPost_ret (v := .tuple #[.slice none 0 0, .int .i64 1]) (by simp [results, Try.results5, go_sem, *]) rfl ⟨rfl, Kept.refl _⟩
    · have h1 : ep < 0 := by omega
      clear h
      go_wp2
      exact bodyPost_ret (v := .tuple #[.slice none 0 0, .int .i64 1]) (by simp [results, Try.results5, go_sem, *]) rfl ⟨rfl, Kept.refl _⟩
  · have h0 : ¬ n < 1 := by omega
    have h1 : ¬ ep < 0 := by omega
    clear h
    go_wp2
    exact bodyPost_ret (v := .tuple #[.slice none 0 0, .int .i64 2]) (by simp [results, Try.results5, go_sem, *]) rfl ⟨rfl, Kept.refl _⟩

theorem ceil_div (n s : Nat) (hs : 0 < s) (hn : 0 < n) : (n + s - 1) / s = if 0 < n % s then n / s + 1 else n / s := by
  have e := Nat.div_add_mod n s
  have h := Nat.mod_lt n hs
  obtain ⟨a, ha⟩ : ∃ a, n / s = a := ⟨_, rfl⟩
  obtain ⟨r, hr⟩ : ∃ r, n % s = r := ⟨_, rfl⟩
  rw [ha, hr] at e ⊢
  rw [hr] at h
  split
  · have : n + s - 1 = s * (a + 1) + (r - 1) := by rw [Nat.mul_succ]; omega
    rw [this, Nat.mul_add_div hs, Nat.div_eq_of_lt (by omega)]
    all_goals rfl
  · have : n + s - 1 = s * a + (s - 1) := by omega
    rw [this, Nat.mul_add_div hs, Nat.div_eq_of_lt (by omega)]
    all_goals rfl
set_option maxHeartbeats 4000000 in
set_option maxRecDepth 100000 in
theorem rbatches_ok (n s k : Nat) (hn : 0 < n) (hn4 : n ≤ 4096) (hs : 0 < s) (hs4 : s ≤ 256) (hk : (n + s - 1) / s = k) (w : World) : Calls Try.prog 8 #[.int .i64 n, .int .i64 s] w fun e w' => e = .returned (.tuple #[.int .i64 k, .int .i64 0]) ∧ Kept w w' := by
  have g0 : ¬ (n : Int) < 1 := by omega
  have g1 : ¬ (s : Int) < 1 := by omega
  have g2 : ¬ (4096 : Int) < (n : Int) := by omega
  have g3 : ¬ (256 : Int) < (s : Int) := by omega
  have v4 : decide (4096 < n) = false := decide_eq_false (by omega)
  have v5 : decide (256 < s) = false := decide_eq_false (by omega)
  have hs0 : ¬ (s : Int) = 0 := by omega
  rw [ceil_div n s hs hn] at hk
  obtain ⟨a, ha⟩ : ∃ a, n / s = a := ⟨_, rfl⟩
  obtain ⟨r, hr⟩ : ∃ r, n % s = r := ⟨_, rfl⟩
  have zd : (n : Int).tdiv (s : Int) = (a : Int) := by
    rw [Int.tdiv_eq_ediv_of_nonneg (Int.natCast_nonneg _), ← ha]; rfl
  have zm : (n : Int).tmod (s : Int) = (r : Int) := by
    rw [Int.tmod_eq_emod_of_nonneg (Int.natCast_nonneg _), ← hr]; rfl
  rw [ha, hr] at hk
  have hal : a ≤ n := by rw [← ha]; exact Nat.div_le_self _ _
  have zw : IntKind.i64.wrap (a : Int) = (a : Int) := by rw [wrap_i64]; omega
  have hrs : r < s := by rw [← hr]; exact Nat.mod_lt _ hs
  have zr : IntKind.i64.wrap (r : Int) = (r : Int) := by rw [wrap_i64]; omega
  have z2 : IntKind.i64.wrap ((a : Int) + 1) = (a : Int) + 1 := by rw [wrap_i64]; omega
  clear ha hr
  by_cases h : 0 < r
  · rw [if_pos h] at hk
    subst hk
    have h' : (0 : Int) < (r : Int) := by omega
    go_enter Try.func8, Try.ntmps8
    go_wp2
    exact bodyPost_ret (v := .tuple #[.int .i64 ((a + 1 : Nat) : Int), .int .i64 0]) (by simp [results, Try.results8, go_sem, *]) rfl ⟨rfl, Kept.refl _⟩
  · rw [if_neg h] at hk
    subst hk
    have h' : ¬ (0 : Int) < (r : Int) := by omega
    go_enter Try.func8, Try.ntmps8
    go_wp2
    exact bodyPost_ret (v := .tuple #[.int .i64 (a : Int), .int .i64 0]) (by simp [results, Try.results8, go_sem, *]) rfl ⟨rfl, Kept.refl _⟩
set_option maxHeartbeats 4000000 in
set_option maxRecDepth 100000 in
theorem rbatches_e (n p q : Int) (hq : (n < 1 ∨ p < 1) ∧ q = 1 ∨ ¬ (n < 1 ∨ p < 1) ∧ (4096 < n ∨ 256 < p) ∧ q = 2) (w : World) : Calls Try.prog 8 #[.int .i64 n, .int .i64 p] w fun e w' => e = .returned (.tuple #[.int .i64 0, .int .i64 q]) ∧ Kept w w' := by
  go_enter Try.func8, Try.ntmps8
  rcases hq with ⟨h, rfl⟩ | ⟨h, h2, rfl⟩
  · by_cases h0 : n < 1
    · go_wp2
      exact bodyPost_ret (v := .tuple #[.int .i64 0, .int .i64 1]) (by simp [results, Try.results8, go_sem, *]) rfl ⟨rfl, Kept.refl _⟩
    · have h1 : p < 1 := by omega
      clear h
      go_wp2
      exact bodyPost_ret (v := .tuple #[.int .i64 0, .int .i64 1]) (by simp [results, Try.results8, go_sem, *]) rfl ⟨rfl, Kept.refl _⟩
  · have h0 : ¬ n < 1 := by omega
    have h1 : ¬ p < 1 := by omega
    clear h
    by_cases h3 : 4096 < n
    · clear h2
      go_wp2
      exact bodyPost_ret (v := .tuple #[.int .i64 0, .int .i64 2]) (by simp [results, Try.results8, go_sem, *]) rfl ⟨rfl, Kept.refl _⟩
    · have h4 : 256 < p := by omega
      clear h2
      go_wp2
      exact bodyPost_ret (v := .tuple #[.int .i64 0, .int .i64 2]) (by simp [results, Try.results8, go_sem, *]) rfl ⟨rfl, Kept.refl _⟩
end Go.Proofs.Ytedghjededicpaa
