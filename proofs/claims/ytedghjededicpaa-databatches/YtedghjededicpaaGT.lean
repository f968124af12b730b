/- A shuffle holds each number once; how far it takes the row; what is picked of it, rising. -/
import Derived.Test.YtedghjededicpaaGM
namespace Go.Proofs.Ytedghjededicpaa
set_option linter.unusedVariables false

/-- Each of the numbers below n, once. -/
structure Ech (n : Nat) (l : List Int) : Prop where
  len : l.length = n
  rng : ∀ i, i < n → 0 ≤ l.getD i 0 ∧ l.getD i 0 < n
  inj : ∀ i j, i < n → j < n → l.getD i 0 = l.getD j 0 → i = j

theorem getDset (l : List Int) (i x : Nat) (v : Int) (hi : i < l.length) : (l.set i v).getD x 0 = if x = i then v else l.getD x 0 := by
  rw [List.getD_eq_getElem?_getD, List.getD_eq_getElem?_getD, List.getElem?_set]
  by_cases h : x = i
  · subst h; simp [hi]
  · rw [if_neg (fun e => h e.symm), if_neg h]

theorem exch_at (l : List Int) (i j x : Nat) (hi : i < l.length) (hj : j < l.length) : (exch l i j).getD x 0 = if x = j then l.getD i 0 else if x = i then l.getD j 0 else l.getD x 0 := by
  unfold exch
  rw [getDset _ j x _ (by simpa using hj), getDset _ i x _ hi]

theorem Ech.exch {n : Nat} {l : List Int} (h : Ech n l) (i j : Nat) (hi : i < n) (hj : j < n) : Ech n (exch l i j) := by
  have hil : i < l.length := by rw [h.len]; exact hi
  have hjl : j < l.length := by rw [h.len]; exact hj
  refine ⟨by rw [exch_length]; exact h.len, fun x hx => ?_, fun x y hx hy e => ?_⟩
  · rw [exch_at l i j x hil hjl]
    split
    · exact h.rng i hi
    · split
      · exact h.rng j hj
      · exact h.rng x hx
  · rw [exch_at l i j x hil hjl, exch_at l i j y hil hjl] at e
    have a1 := h.inj i j hi hj
    have a2 := h.inj j i hj hi
    have a3 := h.inj i x hi hx
    have a4 := h.inj i y hi hy
    have a5 := h.inj j x hj hx
    have a6 := h.inj j y hj hy
    have a7 := h.inj x i hx hi
    have a8 := h.inj y i hy hi
    have a9 := h.inj x j hx hj
    have a10 := h.inj y j hy hj
    have a11 := h.inj x y hx hy
    (repeat' split at e) <;> first | omega | (have := a1 e; omega) | (have := a2 e; omega) | (have := a3 e; omega) | (have := a4 e; omega) | (have := a5 e; omega) | (have := a6 e; omega) | (have := a7 e; omega) | (have := a8 e; omega) | (have := a9 e; omega) | (have := a10 e; omega) | (have := a11 e; omega)

theorem ups_at (n x : Nat) (h : x < n) : (ups n).getD x 0 = (x : Int) := by
  unfold ups
  rw [List.getD_eq_getElem?_getD, List.getElem?_map, List.getElem?_range h]
  rfl
theorem ech_ups (n : Nat) : Ech n (ups n) :=
  ⟨ups_length n, fun i hi => by rw [ups_at n i hi]; omega, fun i j hi hj e => by rw [ups_at n i hi, ups_at n j hj] at e; omega⟩

theorem ech_shf (s t : Int) (n : Nat) (hn : n < 9223372036854775808) (i : Nat) : ∀ (a : Int) (l : List Int), i < n ∨ i = 0 → Ech n l → Ech n (shf s t i a l).1 := by
  induction i with
  | zero => intro a l _ h; exact h
  | succ i ih =>
    intro a l hi h
    rw [shf]
    have hb := bel_less s t a (i + 2) (by omega)
    exact ih _ _ (by omega) (h.exch (i + 1) _ (by omega) (by omega))

theorem ech_shuf (s t a : Int) (n : Nat) (hn : n < 9223372036854775808) : Ech n (shuf s t a n).1 :=
  ech_shf s t n hn (n - 1) a (ups n) (by omega) (ech_ups n)

/-- How far i exchanges take the row. -/
theorem shf_far (s t : Int) (i : Nat) (hi : i ≤ 65536) : ∀ (a : Int) (l : List Int), ∃ T : Nat, i ≤ T ∧ T ≤ i * 65538 ∧ (shf s t i a l).2 % 18446744073709551616 = (a + T) % 18446744073709551616 := by
  induction i with
  | zero => intro a l; exact ⟨0, Nat.le_refl _, by omega, by simp [shf]⟩
  | succ i ih =>
    intro a l
    obtain ⟨T, h1, h2, h3⟩ := ih (by omega) (beh s t a (i + 2)) (exch l (i + 1) (bel s t a (i + 2)))
    have hc := cnt_lt s t a (i + 2) (by omega) (by omega)
    refine ⟨cnt s t a (i + 2) + 1 + T, by omega, by omega, ?_⟩
    rw [shf, h3]
    unfold beh sg64
    omega

theorem shuf_far (s t a : Int) (n : Nat) (hn : n ≤ 65536) : ∃ T : Nat, n - 1 ≤ T ∧ T < 4611686018427387904 ∧ (shuf s t a n).2 % 18446744073709551616 = (a + T) % 18446744073709551616 := by
  obtain ⟨T, h1, h2, h3⟩ := shf_far s t (n - 1) (by omega) a (ups n)
  have : (n - 1) * 65538 ≤ 65536 * 65538 := Nat.mul_le_mul_right _ (by omega)
  exact ⟨T, h1, by omega, h3⟩

theorem shuf_still (s t a : Int) (n : Nat) (hn : n < 2) : (shuf s t a n).2 = a := by
  have : n - 1 = 0 := by omega
  unfold shuf
  rw [this]
  rfl

/-- What is picked: rising, each one of the first k. -/
theorem ech_nodup {n : Nat} {l : List Int} (h : Ech n l) : l.Nodup := by
  rw [List.Nodup, List.pairwise_iff_getElem]
  intro i j hi hj hij e
  have := h.inj i j (by rw [← h.len]; exact hi) (by rw [← h.len]; exact hj) (by
    rw [List.getD_eq_getElem?_getD, List.getD_eq_getElem?_getD, List.getElem?_eq_getElem hi, List.getElem?_eq_getElem hj]
    exact e)
  omega

theorem getD_mem (l : List Int) (i : Nat) (hi : i < l.length) : l.getD i 0 ∈ l := by
  rw [List.getD_eq_getElem?_getD, List.getElem?_eq_getElem hi]
  exact List.getElem_mem hi

theorem picked_at {n : Nat} {l : List Int} (h : Ech n l) (k : Nat) (hk : k ≤ n) (i : Nat) (hi : i < k) :
    ∃ x, x < k ∧ ((l.take k).mergeSort fun x y => decide (x ≤ y)).getD i 0 = l.getD x 0 := by
  have hlen : ((l.take k).mergeSort fun x y => decide (x ≤ y)).length = k := by
    rw [List.length_mergeSort, List.length_take, h.len]; omega
  have hm := getD_mem _ i (by rw [hlen]; exact hi)
  rw [List.mem_mergeSort] at hm
  obtain ⟨x, hx, e⟩ := List.getElem_of_mem hm
  have hx2 : x < k := by rw [List.length_take, h.len] at hx; omega
  refine ⟨x, hx2, ?_⟩
  rw [← e, List.getElem_take, List.getD_eq_getElem?_getD, List.getElem?_eq_getElem (by rw [h.len]; omega)]
  rfl

theorem picked_rise {n : Nat} {l : List Int} (h : Ech n l) (k : Nat) (hk : k ≤ n) (i : Nat) (hi : i + 1 < k) :
    ((l.take k).mergeSort fun x y => decide (x ≤ y)).getD i 0 < ((l.take k).mergeSort fun x y => decide (x ≤ y)).getD (i + 1) 0 := by
  have hlen : ((l.take k).mergeSort fun x y => decide (x ≤ y)).length = k := by
    rw [List.length_mergeSort, List.length_take, h.len]; omega
  have hs := List.pairwise_mergeSort (le := fun (x y : Int) => decide (x ≤ y)) (by intro a b c h1 h2; simp at *; omega) (by intro a b; simp; omega) (l.take k)
  have hn : ((l.take k).mergeSort fun x y => decide (x ≤ y)).Nodup := (List.mergeSort_perm _ _).nodup_iff.2 ((ech_nodup h).sublist (List.take_sublist _ _))
  rw [List.pairwise_iff_getElem] at hs
  rw [List.Nodup, List.pairwise_iff_getElem] at hn
  have h1 := hs i (i + 1) (by omega) (by omega) (by omega)
  have h2 := hn i (i + 1) (by omega) (by omega) (by omega)
  rw [List.getD_eq_getElem?_getD, List.getD_eq_getElem?_getD, List.getElem?_eq_getElem (by omega), List.getElem?_eq_getElem (by omega)]
  simp only [decide_eq_true_eq] at h1
  simp only [Option.getD_some]
  omega

end Go.Proofs.Ytedghjededicpaa
