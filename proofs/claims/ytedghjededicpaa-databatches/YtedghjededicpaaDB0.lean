/- An epoch's order, dealt out in batches: each number comes once. -/
import Derived.Test.YtedghjededicpaaGT
import Derived.Test.YtedghjededicpaaGS
namespace Go.Proofs.Ytedghjededicpaa
open Go.ChangeShapes Go.WideShapes Go.ChangeAt Go.RowKit Go.Sort
set_option linter.unusedVariables false

theorem ech_mem {n : Nat} {l : List Int} (h : Ech n l) (x : Nat) (hx : x < n) : (x : Int) ∈ l := by
  refine Classical.byContradiction fun hm => ?_
  have := pigeons n (n + 1) (fun i => if i < n then (l.getD i 0).toNat else x) (fun i hi => ?_) (fun i j hi hj e => ?_)
  · omega
  · split
    · have := h.rng i (by omega); omega
    · exact hx
  · have hne : ∀ k, k < n → (l.getD k 0).toNat ≠ x := fun k hk e => hm (by
      have h1 := h.rng k hk
      have h2 := getD_mem l k (by rw [h.len]; exact hk)
      have : l.getD k 0 = (x : Int) := by omega
      rw [this] at h2; exact h2)
    by_cases hi' : i < n
    · by_cases hj' : j < n
      · rw [if_pos hi', if_pos hj'] at e
        have h1 := h.rng i hi'
        have h2 := h.rng j hj'
        exact h.inj i j hi' hj' (by omega)
      · rw [if_pos hi', if_neg hj'] at e
        exact absurd e (hne i hi')
    · by_cases hj' : j < n
      · rw [if_neg hi', if_pos hj'] at e
        exact absurd e.symm (hne j hj')
      · omega
theorem ech_in {n : Nat} {l : List Int} (h : Ech n l) (x : Int) (hx : x ∈ l) : 0 ≤ x ∧ x < n := by
  obtain ⟨i, hi, e⟩ := List.getElem_of_mem hx
  have := h.rng i (by rw [← h.len]; exact hi)
  rw [List.getD_eq_getElem?_getD, List.getElem?_eq_getElem hi, Option.getD_some, e] at this
  exact this
/-- so many from a place on -/
def bpt (l : List Int) (f k : Nat) : List Int := (l.drop f).take k
theorem bpt_len (l : List Int) (f k : Nat) (h : f + k ≤ l.length) : (bpt l f k).length = k := by
  unfold bpt
  rw [List.length_take, List.length_drop]
  omega
theorem take_bpt (l : List Int) (f k : Nat) : l.take f ++ bpt l f k = l.take (f + k) := by
  unfold bpt
  rw [List.take_add]
theorem srt_mem (P : List Int) (x : Int) : x ∈ srt P ↔ x ∈ P := by unfold srt; exact List.mem_mergeSort
theorem srt_perm (P : List Int) : (srt P).Perm P := List.mergeSort_perm _ _
theorem srt_rise (P : List Int) (hn : P.Nodup) (i : Nat) (hi : i + 1 < P.length) : (srt P).getD i 0 < (srt P).getD (i + 1) 0 := by
  have hlen := srt_length P
  have hs := List.pairwise_mergeSort (le := fun (x y : Int) => decide (x ≤ y)) (by intro a b c h1 h2; simp at *; omega) (by intro a b; simp; omega) P
  have hn : (srt P).Nodup := (srt_perm P).nodup_iff.2 hn
  unfold srt at *
  rw [List.pairwise_iff_getElem] at hs
  rw [List.Nodup, List.pairwise_iff_getElem] at hn
  have h1 := hs i (i + 1) (by omega) (by omega) (by omega)
  have h2 := hn i (i + 1) (by omega) (by omega) (by omega)
  rw [List.getD_eq_getElem?_getD, List.getD_eq_getElem?_getD, List.getElem?_eq_getElem (by omega), List.getElem?_eq_getElem (by omega)]
  simp only [decide_eq_true_eq] at h1
  simp only [Option.getD_some]
  omega
theorem bpt_nodup {n : Nat} {l : List Int} (h : Ech n l) (f k : Nat) : (bpt l f k).Nodup := ((ech_nodup h).sublist (List.drop_sublist _ _)).sublist (List.take_sublist _ _)

/-- Marks: those of S have 1, the others 0. -/
structure Ct (n : Nat) (S A : List Int) : Prop where
  len : A.length = n
  one : ∀ x : Nat, x < n → (x : Int) ∈ S → A.getD x 0 = 1
  zero : ∀ x : Nat, x < n → ¬ (x : Int) ∈ S → A.getD x 0 = 0
theorem ct_start (n : Nat) : Ct n [] (List.replicate n 0) := ⟨by simp, fun x _ h => by simp at h, fun x hx _ => getD_replicate n x⟩
theorem Ct.step {n : Nat} {S A : List Int} (h : Ct n S A) (y : Nat) (hy : y < n) (hS : ¬ (y : Int) ∈ S) : A.getD y 0 = 0 ∧ Ct n (S ++ [(y : Int)]) (A.set y 1) := by
  have hl := h.len
  refine ⟨h.zero y hy hS, by simpa using hl, fun x hx hm => ?_, fun x hx hm => ?_⟩
  · rw [getDset _ _ _ _ (by omega)]
    split
    · rfl
    · rename_i e
      refine h.one x hx ?_
      rcases List.mem_append.1 hm with h1 | h1
      · exact h1
      · have : (x : Int) = y := by simpa using h1
        omega
  · rw [getDset _ _ _ _ (by omega)]
    have h1 : ¬ (x : Int) ∈ S := fun h => hm (List.mem_append.2 (.inl h))
    have h2 : x ≠ y := fun e => hm (List.mem_append.2 (.inr (by rw [e]; simp)))
    rw [if_neg h2]
    exact h.zero x hx h1
theorem Ct.same {n : Nat} {S S' A : List Int} (h : Ct n S A) (e : ∀ x, x ∈ S ↔ x ∈ S') : Ct n S' A := ⟨h.len, fun x hx hm => h.one x hx ((e _).2 hm), fun x hx hm => h.zero x hx (fun h1 => hm ((e _).1 h1))⟩
/-- the next one of a batch -/
theorem batch_next {n : Nat} {l : List Int} (h : Ech n l) (f k : Nat) (hk : f + k ≤ n) (i : Nat) (hi : i < k) : ∃ y : Nat, y < n ∧ (srt (bpt l f k)).getD i 0 = (y : Int) ∧ ¬ (y : Int) ∈ l.take f ++ (srt (bpt l f k)).take i ∧ (srt (bpt l f k)).take (i + 1) = (srt (bpt l f k)).take i ++ [(y : Int)] := by
  have hbl : (bpt l f k).length = k := bpt_len l f k (by rw [h.len]; exact hk)
  have hsl : (srt (bpt l f k)).length = k := by rw [srt_length, hbl]
  have hg : (srt (bpt l f k)).getD i 0 = (srt (bpt l f k))[i]'(by omega) := by
    rw [List.getD_eq_getElem?_getD, List.getElem?_eq_getElem (by omega)]; rfl
  have hm : (srt (bpt l f k))[i]'(by omega) ∈ l := by
    have h1 : (srt (bpt l f k))[i]'(by omega) ∈ srt (bpt l f k) := List.getElem_mem _
    rw [srt_mem] at h1
    exact List.mem_of_mem_drop (List.mem_of_mem_take h1)
  obtain ⟨h0, h1⟩ := ech_in h _ hm
  have ht : (srt (bpt l f k)).take (i + 1) = (srt (bpt l f k)).take i ++ [(srt (bpt l f k))[i]'(by omega)] := List.take_succ_eq_append_getElem (by omega)
  have hnd : (l.take f ++ srt (bpt l f k)).Nodup := by
    refine ((srt_perm (bpt l f k)).append_left (l.take f)).nodup_iff.2 ?_
    rw [take_bpt]
    exact (ech_nodup h).sublist (List.take_sublist _ _)
  refine ⟨((srt (bpt l f k))[i]'(by omega)).toNat, by omega, by rw [hg]; omega, ?_, by rw [ht]; congr 2; omega⟩
  rw [show (((srt (bpt l f k))[i]'(by omega)).toNat : Int) = (srt (bpt l f k))[i]'(by omega) by omega]
  intro hin
  have hsub : (l.take f ++ (srt (bpt l f k)).take (i + 1)).Nodup := hnd.sublist (List.Sublist.append_left (List.take_sublist _ _) _)
  rw [ht, ← List.append_assoc] at hsub
  rw [List.nodup_append] at hsub
  exact hsub.2.2 _ hin _ (by simp) rfl
theorem batch_done {n : Nat} {l A : List Int} (f k : Nat) (h : Ct n (l.take f ++ (srt (bpt l f k)).take k) A) (hl : (bpt l f k).length = k) : Ct n (l.take (f + k)) A := by
  refine h.same fun x => ?_
  rw [show (srt (bpt l f k)).take k = srt (bpt l f k) from List.take_of_length_le (by rw [srt_length, hl]; exact Nat.le_refl _), ← take_bpt, List.mem_append, List.mem_append, srt_mem]

/- a part of a list of one's own, sorted -/
theorem sort_part (L : List Int) (hlen : L.length < 100000000) (g c f k : Nat) (hf : f + k ≤ L.length) (cap : Nat) (w : World) (h : Own w g c L) : Calls Try.prog 17 #[.slice (some ⟨g, f, none⟩) k cap] w fun e w' => e = .returned (.tuple #[]) ∧ Own w' g c (L.take f ++ srt (bpt L f k) ++ L.drop (f + k)) ∧ w.grownBy w' (some g) := by
  have hl := h.lt
  have hc := h
  have hbl := bpt_len L f k hf
  obtain ⟨cur, hb, h1, h2, h3, h4⟩ := h
  have hH : Holds (Value.int .i64) w g f (bpt L f k).toArray := fun j hj => by
    have hj' : j < k := by simpa [hbl] using hj
    refine ⟨?_, hc.free _⟩
    rw [hc.cell (f + j) (by omega)]
    congr 2
    rw [getElem!_pos _ j (by simpa [hbl] using hj'), List.getD_eq_getElem?_getD, List.getElem?_eq_getElem (by omega)]
    simp [bpt]
  have := Any.slices_Sort_int Try.lays189 g f cap (bpt L f k) w hH hl (by omega)
  rw [hbl] at this
  refine Calls.mono this ?_
  rintro e w' ⟨rfl, n, os, rfl⟩
  have hs : (srt (bpt L f k)).length = k := by rw [srt_length, hbl]
  have hlen2 : (L.take f ++ srt (bpt L f k) ++ L.drop (f + k)).length = L.length := by
    simp only [List.length_append, List.length_take, List.length_drop, hs]
    omega
  refine ⟨rfl, ⟨putCells (Value.int .i64) f (srt (bpt L f k)).toArray cur, ?_, by rw [hlen2]; exact h1, h2, ?_, ?_⟩, ?_⟩
  · rw [heap_grow_old _ _ (by simpa using hl)]
    simp [putRow, mapBlock, Sort.ahead, Array.getElem?_modify, hb, onCells]
    rfl
  · simp [putCells, h3]
  · rw [hlen2]
    apply List.ext_getElem?
    intro j
    by_cases hj : j < L.length
    · have h5 : (cur.toList.take L.length)[j]? = (L.map (Value.int .i64))[j]? := by rw [h4]
      rw [List.getElem?_take_of_lt hj] at h5 ⊢
      rw [List.getElem?_map, List.getElem?_eq_getElem hj] at h5
      rw [Array.getElem?_toList] at h5 ⊢
      rw [List.getElem?_map]
      simp only [putCells, Array.getElem?_mapIdx]
      rw [h5]
      simp only [Option.map_some, List.size_toArray, hs]
      by_cases e1 : j < f
      · rw [if_neg (by omega), List.append_assoc, List.getElem?_append_left (by simp; omega), List.getElem?_take_of_lt e1, List.getElem?_eq_getElem hj]
        rfl
      · by_cases e2 : j < f + k
        · rw [if_pos (by omega), List.getElem?_append_left (by simp [hs]; omega), List.getElem?_append_right (by simp; omega)]
          rw [List.length_take, Nat.min_eq_left (by omega), List.getElem?_eq_getElem (by omega), getElem!_pos _ _ (by simp [hs]; omega)]
          simp
        · rw [if_neg (by omega), List.getElem?_append_right (by simp [hs]; omega)]
          rw [List.length_append, List.length_take, hs, Nat.min_eq_left (by omega), List.getElem?_drop, show f + k + (j - (f + k)) = j by omega, List.getElem?_eq_getElem hj]
          rfl
    · rw [List.getElem?_take_eq_none (by omega), List.getElem?_eq_none (by simp only [List.length_map, hlen2]; omega)]
  · refine ⟨rfl, rfl, rfl, by simp, fun k hk hne => ?_⟩
    rw [heap_grow_old _ _ (by simpa using hk)]
    have : g ≠ k := fun e => hne (by rw [e])
    simp [putRow, mapBlock, Sort.ahead, Array.getElem?_modify, this]

end Go.Proofs.Ytedghjededicpaa
