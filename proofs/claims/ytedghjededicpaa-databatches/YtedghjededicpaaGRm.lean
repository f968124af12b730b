/- The document's own Pick as lists: those that are marked, rising: the first k, sorted. -/
import Derived.Test.YtedghjededicpaaGT
namespace Go.Proofs.Ytedghjededicpaa
set_option linter.unusedVariables false

def mks (n : Nat) (L : List Int) : Nat → List Bool
  | 0 => List.replicate n false
  | i + 1 => (mks n L i).set (L.getD i 0).toNat true
theorem mks_length (n : Nat) (L : List Int) (i : Nat) : (mks n L i).length = n := by
  induction i with
  | zero => simp [mks]
  | succ i ih => rw [mks, List.length_set, ih]
theorem getDsetb (l : List Bool) (i x : Nat) (v : Bool) (hi : i < l.length) : (l.set i v).getD x false = if x = i then v else l.getD x false := by
  rw [List.getD_eq_getElem?_getD, List.getD_eq_getElem?_getD, List.getElem?_set]
  by_cases h : x = i
  · subst h; simp [hi]
  · rw [if_neg (fun e => h e.symm), if_neg h]
theorem mks_at {n : Nat} {L : List Int} (h : Ech n L) (i : Nat) (hi : i ≤ n) (y : Nat) (hy : y < n) : (mks n L i).getD y false = true ↔ ∃ x, x < i ∧ L.getD x 0 = (y : Int) := by
  induction i with
  | zero =>
    simp only [mks]
    rw [List.getD_eq_getElem?_getD, List.getElem?_replicate, if_pos hy]
    simp
  | succ i ih =>
    have hr := h.rng i (by omega)
    rw [mks, getDsetb _ _ _ _ (by rw [mks_length]; omega)]
    constructor
    · intro e
      split at e
      · exact ⟨i, by omega, by omega⟩
      · obtain ⟨x, hx, hy2⟩ := (ih (by omega)).1 e
        exact ⟨x, by omega, hy2⟩
    · rintro ⟨x, hx, hxy⟩
      split
      · rfl
      · rename_i hne
        refine (ih (by omega)).2 ⟨x, ?_, hxy⟩
        rcases Nat.lt_or_ge x i with h1 | h1
        · exact h1
        · have : x = i := by omega
          subst this
          omega

/-- Those below j that are marked. -/
def outl (V : List Bool) (j : Nat) : List Int := ((List.range j).filter fun y : Nat => V.getD y false).map fun y : Nat => (y : Int)
theorem outl_yes (V : List Bool) (j : Nat) (h : V.getD j false = true) : outl V (j + 1) = outl V j ++ [(j : Int)] := by
  unfold outl
  rw [List.range_succ, List.filter_append, List.map_append, List.filter_cons_of_pos (p := fun y : Nat => V.getD y false) h]
  rfl
theorem outl_no (V : List Bool) (j : Nat) (h : V.getD j false = false) : outl V (j + 1) = outl V j := by
  unfold outl
  rw [List.range_succ, List.filter_append, List.map_append, List.filter_cons_of_neg (p := fun y : Nat => V.getD y false) (by rw [h]; decide)]
  simp
theorem outl_length (V : List Bool) (j : Nat) : (outl V j).length ≤ j := by
  unfold outl
  rw [List.length_map]
  exact Nat.le_trans (List.length_filter_le _ _) (by simp)
theorem outl_mem (V : List Bool) (n : Nat) (x : Int) : x ∈ outl V n ↔ ∃ y : Nat, y < n ∧ V.getD y false = true ∧ x = (y : Int) := by
  unfold outl
  simp only [List.mem_map, List.mem_filter, List.mem_range]
  constructor
  · rintro ⟨y, ⟨h1, h2⟩, h3⟩; exact ⟨y, h1, h2, h3.symm⟩
  · rintro ⟨y, h1, h2, h3⟩; exact ⟨y, ⟨h1, h2⟩, h3.symm⟩
theorem outl_rise (V : List Bool) (n : Nat) : (outl V n).Pairwise (· < ·) := by
  unfold outl
  rw [List.pairwise_map]
  exact (List.pairwise_lt_range.filter _).imp (fun h => by omega)

theorem rise_eq : ∀ (a b : List Int), a.Pairwise (· < ·) → b.Pairwise (· < ·) → (∀ x, x ∈ a ↔ x ∈ b) → a = b
  | [], [], _, _, _ => rfl
  | [], y :: b, _, _, h => absurd ((h y).2 (by simp)) (by simp)
  | x :: a, [], _, _, h => absurd ((h x).1 (by simp)) (by simp)
  | x :: a, y :: b, ha, hb, h => by
    rw [List.pairwise_cons] at ha hb
    have e : x = y := by
      have h1 := (h x).1 (by simp)
      have h2 := (h y).2 (by simp)
      rcases List.mem_cons.1 h1 with h1 | h1
      · exact h1
      · rcases List.mem_cons.1 h2 with h2 | h2
        · exact h2.symm
        · have := ha.1 y h2; have := hb.1 x h1; omega
    subst e
    congr 1
    refine rise_eq a b ha.2 hb.2 (fun z => ?_)
    constructor
    · intro hz
      have hlt := ha.1 z hz
      rcases List.mem_cons.1 ((h z).1 (by simp [hz])) with h1 | h1
      · omega
      · exact h1
    · intro hz
      have hlt := hb.1 z hz
      rcases List.mem_cons.1 ((h z).2 (by simp [hz])) with h1 | h1
      · omega
      · exact h1

theorem sorted_rise {n : Nat} {l : List Int} (h : Ech n l) (k : Nat) : ((l.take k).mergeSort fun x y => decide (x ≤ y)).Pairwise (· < ·) := by
  have hs := List.pairwise_mergeSort (le := fun (x y : Int) => decide (x ≤ y)) (by intro a b c h1 h2; simp at *; omega) (by intro a b; simp; omega) (l.take k)
  have hn : ((l.take k).mergeSort fun x y => decide (x ≤ y)).Nodup := (List.mergeSort_perm _ _).nodup_iff.2 ((ech_nodup h).sublist (List.take_sublist _ _))
  refine (hs.and hn).imp (fun {a b} hab => ?_)
  have h1 := hab.1
  have h2 := hab.2
  simp only [decide_eq_true_eq] at h1
  omega

theorem take_mem {n : Nat} {l : List Int} (h : Ech n l) (k : Nat) (hk : k ≤ n) (z : Int) : z ∈ l.take k ↔ ∃ x, x < k ∧ l.getD x 0 = z := by
  constructor
  · intro hz
    obtain ⟨x, hx, e⟩ := List.getElem_of_mem hz
    have hx2 : x < k := by rw [List.length_take, h.len] at hx; omega
    refine ⟨x, hx2, ?_⟩
    rw [← e, List.getElem_take, List.getD_eq_getElem?_getD, List.getElem?_eq_getElem (by rw [h.len]; omega)]
    rfl
  · rintro ⟨x, hx, rfl⟩
    have hxl : x < l.length := by rw [h.len]; omega
    have hxt : x < (l.take k).length := by rw [List.length_take]; omega
    have : (l.take k)[x] = l.getD x 0 := by
      rw [List.getElem_take, List.getD_eq_getElem?_getD, List.getElem?_eq_getElem hxl]
      rfl
    rw [← this]
    exact List.getElem_mem hxt

theorem outl_sorted {n : Nat} {l : List Int} (h : Ech n l) (k : Nat) (hk : k ≤ n) : outl (mks n l k) n = (l.take k).mergeSort fun x y => decide (x ≤ y) := by
  refine rise_eq _ _ (outl_rise _ _) (sorted_rise h k) (fun z => ?_)
  rw [outl_mem, List.mem_mergeSort, take_mem h k hk]
  constructor
  · rintro ⟨y, hy, hm, rfl⟩
    exact (mks_at h k hk y hy).1 hm
  · rintro ⟨x, hx, rfl⟩
    have hr := h.rng x (by omega)
    refine ⟨(l.getD x 0).toNat, by omega, (mks_at h k hk _ (by omega)).2 ⟨x, hx, by omega⟩, by omega⟩

end Go.Proofs.Ytedghjededicpaa
