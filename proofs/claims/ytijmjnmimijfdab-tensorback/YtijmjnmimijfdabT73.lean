/- What comes back: elements turned twice, formed and back, cut and glued. -/
import Derived.Test.YtijmjnmimijfdabT72
import Derived.Test.YtijmjnmimijfdabT71
import Derived.Test.YtijmjnmimijfdabTG5
namespace Go.Proofs.Ytijmjnmimijfdab
open Go.ChangeShapes Go.WideShapes Go.ChangeAt Go.RowKit
set_option linter.unusedVariables false
set_option linter.unusedSimpArgs false

theorem cln_idem (b n : Int) (hn : n = 64 ∨ n = 32) : cln (cln b n) n = cln b n := by
  have h64 : cls 9221120237041090561 64 = 4 := by decide +kernel
  have h32 : cls 2143289345 32 = 4 := by decide +kernel
  unfold cln
  by_cases h : cls b n = 4
  · rw [if_pos h]
    rcases hn with rfl | rfl
    · simp [h64]
    · simp [h32]
  · rw [if_neg h, if_neg h]
theorem map_getD (f : Int → Int) (L : List Int) (i : Nat) (h : i < L.length) : (L.map f).getD i 0 = f (L.getD i 0) := by
  rw [List.getD_eq_getElem?_getD, List.getD_eq_getElem?_getD, List.getElem?_map, List.getElem?_eq_getElem h]
  rfl
theorem getD_left (L K : List Int) (i : Nat) (h : i < L.length) : (L ++ K).getD i 0 = L.getD i 0 := by
  rw [List.getD_eq_getElem?_getD, List.getElem?_append_left h, ← List.getD_eq_getElem?_getD]
theorem getD_right (L K : List Int) (i : Nat) (h : L.length ≤ i) : (L ++ K).getD i 0 = K.getD (i - L.length) 0 := by
  rw [List.getD_eq_getElem?_getD, List.getElem?_append_right h, ← List.getD_eq_getElem?_getD]
/-- Turned twice. -/
theorem back_turn (R C : Nat) (n : Int) (hn : n = 64 ∨ n = 32) (hR : 0 < R) (hC : 0 < C) (M : List Int) (hML : M.length = R * C) (i : Nat) (hi : i < R * C) :
    cln (M.getD i 0) n = cln (((lst (C * R) (trf ((lst (R * C) (trf M R C)).map (cln · n)) C R)).map (cln · n)).getD i 0) n := by
  have hi' : i < C * R := by rw [Nat.mul_comm]; exact hi
  have h1 : i / C < R := Nat.div_lt_of_lt_mul hi'
  have h2 : i % C < C := Nat.mod_lt _ hC
  have hj : i % C * R + i / C < R * C := by
    calc i % C * R + i / C < i % C * R + R := by omega
      _ = (i % C + 1) * R := by rw [Nat.succ_mul]
      _ ≤ C * R := Nat.mul_le_mul_right _ h2
      _ = R * C := Nat.mul_comm _ _
  rw [map_getD _ _ _ (by rw [lst_length]; exact hi'), lst_get _ _ _ hi', cln_idem _ _ hn]
  unfold trf
  rw [map_getD _ _ _ (by rw [lst_length]; exact hj), lst_get _ _ _ hj, cln_idem _ _ hn]
  obtain ⟨p1, p2⟩ := place_div R (i / C) (i % C) h1
  rw [p1, p2]
  congr 2
  rw [Nat.mul_comm (i / C) C]
  exact (Nat.div_add_mod i C).symm
/-- Formed and back. -/
theorem back_form (n : Int) (hn : n = 64 ∨ n = 32) (M : List Int) (i : Nat) (hi : i < M.length) : cln (M.getD i 0) n = cln (((M.map (cln · n)).map (cln · n)).getD i 0) n := by
  rw [map_getD _ _ _ (by simpa using hi), map_getD _ _ _ hi, cln_idem _ _ hn, cln_idem _ _ hn]
/-- Widened and back. -/
theorem wide_at (M : List Int) (i : Nat) (hi : i < M.length) : ((lst M.length (fun j => cvw (M.getD j 0))).map (cln · 64)).getD i 0 = cvw (M.getD i 0) := by
  rw [map_getD _ _ _ (by rw [lst_length]; exact hi), lst_get _ _ _ hi, cvw_cln]
theorem back_wide (M : List Int) (i : Nat) (hi : i < M.length) : cln (M.getD i 0) 32 = cln (((lst M.length (fun j => cln (M.getD j 0) 32)).map (cln · 32)).getD i 0) 32 := by
  rw [map_getD _ _ _ (by rw [lst_length]; exact hi), lst_get _ _ _ hi, cln_idem _ _ (.inr rfl), cln_idem _ _ (.inr rfl)]
/-- Two lists, one behind the other. -/
theorem cat_two (L : Nat → List Int) : catL L 2 = L 0 ++ L 1 := by simp [catL]
/-- Cut into upper and lower rows, and glued. -/
theorem back_rows (R C k : Nat) (n : Int) (hn : n = 64 ∨ n = 32) (hC : 0 < C) (hk : k < R) (M : List Int) (hML : M.length = R * C) (L : Nat → List Int) (h0 : L 0 = (lst ((k - 0) * C) (ctf M C 0 0 C)).map (cln · n)) (h1 : L 1 = (lst ((R - k) * C) (ctf M C k 0 C)).map (cln · n)) (i : Nat) (hi : i < R * C) :
    cln (M.getD i 0) n = cln (((catL L 2).map (cln · n)).getD i 0) n := by
  have hl0 : (L 0).length = k * C := by rw [h0, List.length_map, lst_length, Nat.sub_zero]
  have hl1 : (L 1).length = (R - k) * C := by rw [h1, List.length_map, lst_length]
  have hsum : k * C + (R - k) * C = R * C := by rw [← Nat.add_mul]; congr 1; omega
  rw [map_getD _ _ _ (by rw [cat_two, List.length_append, hl0, hl1]; omega), cln_idem _ _ hn, cat_two]
  rcases Nat.lt_or_ge i (k * C) with h | h
  · rw [getD_left _ _ _ (by omega), h0]
    rw [map_getD _ _ _ (by rw [lst_length, Nat.sub_zero]; exact h), lst_get _ _ _ (by rw [Nat.sub_zero]; exact h), cln_idem _ _ hn]
    unfold ctf
    congr 2
    rw [Nat.zero_add, Nat.zero_add, Nat.mul_comm]
    exact (Nat.div_add_mod i C).symm
  · have hj : i - k * C < (R - k) * C := by omega
    rw [getD_right _ _ _ (by omega), hl0, h1]
    rw [map_getD _ _ _ (by rw [lst_length]; exact hj), lst_get _ _ _ hj, cln_idem _ _ hn]
    unfold ctf
    congr 2
    rw [Nat.zero_add, Nat.add_mul, Nat.add_assoc, Nat.mul_comm ((i - k * C) / C) C, Nat.div_add_mod]
    omega
theorem catL_lenC (A : Nat → List Int) (C R : Nat) (h : ∀ r, r < R → (A r).length = C) : (catL A R).length = R * C := by
  induction R with
  | zero => simp [catL]
  | succ R ih => rw [catL, List.length_append, ih (fun r hr => h r (by omega)), h R (by omega), Nat.succ_mul]
theorem catL_at (A : Nat → List Int) (C R : Nat) (h : ∀ r, r < R → (A r).length = C) (r c : Nat) (hr : r < R) (hc : c < C) : (catL A R).length = R * C ∧ (catL A R).getD (r * C + c) 0 = (A r).getD c 0 := by
  induction R with
  | zero => omega
  | succ R ih =>
    rw [catL]
    have hlR : (catL A R).length = R * C := by
      rcases Nat.eq_zero_or_pos R with h0 | h0
      · subst h0; simp [catL]
      · exact (catL_lenC A C R (fun r hr => h r (by omega)))
    refine ⟨by rw [List.length_append, hlR, h R (by omega), Nat.succ_mul], ?_⟩
    rcases Nat.lt_or_ge r R with h1 | h1
    · have h2 := row_lt r R C c h1 hc
      rw [getD_left _ _ _ (by omega)]
      exact (ih (fun r hr => h r (by omega)) h1).2
    · obtain rfl : r = R := by omega
      rw [getD_right _ _ _ (by omega), hlR]
      congr 1
      omega
/-- Cut into left and right columns, and glued. -/
theorem back_cols (R C k : Nat) (n : Int) (hn : n = 64 ∨ n = 32) (hk0 : 0 < k) (hk : k < C) (M : List Int) (hML : M.length = R * C) (D : Nat → Nat) (hD0 : D 0 = k) (hD1 : D 1 = C - k) (L : Nat → List Int) (h0 : L 0 = (lst (R * (k - 0)) (ctf M C 0 0 (k - 0))).map (cln · n)) (h1 : L 1 = (lst (R * (C - k)) (ctf M C 0 k (C - k))).map (cln · n)) (i : Nat) (hi : i < R * C) :
    cln (M.getD i 0) n = cln (((catL (rwA D L 2) R).map (cln · n)).getD i 0) n := by
  have hC : 0 < C := by omega
  have hr : i / C < R := Nat.div_lt_of_lt_mul (by rw [Nat.mul_comm]; exact hi)
  have hc : i % C < C := Nat.mod_lt _ hC
  have hie : i / C * C + i % C = i := by rw [Nat.mul_comm]; exact Nat.div_add_mod i C
  have hrl : ∀ r, r < R → (rwA D L 2 r).length = C := fun r _ => by
    unfold rwA
    rw [cat_two, List.length_append, rwL_length, rwL_length, hD0, hD1]
    omega
  obtain ⟨hl, hg⟩ := catL_at (rwA D L 2) C R hrl (i / C) (i % C) hr hc
  rw [hie] at hg
  rw [map_getD _ _ _ (by rw [hl]; exact hi), cln_idem _ _ hn, hg]
  generalize i / C = r at *
  generalize i % C = c at *
  subst hie
  unfold rwA
  rw [cat_two]
  rcases Nat.lt_or_ge c k with h | h
  · rw [getD_left _ _ _ (by rw [rwL_length, hD0]; exact h)]
    unfold rwL
    rw [hD0, lst_get _ _ _ h, h0]
    have hp := row_lt r R k c hr h
    rw [map_getD _ _ _ (by rw [lst_length, Nat.sub_zero]; exact hp), lst_get _ _ _ (by rw [Nat.sub_zero]; exact hp), cln_idem _ _ hn]
    unfold ctf
    rw [Nat.sub_zero]
    have e1 : (r * k + c) / k = r := by rw [Nat.add_comm, Nat.mul_comm, Nat.add_mul_div_left _ _ hk0, Nat.div_eq_of_lt h, Nat.zero_add]
    have e2 : (r * k + c) % k = c := by rw [Nat.mul_comm, Nat.mul_add_mod, Nat.mod_eq_of_lt h]
    rw [e1, e2, Nat.zero_add, Nat.zero_add]
  · rw [getD_right _ _ _ (by rw [rwL_length, hD0]; exact h), rwL_length, hD0]
    have h' : c - k < C - k := by omega
    unfold rwL
    rw [hD1, lst_get _ _ _ h', h1]
    have hp := row_lt r R (C - k) (c - k) hr h'
    rw [map_getD _ _ _ (by rw [lst_length]; exact hp), lst_get _ _ _ hp, cln_idem _ _ hn]
    unfold ctf
    have e1 : (r * (C - k) + (c - k)) / (C - k) = r := by rw [Nat.add_comm, Nat.mul_comm, Nat.add_mul_div_left _ _ (by omega), Nat.div_eq_of_lt h', Nat.zero_add]
    have e2 : (r * (C - k) + (c - k)) % (C - k) = c - k := by rw [Nat.mul_comm, Nat.mul_add_mod, Nat.mod_eq_of_lt h']
    rw [e1, e2, Nat.zero_add]
    congr 2
    omega
end Go.Proofs.Ytijmjnmimijfdab
