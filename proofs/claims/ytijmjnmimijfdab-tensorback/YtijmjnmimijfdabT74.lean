/- Matrices in form, and what is made of them. -/
import Derived.Test.YtijmjnmimijfdabT73
namespace Go.Proofs.Ytijmjnmimijfdab
open Go.ChangeShapes Go.WideShapes Go.ChangeAt Go.RowKit
set_option linter.unusedVariables false
set_option linter.unusedSimpArgs false

/-- Stretched to three rows, and the last one cut out. -/
theorem back_stretch (C : Nat) (n : Int) (hn : n = 64 ∨ n = 32) (hC : 0 < C) (M : List Int) (hML : M.length = C) (i : Nat) (hi : i < C) :
    cln (M.getD i 0) n = cln (((lst ((3 - 2) * C) (ctf ((lst (3 * C) (stf M 1 C C)).map (cln · n)) C 2 0 C)).map (cln · n)).getD i 0) n := by
  have h1 : i < (3 - 2) * C := by omega
  rw [map_getD _ _ _ (by rw [lst_length]; exact h1), lst_get _ _ _ h1, cln_idem _ _ hn]
  unfold ctf
  rw [Nat.div_eq_of_lt hi, Nat.mod_eq_of_lt hi, Nat.zero_add, Nat.add_zero]
  have h2 : 2 * C + i < 3 * C := by omega
  rw [map_getD _ _ _ (by rw [lst_length]; exact h2), lst_get _ _ _ h2, cln_idem _ _ hn]
  unfold stf
  rw [if_pos rfl, Nat.zero_mul, Nat.zero_add]
  congr 2
  split
  · omega
  · rw [Nat.mul_comm, Nat.mul_add_mod, Nat.mod_eq_of_lt hi]

theorem ckM_mk {r c n : Int} {L : List Int} (hs : ckS r c n = 0) (hl : (L.length : Int) = r * c) (hv : ∀ i, i < L.length → val (L.getD i 0) n = true) : ckM r c n L = 0 := by
  unfold ckM
  rw [if_neg (fun h => h hs), if_neg (fun h => h hl), if_pos]
  rw [List.all_eq_true]
  intro b hb
  obtain ⟨i, hi, rfl⟩ := List.mem_iff_getElem.1 hb
  have := hv i hi
  rwa [List.getD_eq_getElem?_getD, List.getElem?_eq_getElem hi] at this
theorem ckS_mk {R C : Nat} {n : Int} (hn : n = 64 ∨ n = 32) (hR : 0 < R) (hC : 0 < C) (h : R * C ≤ 4096) : ckS (R : Int) (C : Int) n = 0 := by
  unfold ckS
  rw [if_neg (fun k => k hn), if_neg (by omega)]
  unfold ckR
  rw [if_neg]
  rw [Int.tdiv_eq_ediv_of_nonneg (by omega), Int.ediv_lt_iff_lt_mul (by omega)]
  have h2 : (R : Int) * (C : Int) = ((R * C : Nat) : Int) := by simp
  omega
theorem val_cln (b n : Int) (hn : n = 64 ∨ n = 32) (h : val b n = true) : val (cln b n) n = true := by
  have h64 : val 9221120237041090561 64 = true := by decide +kernel
  have h32 : val 2143289345 32 = true := by decide +kernel
  unfold cln
  by_cases hc : cls b n = 4
  · rw [if_pos hc]
    rcases hn with rfl | rfl
    · exact h64
    · exact h32
  · rw [if_neg hc]
    exact h
/-- A matrix in form. -/
structure Mf (R C : Nat) (n : Int) (M : List Int) : Prop where
  hn : n = 64 ∨ n = 32
  hR : 0 < R
  hC : 0 < C
  hRC : R * C ≤ 4096
  hML : M.length = R * C
  hRg : Rgl M
  hv : ∀ i, i < M.length → val (M.getD i 0) n = true
theorem Mf.ck {R C : Nat} {n : Int} {M : List Int} (h : Mf R C n M) : ckM R C n M = 0 := ckM_mk (ckS_mk h.hn h.hR h.hC h.hRC) (by rw [h.hML]; simp) h.hv
/-- Elements of it, as they are answered, are in form. -/
theorem Mf.pick {R C : Nat} {n : Int} {M : List Int} (h : Mf R C n M) (r c q : Nat) (hr : 0 < r) (hc : 0 < c) (hrc : r * c ≤ 4096) (hq : q = r * c) (f : Nat → Int) (p : Nat → Nat) (hf : ∀ j, j < q → f j = M.getD (p j) 0 ∧ p j < R * C) : Mf r c n ((lst q f).map (cln · n)) := by
  have hl : ((lst q f).map (cln · n)).length = q := by rw [List.length_map, lst_length]
  refine ⟨h.hn, hr, hc, hrc, by rw [hl, hq], fun i hi => ?_, fun i hi => ?_⟩
  all_goals
    rw [hl] at hi
    rw [map_getD _ _ _ (by rw [lst_length]; exact hi), lst_get _ _ _ hi, (hf i hi).1]
    have hp : p i < M.length := by rw [h.hML]; exact (hf i hi).2
  · exact cln_rng _ _ (h.hRg _ hp).1 (h.hRg _ hp).2
  · exact val_cln _ _ h.hn (h.hv _ hp)
end Go.Proofs.Ytijmjnmimijfdab
