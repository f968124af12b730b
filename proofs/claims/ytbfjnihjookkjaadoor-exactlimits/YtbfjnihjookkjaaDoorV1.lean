/- Values at the limits: the greatest exponents, 2,000 full digits, and one more. -/
import Derived.Test.YtbfjnihjookkjaaDoorQ9v
namespace Go.Proofs.YtbfjnihjookkjaaDoor
open Go.RowKit
set_option linter.unusedVariables false

theorem tz1 : tzn 1 = 0 := tzn_odd _ (by decide)
theorem nvo : nv [1] = 1 := by decide
theorem blo : bl 1 = 1 := by decide
theorem frm_one (neg : Bool) (x : Int) (h1 : -1048576 ≤ x) (h2 : x ≤ 1048576) : frm neg (nv [1]) x = some ⟨neg, [1], x⟩ := by
  have d : digs (1 / 2 ^ 0) = [1] := digs_small 1 (by decide) (by decide)
  have w : wrap64 (x + ((0 : Nat) : Int)) = x := by unfold wrap64; omega
  unfold frm
  rw [nvo, tz1, blo, d, w, if_neg (by decide), if_pos ⟨by decide, h1, h2⟩]
theorem frm_one_no (neg : Bool) (x : Int) (h : x < -1048576 ∨ 1048576 < x) (h1 : -4000000 ≤ x) (h2 : x ≤ 4000000) : frm neg (nv [1]) x = none := by
  have w : wrap64 (x + ((0 : Nat) : Int)) = x := by unfold wrap64; omega
  unfold frm
  rw [nvo, tz1, blo, w, if_neg (by decide), if_neg (by omega)]
theorem frm_two : frm false (nv [2]) 1048576 = none := by
  have e : nv [2] = 2 := by decide
  have t : tzn 2 = 1 := by rw [tzn_even 2 (by decide) (by decide), tzn_odd _ (by decide)]
  have w : wrap64 (1048576 + ((1 : Nat) : Int)) = 1048577 := by unfold wrap64; decide
  unfold frm
  rw [e, t, w, if_neg (by decide), if_neg (by omega)]
theorem frm_int2 : frm (decide ((2 : Int) < 0)) (2 : Int).natAbs 0 = some ⟨false, [1], 1⟩ := by
  have t : tzn 2 = 1 := by rw [tzn_even 2 (by decide) (by decide), tzn_odd _ (by decide)]
  have b : bl 2 = 2 := by decide
  have d : digs (2 / 2 ^ 1) = [1] := digs_small 1 (by decide) (by decide)
  have w : wrap64 (0 + ((1 : Nat) : Int)) = 1 := by unfold wrap64; decide
  unfold frm
  rw [show (2 : Int).natAbs = 2 from rfl, t, b, d, w, if_neg (by decide), if_pos (by decide)]
  rfl

theorem nv_full (n : Nat) : nv (List.replicate n 1073741823) + 1 = 2 ^ (30 * n) := by
  induction n with
  | zero => rfl
  | succ n ih =>
    rw [List.replicate_succ, nv, pow30, ← ih]
    rw [show (1073741823 : Int).toNat = 1073741823 from rfl]
    omega
theorem dg_full (n : Nat) : Dg (List.replicate n 1073741823) := fun d hd => by
  rw [List.eq_of_mem_replicate hd]; omega
theorem getD_full (n j : Nat) (h : j < n) : (List.replicate n (1073741823 : Int)).getD j 0 = 1073741823 := by
  rw [List.getD_eq_getElem?_getD, List.getElem?_replicate, if_pos h]; rfl
theorem full_ne (n : Nat) (h : 0 < n) : List.replicate n (1073741823 : Int) ≠ [] := by
  intro e
  have := congrArg List.length e
  rw [List.length_replicate, List.length_nil] at this
  omega
theorem vld_full (n : Nat) (h0 : 0 < n) (h : n ≤ 2000) : vld ⟨false, List.replicate n 1073741823, 0⟩ = true := by
  unfold vld vldN
  dsimp only
  rw [if_neg (full_ne n h0), List.length_replicate, getD_full n (n - 1) (by omega), getD_full n 0 h0, (dgb_iff _).2 (dg_full n), decide_eq_true (show (n : Int) ≤ 2000 by omega), and_one]
  rfl
theorem frm_full (n : Nat) (h0 : 0 < n) (h : n ≤ 2000) : frm false (nv (List.replicate n 1073741823)) 0 = some ⟨false, List.replicate n 1073741823, 0⟩ := by
  have w : wrap64 0 = 0 := by unfold wrap64; decide
  rw [frm_odd false false _ 0 0 (full_ne n h0) (vld_full n h0 h), w, if_pos (by decide)]
theorem bl_pow (k : Nat) : bl (2 ^ k) = k + 1 := bl_eq _ _ (Nat.le_refl _) (by rw [Nat.pow_succ]; have := Nat.two_pow_pos k; omega)
theorem bl_full (n : Nat) (h0 : 0 < n) : bl (nv (List.replicate n 1073741823)) = 30 * n := by
  have h := nv_full n
  obtain ⟨m, hm⟩ : ∃ m, 30 * n = m + 1 := ⟨30 * n - 1, by omega⟩
  rw [hm] at h ⊢
  have e : 2 ^ (m + 1) = 2 * 2 ^ m := by rw [Nat.pow_succ, Nat.mul_comm]
  have hp := Nat.two_pow_pos m
  exact bl_eq _ _ (by omega) (by omega)
theorem tot_full (n : Nat) (x : Int) : tot ⟨false, List.replicate n 1073741823, 0⟩ ⟨false, [1], x⟩ 0 = (nv (List.replicate n 1073741823) : Int) + 2 ^ x.toNat := by
  unfold tot sg
  dsimp only
  rw [nvo]
  simp
theorem addN_full_1 (n : Nat) (hn : 30 * n = 60000) : addN ⟨false, List.replicate n 1073741823, 0⟩ ⟨false, [1], 0⟩ = some ⟨false, [1], 60000⟩ := by
  have h := nv_full n
  have t := tot_full n 0
  have e : ((2 ^ (30 * n) : Nat) : Int) = (nv (List.replicate n 1073741823) : Int) + 2 ^ (0 : Int).toNat := by rw [← h]; simp
  rw [← e] at t
  have tz : tzn (2 ^ (30 * n)) = 30 * n := by have := tzn_mul 1 (30 * n) (by decide); rw [Nat.one_mul] at this; exact this
  have b := bl_pow (30 * n)
  have d : digs (2 ^ (30 * n) / 2 ^ (30 * n)) = [1] := by
    rw [Nat.div_self (Nat.two_pow_pos _)]
    exact digs_small 1 (by decide) (by decide)
  have bf := bl_full n (by omega)
  have hp := Nat.two_pow_pos (30 * n)
  have w : wrap64 (0 + ((30 * n : Nat) : Int)) = 60000 := by unfold wrap64; omega
  unfold addN tp
  dsimp only
  rw [bf, nvo, blo, show min (0 : Int) 0 = 0 from rfl, t, if_pos (by omega)]
  unfold frm
  rw [Int.natAbs_natCast, tz, b, d, w, if_neg (by omega), if_pos (by omega), decide_eq_false (by omega)]
theorem addN_full_2 (n : Nat) (hn : 30 * n = 60000) : addN ⟨false, List.replicate n 1073741823, 0⟩ ⟨false, [1], 1⟩ = none := by
  have h := nv_full n
  have t := tot_full n 1
  have e : ((2 ^ (30 * n) + 1 : Nat) : Int) = (nv (List.replicate n 1073741823) : Int) + 2 ^ (1 : Int).toNat := by
    rw [← h, show (1 : Int).toNat = 1 from rfl, Int.pow_succ, Int.pow_zero]
    omega
  rw [← e] at t
  obtain ⟨m, hm⟩ : ∃ m, 30 * n = m + 1 := ⟨30 * n - 1, by omega⟩
  have hp : 2 ^ (30 * n) = 2 * 2 ^ m := by rw [hm, Nat.pow_succ, Nat.mul_comm]
  have tz : tzn (2 ^ (30 * n) + 1) = 0 := tzn_odd _ (by rw [hp]; omega)
  have b := le_bl (2 ^ (30 * n) + 1) (30 * n) (by omega)
  have bf := bl_full n (by omega)
  unfold addN tp
  dsimp only
  rw [bf, nvo, blo, show min (0 : Int) 1 = 0 from rfl, t, if_pos (by omega)]
  unfold frm
  rw [Int.natAbs_natCast, tz, if_neg (by omega), if_neg (by omega)]
theorem addN_far : addN ⟨false, [1], 1048576⟩ ⟨true, [1], -1048576⟩ = none := by
  unfold addN tp
  dsimp only
  rw [nvo, blo, if_neg (by decide)]
theorem vld_top : vld ⟨false, [1], 1048576⟩ = true := by decide +kernel
theorem vld_low : vld ⟨true, [1], -1048576⟩ = true := by decide +kernel
end Go.Proofs.YtbfjnihjookkjaaDoor
