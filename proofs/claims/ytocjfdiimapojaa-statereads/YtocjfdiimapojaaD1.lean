/- The walks of exact's small functions over digits: areDigits, digit, piece, length, signOf, top. -/
import Derived.Test.YtocjfdiimapojaaCore
import Derived.Test.YtocjfdiimapojaaMath
import Derived.Deep.RegionHeld
namespace Go.Proofs.Ytocjfdiimapojaa
open Go.ChangeShapes Go.WideShapes Go.ChangeAt Go.RowKit

def Reads (w : World) (b off : Nat) (L : List Int) : Prop := ∀ i, i < L.length → w.cell? ⟨b, off + i, none⟩ = some (.int .i64 (L.getD i 0))
def Sl (w : World) (v : Value) (L : List Int) : Prop :=
  ∃ ao cap, v = .slice ao L.length cap ∧ L.length ≤ cap ∧ cap ≤ maxLen ∧ (L ≠ [] → ∃ b off, ao = some ⟨b, off, none⟩ ∧ b < w.heap.size ∧ Reads w b off L)

theorem Reads.kept {w w' : World} {b off : Nat} {L : List Int} (h : Reads w b off L) (hb : b < w.heap.size) (k : Kept w w') : Reads w' b off L :=
  fun i hi => (k.below.cell (p := ⟨b, off + i, none⟩) hb).trans (h i hi)
theorem Sl.kept {w w' : World} {v : Value} {L : List Int} (h : Sl w v L) (k : Kept w w') : Sl w' v L := by
  obtain ⟨ao, cap, e, hc, hm, hr⟩ := h
  refine ⟨ao, cap, e, hc, hm, fun hne => ?_⟩
  obtain ⟨b, off, e2, hb, hr⟩ := hr hne
  exact ⟨b, off, e2, Nat.lt_of_lt_of_le hb k.below.size, hr.kept hb k⟩

def dig (L : List Int) (i : Int) : Int := if 0 ≤ i then L.getD i.toNat 0 else 0

theorem dig_nat (L : List Int) (h : Dg L) (q : Nat) : dig L (q : Int) = ((nv L / 2 ^ (30 * q) % 1073741824 : Nat) : Int) := by
  have h1 := nv_getD L h q
  have h2 := h.getD q
  rw [dig, if_pos (by omega), Int.toNat_natCast]
  omega
theorem dig_neg (L : List Int) (q : Int) (h : q < 0) : dig L q = 0 := by rw [dig, if_neg (by omega)]
def pcq (L : List Int) (q : Int) (s : Nat) : Int := bits .and .i64 (bits .or .i64 (dig L q / 2 ^ s) (IntKind.i64.wrap (dig L (q + 1) * 2 ^ (30 - s)))) 1073741823

theorem pcq_nat (x y s : Nat) (hs : s < 30) (hx : x < 1073741824) (hy : y < 1073741824) : bits .and .i64 (bits .or .i64 ((x : Int) / 2 ^ s) (IntKind.i64.wrap ((y : Int) * 2 ^ (30 - s)))) 1073741823 = (((x / 2 ^ s + y * 2 ^ (30 - s)) % 1073741824 : Nat) : Int) := by
  obtain ⟨p, q, hp, hq, e⟩ : ∃ p q : Nat, 2 ^ s = p ∧ 2 ^ (30 - s) = q ∧ p * q = 1073741824 := ⟨_, _, rfl, rfl, by rw [← Nat.pow_add, show s + (30 - s) = 30 by omega]⟩
  have hp0 : 0 < p := by rw [← hp]; exact Nat.two_pow_pos _
  have hq0 : 0 < q := by rw [← hq]; exact Nat.two_pow_pos _
  have hq1 : q ≤ 1073741824 := by rw [← e]; exact Nat.le_mul_of_pos_left _ hp0
  have e1 : (x : Int) / 2 ^ s = ((x / 2 ^ s : Nat) : Int) := by rw [Int.natCast_ediv, Int.natCast_pow]; rfl
  have e2 : (y : Int) * 2 ^ (30 - s) = ((y * 2 ^ (30 - s) : Nat) : Int) := by rw [Int.natCast_mul, Int.natCast_pow]; rfl
  have h1 : x / 2 ^ s < 2 ^ (30 - s) := by
    rw [hp, hq]
    exact (Nat.div_lt_iff_lt_mul hp0).2 (by rw [Nat.mul_comm]; omega)
  have h2 : y * 2 ^ (30 - s) < 1152921504606846976 := by
    rw [hq]
    calc y * q ≤ y * 1073741824 := Nat.mul_le_mul_left _ hq1
      _ < 1152921504606846976 := by omega
  have e3 : IntKind.i64.wrap ((y * 2 ^ (30 - s) : Nat) : Int) = ((y * 2 ^ (30 - s) : Nat) : Int) := by
    rw [wrap_i64]; omega
  rw [e1, e2, e3, or_sum _ _ _ h1 (by have : x / 2 ^ s ≤ x := Nat.div_le_self _ _; omega), mask30]
  rfl

theorem pcq_eq (L : List Int) (h : Dg L) (q : Int) (s : Nat) (hs : s < 30) : pcq L q s = pcz (nv L) (30 * q + s) := by
  unfold pcq pcz
  by_cases h0 : 0 ≤ q
  · obtain ⟨n, rfl⟩ : ∃ n : Nat, q = n := ⟨q.toNat, by omega⟩
    rw [if_pos (by omega), show ((n : Int) + 1) = ((n + 1 : Nat) : Int) by omega, dig_nat L h, dig_nat L h, pcq_nat _ _ s hs (Nat.mod_lt _ (by decide)) (Nat.mod_lt _ (by decide)), piece_nat _ s hs, show (30 * (n : Int) + (s : Int)).toNat = 30 * n + s by omega]
  · rw [if_neg (by omega), dig_neg L q (by omega)]
    by_cases h1 : q = -1
    · subst h1
      have e := dig_nat L h 0
      rw [show (-1 + 1 : Int) = ((0 : Nat) : Int) by rfl, e, show (0 : Int) = ((0 : Nat) : Int) from rfl, pcq_nat 0 _ s hs (by decide) (Nat.mod_lt _ (by decide)), show (-(30 * (-1) + (s : Int))).toNat = 30 - s by omega]
      simp [Nat.mod_mul_mod]
    · rw [dig_neg L (q + 1) (by omega), show (0 : Int) = ((0 : Nat) : Int) from rfl, pcq_nat 0 0 s hs (by decide) (by decide)]
      obtain ⟨k, hk⟩ : ∃ k, (-(30 * q + (s : Int))).toNat = 30 + k := ⟨(-(30 * q + (s : Int))).toNat - 30, by omega⟩
      have e : nv L * (2 ^ 30 * 2 ^ k) % 1073741824 = 0 := by
        rw [Nat.mul_left_comm]
        exact Nat.mul_mod_right _ _
      rw [hk, Nat.pow_add, e]
      simp

theorem tdiv_at (p q s : Int) (h0 : 0 ≤ s) (hs : s < 30) (hp : p = 30 * q + s) (hc : 0 ≤ q ∨ s = 0) : p.tdiv 30 = q ∧ p.tmod 30 = s := by
  by_cases h : 0 ≤ p
  · rw [Int.tdiv_eq_ediv_of_nonneg (by omega), Int.tmod_eq_emod_of_nonneg (by omega)]
    omega
  · have e : p.tdiv 30 = -((-p).tdiv 30) := by rw [Int.neg_tdiv]; omega
    have f : p.tmod 30 = -((-p).tmod 30) := by rw [Int.neg_tmod]; omega
    rw [e, f, Int.tdiv_eq_ediv_of_nonneg (by omega), Int.tmod_eq_emod_of_nonneg (by omega)]
    omega
theorem tdiv_below (p q s : Int) (h0 : 0 < s) (hs : s < 30) (hp : p = 30 * q + s) (hc : q < 0) : p.tdiv 30 = q + 1 ∧ p.tmod 30 = s - 30 := by
  have e : p.tdiv 30 = -((-p).tdiv 30) := by rw [Int.neg_tdiv]; omega
  have f : p.tmod 30 = -((-p).tmod 30) := by rw [Int.neg_tmod]; omega
  rw [e, f, Int.tdiv_eq_ediv_of_nonneg (by omega), Int.tmod_eq_emod_of_nonneg (by omega)]
  omega

end Go.Proofs.Ytocjfdiimapojaa