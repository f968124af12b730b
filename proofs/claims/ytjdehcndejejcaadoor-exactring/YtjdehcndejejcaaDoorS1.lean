/- Numbers by their values: a valid number is a whole number at a scale; sums and products are those of whole numbers. -/
import Derived.Test.YtjdehcndejejcaaDoorD16b
namespace Go.Proofs.YtjdehcndejejcaaDoor
open Go.ChangeShapes Go.WideShapes Go.ChangeAt Go.RowKit
set_option linter.unusedVariables false
set_option linter.unusedSimpArgs false

def cfm (z x : Int) : Option Nm := frm (decide (z < 0)) z.natAbs x
def vz (s : Int) (a : Nm) : Int := sg a.neg ((nv a.mag : Int) * 2 ^ (a.exp - s).toNat)
structure Lies (s : Int) (B : Nat) (a : Nm) : Prop where
  ok : vld a = true
  low : a.mag ≠ [] → s ≤ a.exp
  lt : (vz s a).natAbs < 2 ^ B

theorem frm_shift (neg : Bool) (v k : Nat) (x : Int) (hv : v ≠ 0) : frm neg (v * 2 ^ k) x = frm neg v (x + (k : Int)) := by
  obtain ⟨o, ho, e⟩ := tzn_spec v hv
  have hp := Nat.two_pow_pos k
  have hne : v * 2 ^ k ≠ 0 := Nat.mul_ne_zero hv (by omega)
  have ht : tzn (v * 2 ^ k) = tzn v + k := by
    have : v * 2 ^ k = o * 2 ^ (tzn v + k) := by rw [Nat.pow_add, ← Nat.mul_assoc, ← e]
    rw [this, tzn_mul o _ ho]
  have hb := bl_mul v k hv
  have hw : wrap64 (x + ((tzn v + k : Nat) : Int)) = wrap64 (x + (k : Int) + (tzn v : Int)) := by congr 1; push_cast; omega
  have hd : v * 2 ^ k / 2 ^ (tzn v + k) = v / 2 ^ tzn v := by
    rw [Nat.pow_add, Nat.mul_div_mul_right _ _ hp]
  unfold frm
  rw [if_neg hne, if_neg hv, ht, hb, hw, hd, show bl v + k - (tzn v + k) = bl v - tzn v by omega]

theorem cfm_zero (x : Int) : cfm 0 x = some ⟨false, [], 0⟩ := by simp [cfm, frm]
theorem cfm_shift (z : Int) (k : Nat) (x : Int) : cfm (z * 2 ^ k) x = cfm z (x + (k : Int)) := by
  by_cases hz : z = 0
  · subst hz
    rw [Int.zero_mul, cfm_zero, cfm_zero]
  · have hp : (0 : Int) < 2 ^ k := Int.pow_pos (by decide)
    have hn : (z * 2 ^ k).natAbs = z.natAbs * 2 ^ k := by
      rw [Int.natAbs_mul]
      congr 1
    have hd : decide (z * 2 ^ k < 0) = decide (z < 0) := by
      congr 1
      apply propext
      constructor
      · intro h
        rcases Int.lt_or_le z 0 with g | g
        · exact g
        · exact absurd (Int.mul_nonneg g (Int.le_of_lt hp)) (by omega)
      · intro h
        exact Int.mul_neg_of_neg_of_pos h hp
    unfold cfm
    rw [hn, hd]
    exact frm_shift _ _ _ _ (by omega)

theorem nv_pos_of (n : Bool) (L : List Int) (x : Int) (hne : L ≠ []) (hv : vld ⟨n, L, x⟩ = true) : 0 < nv L := by
  obtain ⟨p1, p2, p3, p4, p5, p6⟩ := vld_some n L x hne hv
  rcases Nat.eq_zero_or_pos (nv L) with h | h
  · exact absurd ((nv_zero L p2).1 h (L.length - 1)) p3
  · exact h

theorem vz_nil (s : Int) (n : Bool) (x : Int) : vz s ⟨n, [], x⟩ = 0 := by cases n <;> simp [vz, nv, sg]
theorem vz_abs (s : Int) (a : Nm) : (vz s a).natAbs = nv a.mag * 2 ^ (a.exp - s).toNat := by
  have e : ((nv a.mag * 2 ^ (a.exp - s).toNat : Nat) : Int) = (nv a.mag : Int) * 2 ^ (a.exp - s).toNat := by rw [Int.natCast_mul, Int.natCast_pow]; rfl
  unfold vz
  rw [← e]
  cases a.neg <;> simp [sg] <;> omega
theorem vz_cfm (s : Int) (n : Bool) (L : List Int) (x : Int) (hv : vld ⟨n, L, x⟩ = true) (hs : L ≠ [] → s ≤ x) : cfm (vz s ⟨n, L, x⟩) s = some ⟨n, L, x⟩ := by
  by_cases hne : L = []
  · subst hne
    rw [vz_nil, cfm_zero]
    obtain ⟨rfl, rfl⟩ := vld_nil _ _ hv
    rfl
  · obtain ⟨p1, p2, p3, p4, p5, p6⟩ := vld_some n L x hne hv
    have hpos := nv_pos_of n L x hne hv
    have hs := hs hne
    have e : vz s ⟨n, L, x⟩ = sg n (nv L : Int) * 2 ^ (x - s).toNat := by
      unfold vz
      cases n <;> simp [sg, Int.neg_mul]
    have hsg := sg_neg n (nv L : Int) (by omega)
    rw [e, cfm_shift, show s + ((x - s).toNat : Int) = x by omega]
    unfold cfm
    rw [hsg.1, hsg.2, Int.toNat_natCast, frm_odd n n L x x hne hv, wrap64_id x p5 p6, if_pos ⟨p5, p6⟩]

theorem tp_le (s : Int) (B : Nat) (a : Nm) (h : Lies s B a) (hne : a.mag ≠ []) : tp a ≤ s + (B : Int) := by
  obtain ⟨n, L, x⟩ := a
  have hpos := nv_pos_of n L x hne h.ok
  have hl := h.low hne
  have h1 := h.lt
  rw [vz_abs] at h1
  have h2 := bl_mul (nv L) (x - s).toNat (by omega)
  have h3 := bl_le _ _ h1
  dsimp only at h3 hl
  rw [h2] at h3
  unfold tp
  dsimp only
  omega

theorem vz_tot (s : Int) (B : Nat) (a b : Nm) (ha : Lies s B a) (hb : Lies s B b) (h1 : a.mag ≠ []) (h2 : b.mag ≠ []) : vz s a + vz s b = tot a b (min a.exp b.exp) * 2 ^ (min a.exp b.exp - s).toNat := by
  have la := ha.low h1
  have lb := hb.low h2
  have e1 : (a.exp - s).toNat = (a.exp - min a.exp b.exp).toNat + (min a.exp b.exp - s).toNat := by omega
  have e2 : (b.exp - s).toNat = (b.exp - min a.exp b.exp).toNat + (min a.exp b.exp - s).toNat := by omega
  unfold vz tot
  rw [e1, e2, pow_add_int, pow_add_int, Int.add_mul]
  congr 1
  · cases a.neg <;> simp [sg, Int.mul_assoc, Int.neg_mul]
  · cases b.neg <;> simp [sg, Int.mul_assoc, Int.neg_mul]

theorem add_cfm (s : Int) (B : Nat) (hB : B ≤ 60000) (a b : Nm) (ha : Lies s B a) (hb : Lies s B b) : addZ a b = cfm (vz s a + vz s b) s := by
  obtain ⟨n1, L1, x1⟩ := a
  obtain ⟨n2, L2, x2⟩ := b
  unfold addZ
  dsimp only
  by_cases h1 : L1 = []
  · subst h1
    rw [if_pos rfl, vz_nil, Int.zero_add, vz_cfm s n2 L2 x2 hb.ok hb.low]
    by_cases h2 : L2 = []
    · subst h2
      obtain ⟨rfl, rfl⟩ := vld_nil _ _ hb.ok
      rw [if_pos rfl]
    · rw [if_neg h2]
  · rw [if_neg h1]
    by_cases h2 : L2 = []
    · subst h2
      rw [if_pos rfl, vz_nil, Int.add_zero, vz_cfm s n1 L1 x1 ha.ok ha.low]
    · rw [if_neg h2, vz_tot s B _ _ ha hb h1 h2, cfm_shift]
      have t1 := tp_le s B _ ha h1
      have t2 := tp_le s B _ hb h2
      have l1 := ha.low h1
      have l2 := hb.low h2
      dsimp only at l1 l2 ⊢
      unfold addN
      dsimp only
      rw [if_pos (by omega), show s + ((min x1 x2 - s).toNat : Int) = min x1 x2 by omega]
      rfl

theorem cfm_lies (s : Int) (B : Nat) (hB : B ≤ 20000) (h1 : -20000 ≤ s) (h2 : s ≤ 0) (z : Int) (hz : z.natAbs < 2 ^ B) : ∃ r, cfm z s = some r ∧ Lies s B r ∧ vz s r = z := by
  by_cases h0 : z = 0
  · subst h0
    exact ⟨_, cfm_zero s, ⟨rfl, fun h => absurd rfl h, by rw [vz_nil]; exact Nat.two_pow_pos B⟩, vz_nil _ _ _⟩
  · have hn : z.natAbs ≠ 0 := by omega
    obtain ⟨v, hv⟩ : ∃ v, z.natAbs = v := ⟨_, rfl⟩
    rw [hv] at hz hn
    have hb := bl_le _ _ hz
    obtain ⟨hbt, hne⟩ := bl_sub v hn
    obtain ⟨hodd, hm⟩ := tzn_div v hn
    obtain ⟨t, ht⟩ : ∃ t, tzn v = t := ⟨_, rfl⟩
    obtain ⟨q, hq⟩ : ∃ q, v / 2 ^ t = q := ⟨_, rfl⟩
    rw [ht] at hbt hodd hm hne
    rw [hq] at hbt hodd hm hne
    have hw : wrap64 (s + (t : Int)) = s + (t : Int) := wrap64_id _ (by omega) (by omega)
    have hr : cfm z s = some ⟨decide (z < 0), digs q, s + (t : Int)⟩ := by
      unfold cfm frm
      rw [hv, if_neg hn, ht, hw, hq, if_pos ⟨by omega, by omega, by omega⟩]
    have hdn : digs q ≠ [] := by
      intro h
      have := nv_digs q
      rw [h] at this
      exact hne this.symm
    have hlen : (digs q).length ≤ 2000 := by rw [digs_len q hne]; omega
    have hval : vz s ⟨decide (z < 0), digs q, s + (t : Int)⟩ = z := by
      unfold vz
      dsimp only
      rw [nv_digs, show (s + (t : Int) - s).toNat = t by omega]
      have e : ((q * 2 ^ t : Nat) : Int) = (q : Int) * 2 ^ t := by rw [Int.natCast_mul, Int.natCast_pow]; rfl
      rw [← e, ← hm, ← hv]
      unfold sg
      by_cases hneg : z < 0
      · rw [if_pos (by simpa using hneg)]; omega
      · rw [if_neg (by simpa using hneg)]; omega
    refine ⟨_, hr, ⟨?_, fun _ => by dsimp only; omega, by rw [hval]; omega⟩, hval⟩
    unfold vld
    rw [if_neg hdn]
    unfold vldN
    dsimp only
    have g1 := digs_last q hne
    have g2 : dgb (digs q) = true := (dgb_iff _).2 (dg_digs q)
    have g3 : bits .and .i64 ((digs q).getD 0 0) 1 = 1 := by
      rw [digs_pos q hne, List.getD_cons_zero]
      have e : bits .and .i64 (((q % 1073741824 : Nat)) : Int) 1 = ((q % 1073741824 % 2 : Nat) : Int) := by
        have := and_one ((q % 1073741824 : Nat) : Int)
        rw [this]
        omega
      rw [e]
      omega
    simp only [g2, g3, Bool.and_true, Bool.and_eq_true, bne_iff_ne, ne_eq, beq_self_eq_true, decide_eq_true_eq]
    refine ⟨⟨⟨by omega, g1⟩, by omega⟩, by omega⟩
end Go.Proofs.YtjdehcndejejcaaDoor
