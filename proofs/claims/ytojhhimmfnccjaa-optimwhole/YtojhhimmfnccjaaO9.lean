/- Small whole numbers as floats: what a difference of two is; what the kernel checks of each. -/
import Derived.Test.YtojhhimmfnccjaaOB
namespace Go.Proofs.Ytojhhimmfnccjaa
open Go.ChangeShapes Go.WideShapes Go.ChangeAt Go.RowKit Ieee
set_option linter.unusedVariables false
set_option linter.unusedSimpArgs false

theorem near_same (f : Format) (s : Bool) (T Z K : Nat) (base : Int) (hK : f.leastPlace = -(K : Int)) (hb : f.leastPlace ≤ base) (hZ : Z ≠ 0) (hZl : Z.log2 ≤ f.fractionBits) (h : T * 2 ^ (base - f.leastPlace).toNat = Z * 2 ^ K) : f.nearest s T base = f.nearest s Z 0 := by
  by_cases h0 : base ≤ 0
  · obtain ⟨d, hd⟩ : ∃ d : Nat, base = -(d : Int) := ⟨(-base).toNat, by omega⟩
    subst hd
    have h1 : (-(d : Int) - f.leastPlace).toNat = K - d := by omega
    rw [h1] at h
    have hT : T = Z * 2 ^ d := by
      have : T * 2 ^ (K - d) = Z * 2 ^ d * 2 ^ (K - d) := by
        rw [h, Nat.mul_assoc, ← Nat.pow_add]
        congr 2
        omega
      exact Nat.eq_of_mul_eq_mul_right (Nat.two_pow_pos _) this
    rw [hT, nearest_scale f s Z d _ hZ hZl (by omega)]
    congr 1
    omega
  · obtain ⟨d, hd⟩ : ∃ d : Nat, base = (d : Int) := ⟨base.toNat, by omega⟩
    subst hd
    have h1 : ((d : Int) - f.leastPlace).toNat = d + K := by omega
    rw [h1, Nat.pow_add, ← Nat.mul_assoc] at h
    have hT : T * 2 ^ d = Z := Nat.eq_of_mul_eq_mul_right (Nat.two_pow_pos _) h
    have hT0 : T ≠ 0 := fun e => hZ (by rw [← hT, e, Nat.zero_mul])
    have hTl : T.log2 ≤ f.fractionBits := by
      have h2 : T ≤ Z := by rw [← hT]; exact Nat.le_mul_of_pos_right _ (Nat.two_pow_pos _)
      have h3 : 2 ^ T.log2 ≤ T := Nat.log2_self_le hT0
      have h4 : Z < 2 ^ (Z.log2 + 1) := Nat.lt_log2_self
      have h5 : 2 ^ T.log2 < 2 ^ (Z.log2 + 1) := by omega
      have := (Nat.pow_lt_pow_iff_right (by decide : 1 < 2)).1 h5
      omega
    rw [← hT]
    have := nearest_scale f s T d 0 hT0 hTl (by omega)
    rw [this]
    congr 1
    omega
def wzf (f : Format) (z : Int) : Nat := f.nearest (decide (z < 0)) z.natAbs 0
theorem wzf_read (f : Format) (z : Int) (K : Nat) (hK : f.leastPlace = -(K : Int)) (hsw : f.infRung < f.signWeight) (hi0 : 0 < f.infRung) (hzl : z.natAbs.log2 ≤ f.fractionBits) (hV : z.natAbs * 2 ^ K < rungVal f f.infRung) :
    ∃ m i, f.read (wzf f z) = .number (decide (z < 0)) m i ∧ f.leastPlace ≤ i ∧ m * 2 ^ (i - f.leastPlace).toNat = z.natAbs * 2 ^ K ∧ m < 2 * f.binade := by
  by_cases hz : z = 0
  · subst hz
    have e : wzf f 0 = f.word false 0 := by unfold wzf Format.nearest; simp
    have h2 : rung f (f.word false 0) = 0 := rung_word f false 0 (by omega)
    obtain ⟨m, i, h3, h4, h5, h8⟩ := read_num f (f.word false 0) (by rw [h2]; exact hi0)
    rw [below_word f false 0 (by omega)] at h3
    rw [h2, rungVal_zero] at h5
    exact ⟨m, i, by rw [e]; exact h3, h4, by rw [h5]; simp, h8⟩
  · obtain ⟨r, h1, h2, h3⟩ := nearest_exact f (decide (z < 0)) z.natAbs 0 (by omega) hzl (by omega) (by rw [show (0 - f.leastPlace).toNat = K by omega]; exact hV)
    rw [show (0 - f.leastPlace).toNat = K by omega] at h3
    have h4 : rung f (f.word (decide (z < 0)) r) = r := rung_word f _ r (by omega)
    obtain ⟨m, i, h5, h6, h7, h8⟩ := read_num f (f.word (decide (z < 0)) r) (by rw [h4]; exact h2)
    rw [below_word f _ r (by omega)] at h5
    rw [h4, h3] at h7
    exact ⟨m, i, by unfold wzf; rw [h1]; exact h5, h6, h7, h8⟩
theorem pow_split (a b : Nat) : ((2 ^ (a + b) : Nat) : Int) = ((2 ^ a : Nat) : Int) * ((2 ^ b : Nat) : Int) := by rw [Nat.pow_add]; simp
/-- The difference of two whole numbers is exact. -/
theorem sub_exact (f : Format) (a b : Int) (K : Nat) (hK : f.leastPlace = -(K : Int)) (hsw : f.infRung < f.signWeight) (hi0 : 0 < f.infRung) (ha : a.natAbs.log2 ≤ f.fractionBits) (hb : b.natAbs.log2 ≤ f.fractionBits) (hab : (a - b).natAbs.log2 ≤ f.fractionBits)
    (hVa : a.natAbs * 2 ^ K < rungVal f f.infRung) (hVb : b.natAbs * 2 ^ K < rungVal f f.infRung) : f.sub (wzf f a) (wzf f b) = some (wzf f (a - b)) := by
  obtain ⟨m, i, r1, l1, v1, -⟩ := wzf_read f a K hK hsw hi0 ha hVa
  obtain ⟨n, j, r2, l2, v2, -⟩ := wzf_read f b K hK hsw hi0 hb hVb
  unfold Format.sub
  rw [r1, r2]
  show some (f.nearest (if signed (decide (a < 0)) m (i - min i j).toNat + signed (!decide (b < 0)) n (j - min i j).toNat = 0 then decide (a < 0) && !decide (b < 0) else decide (signed (decide (a < 0)) m (i - min i j).toNat + signed (!decide (b < 0)) n (j - min i j).toNat < 0)) (signed (decide (a < 0)) m (i - min i j).toNat + signed (!decide (b < 0)) n (j - min i j).toNat).natAbs (min i j)) = _
  obtain ⟨base, hbs⟩ : ∃ x, x = min i j := ⟨_, rfl⟩
  rw [← hbs]
  rw [signed_sv, signed_sv]
  obtain ⟨p, hp⟩ : ∃ p : Nat, p = (base - f.leastPlace).toNat := ⟨_, rfl⟩
  have e1 : sv (decide (a < 0)) (m * 2 ^ (i - base).toNat) * ((2 ^ p : Nat) : Int) = a * ((2 ^ K : Nat) : Int) := by
    rw [sv_mul, Nat.mul_assoc, ← Nat.pow_add, show (i - base).toNat + p = (i - f.leastPlace).toNat by omega, v1, ← sv_mul]
    congr 1
    unfold sv
    by_cases h : a < 0
    · simp [h]; omega
    · simp [h]; omega
  have e2 : sv (!decide (b < 0)) (n * 2 ^ (j - base).toNat) * ((2 ^ p : Nat) : Int) = -b * ((2 ^ K : Nat) : Int) := by
    rw [sv_mul, Nat.mul_assoc, ← Nat.pow_add, show (j - base).toNat + p = (j - f.leastPlace).toNat by omega, v2, ← sv_mul]
    congr 1
    unfold sv
    by_cases h : b < 0
    · simp [h]; omega
    · simp [h]; omega
  obtain ⟨t, ht⟩ : ∃ t, t = sv (decide (a < 0)) (m * 2 ^ (i - base).toNat) + sv (!decide (b < 0)) (n * 2 ^ (j - base).toNat) := ⟨_, rfl⟩
  rw [← ht]
  have e3 : t * ((2 ^ p : Nat) : Int) = (a - b) * ((2 ^ K : Nat) : Int) := by
    rw [ht, Int.add_mul, e1, e2, ← Int.add_mul, Int.sub_eq_add_neg]
  have hpp : (0 : Int) < ((2 ^ p : Nat) : Int) := by have := Nat.two_pow_pos p; omega
  have hpk : (0 : Int) < ((2 ^ K : Nat) : Int) := by have := Nat.two_pow_pos K; omega
  by_cases hz : a - b = 0
  · have ht0 : t = 0 := by
      rw [hz, Int.zero_mul] at e3
      rcases Int.mul_eq_zero.1 e3 with h | h
      · exact h
      · omega
    rw [if_pos ht0, ht0, hz]
    have : (decide (a < 0) && !decide (b < 0)) = false := by
      by_cases h : a < 0
      · have : b < 0 := by omega
        simp [h, this]
      · simp [h]
    rw [this]
    unfold wzf Format.nearest
    simp
  · have ht0 : t ≠ 0 := fun e => hz (by
      rw [e, Int.zero_mul] at e3
      rcases Int.mul_eq_zero.1 e3.symm with h | h
      · exact h
      · omega)
    have hs : decide (t < 0) = decide (a - b < 0) := by
      rw [decide_eq_decide]
      constructor
      · intro h
        have h1 : t * ((2 ^ p : Nat) : Int) < 0 := Int.mul_neg_of_neg_of_pos h hpp
        rw [e3] at h1
        rcases Int.lt_or_le (a - b) 0 with h2 | h2
        · exact h2
        · have := Int.mul_nonneg h2 (Int.le_of_lt hpk)
          omega
      · intro h
        have h1 : (a - b) * ((2 ^ K : Nat) : Int) < 0 := Int.mul_neg_of_neg_of_pos h hpk
        rw [← e3] at h1
        rcases Int.lt_or_le t 0 with h2 | h2
        · exact h2
        · have := Int.mul_nonneg h2 (Int.le_of_lt hpp)
          omega
    rw [if_neg ht0, hs]
    unfold wzf
    rw [near_same f (decide (a - b < 0)) t.natAbs (a - b).natAbs K base hK (by omega) (by omega) hab (by
      rw [← hp]
      have := congrArg Int.natAbs e3
      rw [Int.natAbs_mul, Int.natAbs_mul, Int.natAbs_natCast, Int.natAbs_natCast] at this
      exact this)]
theorem wzf_word (f : Format) (z : Int) (K : Nat) (hK : f.leastPlace = -(K : Int)) (hi0 : 0 < f.infRung) (hzl : z.natAbs.log2 ≤ f.fractionBits) (hV : z.natAbs * 2 ^ K < rungVal f f.infRung) : ∃ r, wzf f z = f.word (decide (z < 0)) r ∧ r < f.infRung := by
  by_cases hz : z = 0
  · subst hz
    exact ⟨0, by unfold wzf Format.nearest; simp, hi0⟩
  · obtain ⟨r, h1, h2, -⟩ := nearest_exact f (decide (z < 0)) z.natAbs 0 (by omega) hzl (by omega) (by rw [show (0 - f.leastPlace).toNat = K by omega]; exact hV)
    exact ⟨r, h1, h2⟩
/-- A whole number times 2^s, times 2^-s. -/
theorem mul_exact (f : Format) (z : Int) (s c K : Nat) (hK : f.leastPlace = -(K : Int)) (hsw : f.infRung < f.signWeight) (hi0 : 0 < f.infRung) (hs : s + f.fractionBits + 1 ≤ K) (hc : f.read c = .number false (2 ^ f.fractionBits) (-((f.fractionBits + s : Nat) : Int)))
    (hz : z.natAbs.log2 ≤ f.fractionBits) (hzs : (z * 2 ^ s).natAbs.log2 ≤ f.fractionBits) (hV : (z * 2 ^ s).natAbs * 2 ^ K < rungVal f f.infRung) : f.mul c (wzf f (z * 2 ^ s)) = some (wzf f z) := by
  obtain ⟨m, i, r1, l1, v1, b1⟩ := wzf_read f (z * 2 ^ s) K hK hsw hi0 hzs hV
  have hsg : decide (z * 2 ^ s < 0) = decide (z < 0) := by
    rw [decide_eq_decide]
    have hp : (0 : Int) < 2 ^ s := Int.pow_pos (by decide)
    constructor
    · intro h
      rcases Int.lt_or_le z 0 with h2 | h2
      · exact h2
      · have := Int.mul_nonneg h2 (Int.le_of_lt hp)
        omega
    · intro h
      exact Int.mul_neg_of_neg_of_pos h hp
  have hab : (z * 2 ^ s).natAbs = z.natAbs * 2 ^ s := by rw [Int.natAbs_mul, Int.natAbs_pow]; rfl
  rw [hab, Nat.mul_assoc, ← Nat.pow_add] at v1
  unfold Format.mul
  rw [hc, r1, hsg]
  show some (f.nearest (false ^^ decide (z < 0)) (2 ^ f.fractionBits * m) (-((f.fractionBits + s : Nat) : Int) + i)) = _
  rw [show (false ^^ decide (z < 0)) = decide (z < 0) by simp]
  by_cases h0 : z = 0
  · subst h0
    have hm : m = 0 := by
      have : m * 2 ^ (i - f.leastPlace).toNat = 0 := by rw [v1]; simp
      rcases Nat.mul_eq_zero.1 this with h | h
      · exact h
      · exact absurd h (Nat.ne_of_gt (Nat.two_pow_pos _))
    rw [hm]
    unfold wzf Format.nearest
    simp
  · have hm : m ≠ 0 := fun e => by
      rw [e, Nat.zero_mul] at v1
      rcases Nat.mul_eq_zero.1 v1.symm with h | h
      · omega
      · exact absurd h (Nat.ne_of_gt (Nat.two_pow_pos _))
    have hml : m.log2 ≤ f.fractionBits := log2_lt m _ hm (by rw [Nat.pow_succ, Nat.mul_comm]; exact b1)
    have hi : (s : Int) - f.fractionBits ≤ i := by
      have a1 : 2 ^ (s + K) ≤ z.natAbs * 2 ^ (s + K) := Nat.le_mul_of_pos_left _ (by omega)
      have a2 : m * 2 ^ (i - f.leastPlace).toNat < 2 ^ (f.fractionBits + 1) * 2 ^ (i - f.leastPlace).toNat := Nat.mul_lt_mul_of_pos_right (by rw [Nat.pow_succ, Nat.mul_comm]; exact b1) (Nat.two_pow_pos _)
      have a3 : 2 ^ (s + K) < 2 ^ (f.fractionBits + 1 + (i - f.leastPlace).toNat) := by rw [Nat.pow_add 2 (f.fractionBits + 1)]; omega
      have := (Nat.pow_lt_pow_iff_right (by decide : 1 < 2)).1 a3
      omega
    rw [Nat.mul_comm, nearest_scale f _ m f.fractionBits _ hm hml (by omega), show -((f.fractionBits + s : Nat) : Int) + i + (f.fractionBits : Int) = i - (s : Int) by omega]
    unfold wzf
    rw [near_same f (decide (z < 0)) m z.natAbs K (i - (s : Int)) hK (by omega) (by omega) hz (by
      have e1 : (i - f.leastPlace).toNat = (i - (s : Int) - f.leastPlace).toNat + s := by omega
      rw [e1, Nat.pow_add, ← Nat.mul_assoc, Nat.add_comm s K, Nat.pow_add, ← Nat.mul_assoc] at v1
      exact Nat.eq_of_mul_eq_mul_right (Nat.two_pow_pos s) v1)]
end Go.Proofs.Ytojhhimmfnccjaa
