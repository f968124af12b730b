/- A whole number times a power of two, as a float: exactly. The document's own Join of it. -/
import Derived.Test.YthjcofdcbinliaaWiden2
import Derived.Test.YthjcofdcbinliaaRJ
namespace Go.Proofs.Ythjcofdcbinliaa
open Go.ChangeShapes Go.WideShapes Go.ChangeAt Go.RowKit Ieee
set_option linter.unusedVariables false
set_option linter.unusedSimpArgs false

theorem log2_scale (m k : Nat) (hm : m ≠ 0) : (m * 2 ^ k).log2 = m.log2 + k := by
  have hp : 0 < 2 ^ k := Nat.two_pow_pos k
  rw [Nat.log2_eq_iff (Nat.ne_of_gt (Nat.mul_pos (Nat.pos_of_ne_zero hm) hp))]
  have l1 : 2 ^ m.log2 ≤ m := Nat.log2_self_le hm
  have l2 : m < 2 ^ (m.log2 + 1) := Nat.lt_log2_self
  constructor
  · rw [Nat.pow_add]; exact Nat.mul_le_mul_right _ l1
  · rw [show m.log2 + k + 1 = (m.log2 + 1) + k by omega, Nat.pow_add]; exact Nat.mul_lt_mul_of_pos_right l2 hp

theorem cut_even (neg : Bool) (m k d : Nat) (hm : m ≠ 0) (hd : d ≤ k) : Toward.even.cut neg (m * 2 ^ k) d = m * 2 ^ (k - d) := by
  have hn : (m * 2 ^ k).log2 = m.log2 + k := log2_scale m k hm
  have hmin : min d ((m * 2 ^ k).log2 + 2) = d := by rw [hn]; omega
  have hpd : 0 < 2 ^ d := Nat.two_pow_pos d
  have hs : m * 2 ^ k = m * 2 ^ (k - d) * 2 ^ d := by rw [Nat.mul_assoc, ← Nat.pow_add]; congr 2; omega
  unfold Toward.cut
  simp only [hmin, Nat.shiftLeft_eq, Nat.one_mul]
  rw [hs, Nat.mul_div_cancel _ hpd, Nat.mul_mod_left]
  have h1 : ¬ 2 ^ d < 2 * 0 := by omega
  have h2 : ¬ 2 ^ d = 2 * 0 := by omega
  simp [h1, h2]

theorem nearest_scale (f : Format) (s : Bool) (m k : Nat) (p : Int) (hm : m ≠ 0) (hl : m.log2 ≤ f.fractionBits) (hp : f.leastPlace ≤ p + k) : f.nearest s (m * 2 ^ k) p = f.nearest s m (p + k) := by
  have hp2 : 0 < 2 ^ k := Nat.two_pow_pos k
  have hmk : m * 2 ^ k ≠ 0 := Nat.ne_of_gt (Nat.mul_pos (Nat.pos_of_ne_zero hm) hp2)
  unfold Format.nearest
  rw [if_neg hm, if_neg hmk]
  simp only
  rw [log2_scale m k hm]
  obtain ⟨last, hlast⟩ : ∃ last, last = max (p + (k : Int) + (m.log2 : Int) - (f.fractionBits : Int)) f.leastPlace := ⟨_, rfl⟩
  rw [show p + ((m.log2 + k : Nat) : Int) - (f.fractionBits : Int) = p + (k : Int) + (m.log2 : Int) - (f.fractionBits : Int) by omega, ← hlast]
  have hle : last ≤ p + k := by omega
  rw [show (last - (p + (k : Int))).toNat = 0 by omega, cut_none]
  congr 3
  by_cases h : last ≤ p
  · rw [show (last - p).toNat = 0 by omega, cut_none, Nat.shiftLeft_eq, Nat.shiftLeft_eq, Nat.mul_assoc, ← Nat.pow_add]
    congr 2; omega
  · rw [show (p - last).toNat = 0 by omega, Nat.shiftLeft_zero, cut_even s m k _ hm (by omega), Nat.shiftLeft_eq]
    congr 2; omega

theorem log2_lt (m n : Nat) (hm : m ≠ 0) (h : m < 2 ^ (n + 1)) : m.log2 ≤ n := by
  have l1 : 2 ^ m.log2 ≤ m := Nat.log2_self_le hm
  have : 2 ^ m.log2 < 2 ^ (n + 1) := Nat.lt_of_le_of_lt l1 h
  have := (Nat.pow_lt_pow_iff_right (by decide : 1 < 2)).1 this
  omega

/-- m times 2^-e, exactly: its rung. -/
theorem frac_word (f : Format) (m c e fb K : Nat) (hfb : f.fractionBits = fb) (hK : f.leastPlace = -(K : Int)) (hm : m ≠ 0) (hm2 : m < 2 ^ e) (he : e = fb + 1) (hKe : e + e ≤ K)
    (hc : f.read c = .number false (2 ^ fb) (-((e + fb : Nat) : Int))) (hinf : 2 ^ (K + e) ≤ rungVal f f.infRung) (hsw : f.infRung < f.signWeight) :
    ∃ r, f.mul (f.nearest false m 0) c = some r ∧ r < f.infRung ∧ rungVal f r = m * 2 ^ (K - e) := by
  have hbin : f.binade = 2 ^ fb := by unfold Format.binade; rw [hfb]
  have hK0 : (0 - f.leastPlace).toNat = K := by omega
  have hml : m.log2 ≤ f.fractionBits := by rw [hfb]; exact log2_lt m fb hm (by rw [← he]; exact hm2)
  have hmK : m * 2 ^ K < rungVal f f.infRung := Nat.lt_of_lt_of_le (by rw [Nat.add_comm, Nat.pow_add]; exact Nat.mul_lt_mul_of_pos_right hm2 (Nat.two_pow_pos _)) hinf
  obtain ⟨r1, h1, h2, h3⟩ := nearest_exact f false m 0 hm hml (by omega) (by rw [hK0]; exact hmK)
  rw [hK0] at h3
  have hr1 : rung f (f.word false r1) = r1 := rung_word f false r1 (by omega)
  obtain ⟨m', i, h4, h5, h6, h7⟩ := read_num f (f.word false r1) (by rw [hr1]; exact h2)
  rw [below_word f false r1 (by omega)] at h4
  rw [hr1, h3] at h6
  obtain ⟨I, hI⟩ : ∃ I : Nat, (i - f.leastPlace).toNat = I := ⟨_, rfl⟩
  rw [hI] at h6
  have hm' : m' ≠ 0 := by
    intro h0
    rw [h0, Nat.zero_mul] at h6
    exact absurd h6.symm (Nat.ne_of_gt (Nat.mul_pos (Nat.pos_of_ne_zero hm) (Nat.two_pow_pos K)))
  have h7' : m' < 2 ^ e := by rw [he, Nat.pow_succ, Nat.mul_comm, ← hbin]; exact h7
  -- the last digit's place
  have hIK : K < I + e := by
    apply (Nat.pow_lt_pow_iff_right (by decide : 1 < 2)).1
    have a1 : 2 ^ K ≤ m * 2 ^ K := Nat.le_mul_of_pos_left _ (Nat.pos_of_ne_zero hm)
    have a2 : m' * 2 ^ I < 2 ^ e * 2 ^ I := Nat.mul_lt_mul_of_pos_right h7' (Nat.two_pow_pos _)
    rw [Nat.add_comm I e, Nat.pow_add]
    omega
  have hml' : m'.log2 ≤ f.fractionBits := by rw [hfb]; exact log2_lt m' fb hm' (by rw [← he]; exact h7')
  have hiI : i = (I : Int) - K := by omega
  have hval : m' * 2 ^ (I - e) = m * 2 ^ (K - e) := by
    have e1 : m' * 2 ^ I = m' * 2 ^ (I - e) * 2 ^ e := by rw [Nat.mul_assoc, ← Nat.pow_add]; congr 2; omega
    have e2 : m * 2 ^ K = m * 2 ^ (K - e) * 2 ^ e := by rw [Nat.mul_assoc, ← Nat.pow_add]; congr 2; omega
    rw [e1, e2] at h6
    exact Nat.eq_of_mul_eq_mul_right (Nat.two_pow_pos e) h6
  have hpl : (i - (e : Int) - f.leastPlace).toNat = I - e := by omega
  obtain ⟨r2, g1, g2, g3⟩ := nearest_exact f false m' (i - (e : Int)) hm' hml' (by omega) (by
    rw [hpl, hval]
    refine Nat.lt_of_le_of_lt ?_ hmK
    exact Nat.mul_le_mul_left _ (Nat.pow_le_pow_right (by decide) (by omega)))
  refine ⟨r2, ?_, g2, by rw [g3, hpl, hval]⟩
  unfold Format.mul
  rw [h1, h4, hc]
  show some (f.nearest (false ^^ false) (m' * 2 ^ fb) (i + -((e + fb : Nat) : Int))) = some r2
  rw [show (false ^^ false) = false from rfl, nearest_scale f false m' fb _ hm' hml' (by omega), show i + -((e + fb : Nat) : Int) + (fb : Int) = i - (e : Int) by omega, g1]
  rfl

end Go.Proofs.Ythjcofdcbinliaa
