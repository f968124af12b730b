/- Convert of package bits from a width to the same one; tensor's told. -/
import Derived.Test.YtocjfdiimapojaaTB
namespace Go.Proofs.Ytocjfdiimapojaa
open Go.ChangeShapes Go.WideShapes Go.ChangeAt Go.RowKit Ieee
set_option linter.unusedVariables false
set_option linter.unusedSimpArgs false

theorem log2_scale (m k : Nat) (hm : m ≠ 0) : (m * 2 ^ k).log2 = m.log2 + k := by
  have hp : 0 < 2 ^ k := Nat.two_pow_pos k
  rw [Nat.log2_eq_iff (Nat.ne_of_gt (Nat.mul_pos (Nat.pos_of_ne_zero hm) hp))]
  have l1 : 2 ^ m.log2 ≤ m := Nat.log2_self_le hm
  have l2 : m < 2 ^ (m.log2 + 1) := Nat.lt_log2_self
  constructor
  · rw [Nat.pow_add]; exact Nat.mul_le_mul_right _ l1
  · rw [show m.log2 + k + 1 = (m.log2 + 1) + k by omega, Nat.pow_add]; exact Nat.mul_lt_mul_of_pos_right l2 hp

theorem cut_even (neg : Bool) (m k d : Nat) (hm : m ≠ 0) (hd : d ≤ k) : Toward.even.cut neg (m * 2 ^ k) d = m * 2 ^ (k - d) := by
  have hn : (m * 2 ^ k).log2 = m.log2 + k := log2_scale m k hm
  have hmin : min d ((m * 2 ^ k).log2 + 2) = d := by rw [hn]; omega
  have hpd : 0 < 2 ^ d := Nat.two_pow_pos d
  have hs : m * 2 ^ k = m * 2 ^ (k - d) * 2 ^ d := by rw [Nat.mul_assoc, ← Nat.pow_add]; congr 2; omega
  unfold Toward.cut
  simp only [hmin, Nat.shiftLeft_eq, Nat.one_mul]
  rw [hs, Nat.mul_div_cancel _ hpd, Nat.mul_mod_left]
  have h1 : ¬ 2 ^ d < 2 * 0 := by omega
  have h2 : ¬ 2 ^ d = 2 * 0 := by omega
  simp [h1, h2]

theorem nearest_scale (f : Format) (s : Bool) (m k : Nat) (p : Int) (hm : m ≠ 0) (hl : m.log2 ≤ f.fractionBits) (hp : f.leastPlace ≤ p + k) : f.nearest s (m * 2 ^ k) p = f.nearest s m (p + k) := by
  have hp2 : 0 < 2 ^ k := Nat.two_pow_pos k
  have hmk : m * 2 ^ k ≠ 0 := Nat.ne_of_gt (Nat.mul_pos (Nat.pos_of_ne_zero hm) hp2)
  unfold Format.nearest
  rw [if_neg hm, if_neg hmk]
  simp only
  rw [log2_scale m k hm]
  obtain ⟨last, hlast⟩ : ∃ last, last = max (p + (k : Int) + (m.log2 : Int) - (f.fractionBits : Int)) f.leastPlace := ⟨_, rfl⟩
  rw [show p + ((m.log2 + k : Nat) : Int) - (f.fractionBits : Int) = p + (k : Int) + (m.log2 : Int) - (f.fractionBits : Int) by omega, ← hlast]
  have hle : last ≤ p + k := by omega
  rw [show (last - (p + (k : Int))).toNat = 0 by omega, cut_none]
  congr 3
  by_cases h : last ≤ p
  · rw [show (last - p).toNat = 0 by omega, cut_none, Nat.shiftLeft_eq, Nat.shiftLeft_eq, Nat.mul_assoc, ← Nat.pow_add]
    congr 2; omega
  · rw [show (p - last).toNat = 0 by omega, Nat.shiftLeft_zero, cut_even s m k _ hm (by omega), Nat.shiftLeft_eq]
    congr 2; omega

theorem log2_lt (m n : Nat) (hm : m ≠ 0) (h : m < 2 ^ (n + 1)) : m.log2 ≤ n := by
  have l1 : 2 ^ m.log2 ≤ m := Nat.log2_self_le hm
  have : 2 ^ m.log2 < 2 ^ (n + 1) := Nat.lt_of_le_of_lt l1 h
  have := (Nat.pow_lt_pow_iff_right (by decide : 1 < 2)).1 this
  omega


theorem nanAns32_nan (b : Nat) (w : World) : FloatKind.f32.format.infRung < rung FloatKind.f32.format (nanAns .f32 b w) := by
  unfold nanAns Question.cut rung
  simp only
  rw [inf32, sw32]
  generalize w.tape w.drawn (.nanConv .f32 b) = t
  have h1 : t % 2 < 2 := Nat.mod_lt _ (by decide)
  have h2 : t / 2 % (2 ^ 23 - 1) < 2 ^ 23 - 1 := Nat.mod_lt _ (by decide)
  generalize t % 2 = s at *
  generalize t / 2 % (2 ^ 23 - 1) = u at *
  omega

theorem word_self (x : Nat) (hx : x < 4294967296) : FloatKind.f32.format.word (below FloatKind.f32.format x) (rung FloatKind.f32.format x) = x := by
  unfold Format.word below rung
  rw [sw32]
  have h1 := Nat.div_add_mod x 2147483648
  have h2 : x / 2147483648 < 2 := by omega
  rcases (show x / 2147483648 = 0 ∨ x / 2147483648 = 1 by omega) with h | h
  · simp [h]; omega
  · simp [h]; omega

/-- A binary32 that is finite, widened, comes back by rounding. -/
theorem narrow_num (x : Nat) (h : rung FloatKind.f32.format x < FloatKind.f32.format.infRung) :
    ∃ m i, FloatKind.f64.decode (W x) = .number (below FloatKind.f32.format x) m i ∧ FloatKind.f32.format.nearest (below FloatKind.f32.format x) m i = FloatKind.f32.format.word (below FloatKind.f32.format x) (rung FloatKind.f32.format x) := by
  obtain ⟨w1, w2, w3⟩ := W_num x h
  obtain ⟨m, i, e, hi, hv, hm⟩ := read_num FloatKind.f64.format (W x) w1
  obtain ⟨m0, i0, e0, hi0, hv0, hm0⟩ := read_num FloatKind.f32.format x h
  have hlt := rungVal_lt FloatKind.f32.format h
  rw [w3] at e
  rw [w2, ← hv0] at hv
  rw [rungVal_inf32] at hlt
  rw [least64] at hi hv
  rw [least32] at hi0 hv hv0
  rw [bin32] at hm0
  generalize hR : rung FloatKind.f32.format x = R at *
  generalize below FloatKind.f32.format x = s at *
  refine ⟨m, i, e, ?_⟩
  have hve : m * 2 ^ (i - -1074).toNat = m0 * 2 ^ (i0 - -1074).toNat := by
    rw [hv, Nat.mul_assoc, ← Nat.pow_add]
    congr 2
    unfold shiftE
    omega
  clear hv w2 e e0
  by_cases h0 : m0 = 0
  · subst h0
    rw [Nat.zero_mul] at hve hv0
    have hm00 : m = 0 := by
      rcases Nat.mul_eq_zero.1 hve with h | h
      · exact h
      · exact absurd h (Nat.ne_of_gt (Nat.two_pow_pos _))
    subst hm00
    have : R = 0 := rungVal_inj FloatKind.f32.format (by rw [← hv0, rungVal_zero])
    subst this
    unfold Format.nearest
    rw [if_pos rfl]
  · have hfb : FloatKind.f32.format.fractionBits = 23 := by decide +kernel
    have key : ∀ (m' : Nat) (i' : Int), m' ≠ 0 → m' < 16777216 → -149 ≤ i' → m' * 2 ^ (i' - -149).toNat = m0 * 2 ^ (i0 - -149).toNat → FloatKind.f32.format.nearest s m' i' = FloatKind.f32.format.word s R := by
      intro m' i' hm' hl' hi' hv'
      obtain ⟨r, h1, h2, h3⟩ := nearest_exact FloatKind.f32.format s m' i' hm' (by rw [hfb]; exact log2_lt m' 23 hm' hl') (by rw [least32]; exact hi') (by rw [least32, hv', hv0, rungVal_inf32]; exact hlt)
      rw [h1]
      congr 1
      exact rungVal_inj FloatKind.f32.format (by rw [h3, least32, hv', hv0])
    by_cases hii : i ≤ i0
    · have hmm : m = m0 * 2 ^ (i0 - i).toNat := by
        have : m0 * 2 ^ (i0 - -1074).toNat = m0 * 2 ^ (i0 - i).toNat * 2 ^ (i - -1074).toNat := by
          rw [Nat.mul_assoc, ← Nat.pow_add]
          congr 2
          omega
        rw [this] at hve
        exact Nat.eq_of_mul_eq_mul_right (Nat.two_pow_pos _) hve
      rw [hmm, nearest_scale FloatKind.f32.format s m0 (i0 - i).toNat i h0 (by rw [hfb]; exact log2_lt m0 23 h0 (by omega)) (by rw [least32]; omega)]
      rw [show i + (((i0 - i).toNat : Nat) : Int) = i0 by omega]
      exact key m0 i0 h0 (by omega) hi0 rfl
    · have hmm : m * 2 ^ (i - i0).toNat = m0 := by
        have : m * 2 ^ (i - -1074).toNat = m * 2 ^ (i - i0).toNat * 2 ^ (i0 - -1074).toNat := by
          rw [Nat.mul_assoc, ← Nat.pow_add]
          congr 2
          omega
        rw [this] at hve
        exact Nat.eq_of_mul_eq_mul_right (Nat.two_pow_pos _) hve
      have hm1 : m ≠ 0 := by
        intro h
        subst h
        rw [Nat.zero_mul] at hmm
        exact h0 hmm.symm
      have hle : m ≤ m0 := by
        rw [← hmm]
        exact Nat.le_mul_of_pos_right _ (Nat.two_pow_pos _)
      refine key m i hm1 (by omega) (by omega) ?_
      rw [← hmm, Nat.mul_assoc, ← Nat.pow_add]
      congr 2
      omega

theorem narrow_bits (x : Nat) (hx : x < 4294967296) (h : rung FloatKind.f32.format x ≤ FloatKind.f32.format.infRung) : floatToFloatBits .f64 (W x) .f32 = some x := by
  have hw := word_self x hx
  unfold floatToFloatBits
  rw [if_neg (by decide)]
  by_cases hi : rung FloatKind.f32.format x = FloatKind.f32.format.infRung
  · obtain ⟨a1, a2⟩ := W_inf x hi
    have e : FloatKind.f64.decode (W x) = .infinity (below FloatKind.f64.format (W x)) := read_inf FloatKind.f64.format (W x) a1 hb64
    rw [e, a2]
    show some (FloatKind.f32.format.word (below FloatKind.f32.format x) FloatKind.f32.format.infRung) = some x
    rw [← hi, hw]
  · obtain ⟨m, i, e, hn⟩ := narrow_num x (by omega)
    rw [e]
    have he : FloatKind.f32.encode (.number (below FloatKind.f32.format x) m i) = x := by
      show FloatKind.f32.format.nearest (below FloatKind.f32.format x) m i = x
      rw [hn, hw]
    simp only
    rw [he, if_neg]
    obtain ⟨m', i', e', -⟩ := read_num FloatKind.f32.format x (by omega)
    show ¬ (FloatKind.f32.format.read x).isInfinity = true
    rw [e']
    simp [Datum.isInfinity]

/-- An element as it is answered: what is no number by the one pattern. -/
def cln (b n : Int) : Int := if cls b n = 4 then (if n = 64 then 9221120237041090561 else 2143289345) else b

theorem pat32_lt (b : Int) : pat32 b < 4294967296 := by
  unfold pat32
  split <;> omega

theorem cln_rng (b n : Int) (hb1 : -9223372036854775808 ≤ b) (hb2 : b ≤ 9223372036854775807) : -9223372036854775808 ≤ cln b n ∧ cln b n ≤ 9223372036854775807 := by
  unfold cln
  (repeat' split) <;> omega
end Go.Proofs.Ytocjfdiimapojaa
