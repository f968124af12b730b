/- SpanTight. Package span: sums, products, quotients of smaller intervals are smaller: by keys alone. -/
import Derived.Test.YtalhnaakbekboaaDoorW45
import Derived.Test.YtalhnaakbekboaaDoorW44
namespace Go.Proofs.YtalhnaakbekboaaDoor
open Go.ChangeShapes Go.WideShapes Go.ChangeAt Go.RowKit Ieee
set_option linter.unusedVariables false
set_option linter.unusedSimpArgs false

theorem vsp_keys (n K1 K2 : Int) (hn : n = 64 ∨ n = 32) (h1 : -(ifn n : Int) ≤ K1) (h2 : K1 < (ifn n : Int)) (h3 : -(ifn n : Int) < K2) (h4 : K2 ≤ (ifn n : Int)) (h5 : K1 ≤ K2) : vsp (pz n K1) (pz n K2) n = true ∧ RB (pz n K1) ∧ RB (pz n K2) ∧ keyOf (pz n K1) n = K1 ∧ keyOf (pz n K2) n = K2 := by
  have e1 := pz_key n K1 hn h1 (by omega)
  have e2 := pz_key n K2 hn (by omega) h4
  refine ⟨?_, pz_range n K1 hn h1 (by omega), pz_range n K2 hn (by omega) h4, e1, e2⟩
  unfold vsp
  rw [pz_num n K1 hn h1 (by omega), pz_num n K2 hn (by omega) h4, e1, e2]
  simp only [Bool.true_and, Bool.and_eq_true, decide_eq_true_eq]
  omega
/- what is around a number, by keys -/
theorem ky_near (n : Int) (hn : n = 64 ∨ n = 32) (r : Nm) (hv : vld r = true) : (kyN n 1 r < (ifn n : Int) ∧ -(ifn n : Int) < kyN n 2 r ∧ kyN n 1 r ≤ kyN n 2 r) ∧ decide (kyN n 1 r = kyN n 2 r) = !oxN n 0 r ∧ (oxN n 0 r = true → kyN n 2 r = kyN n 1 r + 1) := by
  obtain ⟨hN, e1, e2⟩ := nbrN n hn r hv (min r.exp (-2000)) (fun _ => by omega) (by rcases hn with rfl | rfl <;> (have : kleast 64 = -1074 := rfl; have : kleast 32 = -149 := rfl; omega))
  rw [e2]
  cases ho : oxN n 1 r
  · obtain ⟨a1, a2, a3, a4, a5⟩ := hN.same ho
    refine ⟨by omega, ?_, fun h => by cases h⟩
    rw [decide_eq_true a1.symm]
    rfl
  · obtain ⟨a1, a2, a3, a4, -⟩ := hN.next ho
    refine ⟨by omega, ?_, fun _ => a1⟩
    rw [decide_eq_false (by omega)]
    rfl
/- a finite pattern's number, by its key -/
theorem ofN_key (y n : Int) (hn : n = 64 ∨ n = 32) (hy : RB y) (hc : cls y n < 3) : ofN y n = ofN (pz n (keyOf y n)) n ∧ isnum y n = true ∧ (-(ifn n : Int) < keyOf y n ∧ keyOf y n < (ifn n : Int)) := by
  have hi : isnum y n = true := by
    unfold isnum
    rw [decide_eq_true_eq]
    exact ⟨hn, by omega⟩
  have hf := fin_key y n hn hi hy
  have hfin : fin y n = true := by
    unfold fin
    rw [decide_eq_true_eq]
    exact ⟨hn, hc⟩
  rw [hfin] at hf
  have hne := of_decide_eq_true hf.symm
  have hr := key_rng y n hi hy.1 hy.2
  refine ⟨?_, hi, by omega⟩
  have hcan := can_pz y n hi hy.1 hy.2
  rw [← hcan]
  unfold can
  rw [if_pos hi]
  rcases hn with rfl | rfl
  · rw [if_pos rfl]
    by_cases hz : y = -9223372036854775808
    · rw [if_pos hz]
      subst hz
      rw [(of_zero (-9223372036854775808) 64 (by decide)).2, (of_zero 0 64 (by decide)).2]
    · rw [if_neg hz]
  · rw [if_neg (by decide : ¬ (32 : Int) = 64)]
    by_cases hz : y = 2147483648
    · rw [if_pos hz]
      subst hz
      rw [(of_zero 2147483648 32 (by decide)).2, (of_zero 0 32 (by decide)).2]
    · rw [if_neg hz]
theorem of_both_lies (y n : Int) (hn : n = 64 ∨ n = 32) (hy : RB y) (hc : cls y n < 3) : Lies (-1075) 5000 (ofN y n) ∧ vz (-1075) (ofN y n) = kvz n (-1074) (keyOf y n) * 2 := by
  obtain ⟨e, hi, b1, b2⟩ := ofN_key y n hn hy hc
  rw [e]
  obtain ⟨h1, h2⟩ := of_key n (keyOf y n) hn b1 b2 (-1075) (by decide) (by decide)
  refine ⟨h1, ?_⟩
  have hkl : (-1074 : Int) ≤ kleast n := by rcases hn with rfl | rfl <;> decide
  rw [h2, kvz_down n (-1075) (-1074) _ (by decide) hkl]
  rfl
end Go.Proofs.YtalhnaakbekboaaDoor

namespace Go.Proofs.YtalhnaakbekboaaDoor
open Go.ChangeShapes Go.WideShapes Go.ChangeAt Go.RowKit Ieee
set_option linter.unusedVariables false
set_option linter.unusedSimpArgs false

/-- what is below H * H can be written, and finite floats are below H -/
structure HB (n H : Int) : Prop where
  one : 1 ≤ H
  fin : ∀ k, -(ifn n : Int) < k → k < (ifn n : Int) → -H < kvz n (-1074) k ∧ kvz n (-1074) k < H
  wrt : ∀ s z, (s = -1074 ∨ s = -2148) → -(H * H) < z → z < H * H → ∃ r, cfm z s = some r ∧ vld r = true ∧ (r.mag ≠ [] → s ≤ r.exp) ∧ vz s r = z
theorem hb_ex (n : Int) (hn : n = 64 ∨ n = 32) : ∃ H, HB n H := by
  obtain ⟨N, hN⟩ : ∃ N : Nat, N = 5000 := ⟨_, rfl⟩
  have hp : 0 < 2 ^ N := Nat.two_pow_pos N
  refine ⟨((2 ^ N : Nat) : Int), by omega, fun k h1 h2 => ?_, fun s z hs h1 h2 => ?_⟩
  · obtain ⟨g1, g2⟩ := of_key n k hn h1 h2 (-1075) (by decide) (by decide)
    have hl := g1.lt
    rw [g2, ← hN] at hl
    have hkl : (-1074 : Int) ≤ kleast n := by rcases hn with rfl | rfl <;> decide
    have hd := kvz_down n (-1075) (-1074) k (by decide) hkl
    have e2 : (2 : Int) ^ (-1074 - -1075 : Int).toNat = 2 := rfl
    rw [e2] at hd
    generalize 2 ^ N = P at *
    omega
  · have hz : z.natAbs < 2 ^ (N + N) := by
      rw [Nat.pow_add]
      have e : ((2 ^ N : Nat) : Int) * ((2 ^ N : Nat) : Int) = ((2 ^ N * 2 ^ N : Nat) : Int) := (Int.natCast_mul _ _).symm
      rw [e] at h1 h2
      generalize 2 ^ N * 2 ^ N = P at *
      omega
    obtain ⟨r, q1, q2, q3⟩ := cfm_lies s (N + N) (by omega) (by omega) (by omega) z hz
    exact ⟨r, q1, q2.ok, q2.low, q3⟩
theorem ky_cfm (n way s H : Int) (hn : n = 64 ∨ n = 32) (hs : s = -1074 ∨ s = -2148) (hb : HB n H) (z1 z2 : Int) (a1 : -(H * H) < z1) (a2 : z1 < H * H) (a3 : -(H * H) < z2) (a4 : z2 < H * H) (r1 r2 : Nm) (e1 : cfm z1 s = some r1) (e2 : cfm z2 s = some r2) (hz : z1 ≤ z2) : kyN n way r1 ≤ kyN n way r2 := by
  obtain ⟨p1, f1, v1, l1, g1⟩ := hb.wrt s z1 hs a1 a2
  obtain ⟨p2, f2, v2, l2, g2⟩ := hb.wrt s z2 hs a3 a4
  rw [e1] at f1
  rw [e2] at f2
  cases f1
  cases f2
  have hkl : (-1074 : Int) ≤ kleast n := by rcases hn with rfl | rfl <;> decide
  refine kyN_mono n way hn (s - 1) (by omega) r1 r2 v1 v2 (fun h => by have := l1 h; omega) (fun h => by have := l2 h; omega) ?_
  rw [vz_down (s - 1) s r1 (by omega) l1, vz_down (s - 1) s r2 (by omega) l2, g1, g2]
  have e : (2 : Int) ^ (s - (s - 1)).toNat = 2 := by
    rw [show s - (s - 1) = 1 by omega]
    rfl
  rw [e]
  omega
theorem hh_le {n H : Int} (hb : HB n H) : H ≤ H * H ∧ 1 ≤ H * H := by
  have h1 := hb.one
  have := Int.mul_le_mul_of_nonneg_left h1 (show 0 ≤ H by omega)
  rw [Int.mul_one] at this
  omega
theorem smk_mono (n way : Int) (hn : n = 64 ∨ n = 32) (k1 k2 j1 j2 K J : Int) (rk1 : -(ifn n : Int) ≤ k1 ∧ k1 ≤ (ifn n : Int)) (rk2 : -(ifn n : Int) ≤ k2 ∧ k2 ≤ (ifn n : Int)) (rj1 : -(ifn n : Int) ≤ j1 ∧ j1 ≤ (ifn n : Int)) (rj2 : -(ifn n : Int) ≤ j2 ∧ j2 ≤ (ifn n : Int)) (h : Smk n way k1 k2 K) (g : Smk n way j1 j2 J) (l1 : k1 ≤ j1) (l2 : k2 ≤ j2) : K ≤ J := by
  have hpos := ifn_p n
  obtain ⟨H, hb⟩ := hb_ex n hn
  obtain ⟨hh1, hh2⟩ := hh_le hb
  rcases h with ⟨h1, h2, h3⟩ | ⟨h1, h2, h3⟩ | ⟨h1, h2, r, hr, h3⟩ <;> rcases g with ⟨g1, g2, g3⟩ | ⟨g1, g2, g3⟩ | ⟨g1, g2, q, hq, g3⟩
  · omega
  · omega
  · have := kyN_range n way q
    omega
  · omega
  · omega
  · have := kyN_range n way q
    omega
  · have := kyN_range n way r
    omega
  · have := kyN_range n way r
    omega
  · rw [h3, g3]
    have m1 : kvz n (-1074) k1 ≤ kvz n (-1074) j1 := by
      rcases Int.lt_or_eq_of_le l1 with h | h
      · exact Int.le_of_lt (kvz_lt n (-1074) hn _ _ h)
      · rw [h]; exact Int.le_refl _
    have m2 : kvz n (-1074) k2 ≤ kvz n (-1074) j2 := by
      rcases Int.lt_or_eq_of_le l2 with h | h
      · exact Int.le_of_lt (kvz_lt n (-1074) hn _ _ h)
      · rw [h]; exact Int.le_refl _
    have b1 := hb.fin k1 h1.1 h1.2
    have b2 := hb.fin k2 h2.1 h2.2
    have b3 := hb.fin j1 g1.1 g1.2
    have b4 := hb.fin j2 g2.1 g2.2
    have h2H : H + H ≤ H * H ∨ H = 1 := by
      by_cases hc : H = 1
      · exact .inr hc
      · left
        have h1 := hb.one
        have := Int.mul_le_mul_of_nonneg_left (show (2 : Int) ≤ H by omega) (show 0 ≤ H by omega)
        omega
    have hH1 : H = 1 → H * H = 1 := fun e => by rw [e]; rfl
    exact ky_cfm n way (-1074) H hn (.inl rfl) hb _ _ (by omega) (by omega) (by omega) (by omega) r q hr hq (by omega)
/-- an end's size, with the infinite ones beyond all -/
def Xk (n H k : Int) : Int := if k = (ifn n : Int) then H * H else if k = -(ifn n : Int) then -(H * H) else kvz n (-1074) k
theorem xk_mono {n H : Int} (hn : n = 64 ∨ n = 32) (hb : HB n H) {k j : Int} (rk : -(ifn n : Int) ≤ k ∧ k ≤ (ifn n : Int)) (rj : -(ifn n : Int) ≤ j ∧ j ≤ (ifn n : Int)) (h : k ≤ j) : Xk n H k ≤ Xk n H j := by
  have hpos := ifn_p n
  obtain ⟨hh1, hh2⟩ := hh_le hb
  have m : kvz n (-1074) k ≤ kvz n (-1074) j := by
    rcases Int.lt_or_eq_of_le h with h | h
    · exact Int.le_of_lt (kvz_lt n (-1074) hn _ _ h)
    · rw [h]; exact Int.le_refl _
  have fk := hb.fin k
  have fj := hb.fin j
  unfold Xk
  by_cases c1 : k = (ifn n : Int)
  · rw [if_pos c1, if_pos (by omega)]; exact Int.le_refl _
  · rw [if_neg c1]
    by_cases c2 : k = -(ifn n : Int)
    · rw [if_pos c2]
      by_cases c3 : j = (ifn n : Int)
      · rw [if_pos c3]; omega
      · rw [if_neg c3]
        by_cases c4 : j = -(ifn n : Int)
        · rw [if_pos c4]; exact Int.le_refl _
        · rw [if_neg c4]
          have := fj (by omega) (by omega)
          omega
    · rw [if_neg c2]
      have := fk (by omega) (by omega)
      by_cases c3 : j = (ifn n : Int)
      · rw [if_pos c3]; omega
      · rw [if_neg c3, if_neg (by omega)]; exact m
theorem xk_sgn {n H : Int} (hn : n = 64 ∨ n = 32) (hb : HB n H) (k : Int) : (0 < k → 0 < Xk n H k) ∧ (k < 0 → Xk n H k < 0) ∧ (k = 0 → Xk n H k = 0) := by
  have hpos := ifn_p n
  obtain ⟨hh1, hh2⟩ := hh_le hb
  obtain ⟨s1, s2, s3⟩ := kvz_sgn n (-1074) k hn
  unfold Xk
  by_cases c1 : k = (ifn n : Int)
  · rw [if_pos c1]; omega
  · rw [if_neg c1]
    by_cases c2 : k = -(ifn n : Int)
    · rw [if_pos c2]; omega
    · rw [if_neg c2]; omega
/-- what comes of a product's size -/
def Ctp (n way H E K : Int) : Prop := (H * H ≤ E ∧ K = (ifn n : Int)) ∨ (E ≤ -(H * H) ∧ K = -(ifn n : Int)) ∨ ((-(H * H) < E ∧ E < H * H) ∧ ∃ r, cfm E (-2148) = some r ∧ K = kyN n way r)
theorem ctp_mono {n way H : Int} (hn : n = 64 ∨ n = 32) (hb : HB n H) {E F K J : Int} (h : Ctp n way H E K) (g : Ctp n way H F J) (l : E ≤ F) : K ≤ J := by
  have hpos := ifn_p n
  obtain ⟨hh1, hh2⟩ := hh_le hb
  rcases h with ⟨h1, h2⟩ | ⟨h1, h2⟩ | ⟨h1, r, hr, h2⟩ <;> rcases g with ⟨g1, g2⟩ | ⟨g1, g2⟩ | ⟨g1, q, hq, g2⟩
  · omega
  · omega
  · omega
  · omega
  · omega
  · have := kyN_range n way q
    omega
  · have := kyN_range n way r
    omega
  · omega
  · rw [h2, g2]
    exact ky_cfm n way (-2148) H hn (.inr rfl) hb _ _ h1.1 h1.2 g1.1 g1.2 r q hr hq l
theorem mul_big (P Q M : Int) (hP : 1 ≤ P) (hQ : 1 ≤ Q) (hM : 0 ≤ M) (h : M ≤ P ∨ M ≤ Q) : M ≤ P * Q := by
  have h1 := Int.mul_le_mul_of_nonneg_left hQ (show 0 ≤ P by omega)
  have h2 := Int.mul_le_mul_of_nonneg_right hP (show 0 ≤ Q by omega)
  rw [Int.mul_one] at h1
  rw [Int.one_mul] at h2
  omega
theorem mul_small (P Q H : Int) (h1 : -H < P) (h2 : P < H) (h3 : -H < Q) (h4 : Q < H) : -(H * H) < P * Q ∧ P * Q < H * H := by
  have e : (P * Q).natAbs = P.natAbs * Q.natAbs := Int.natAbs_mul P Q
  obtain ⟨h, rfl⟩ : ∃ h : Nat, H = (h : Int) := ⟨H.toNat, by omega⟩
  have g1 : P.natAbs < h := by omega
  have g2 : Q.natAbs < h := by omega
  have g3 : P.natAbs * Q.natAbs < h * h := Nat.mul_lt_mul'' g1 g2
  rw [← e] at g3
  have e2 : (h : Int) * (h : Int) = ((h * h : Nat) : Int) := (Int.natCast_mul _ _).symm
  rw [e2]
  omega
theorem prk_ctp {n way H : Int} (hn : n = 64 ∨ n = 32) (hb : HB n H) {k j K : Int} (rk : -(ifn n : Int) ≤ k ∧ k ≤ (ifn n : Int)) (rj : -(ifn n : Int) ≤ j ∧ j ≤ (ifn n : Int)) (h : Prk n way k j K) : Ctp n way H (Xk n H k * Xk n H j) K := by
  have hpos := ifn_p n
  obtain ⟨hh1, hh2⟩ := hh_le hb
  obtain ⟨sk1, sk2, sk3⟩ := xk_sgn hn hb k
  obtain ⟨sj1, sj2, sj3⟩ := xk_sgn hn hb j
  rcases h with ⟨h1, h2⟩ | ⟨z1, z2, h1, h2⟩ | ⟨z1, z2, h1, h2, r, hr, h3⟩
  · have e : Xk n H k * Xk n H j = 0 := by
      rcases h1 with h | h
      · rw [sk3 h, Int.zero_mul]
      · rw [sj3 h, Int.mul_zero]
    rw [e]
    refine .inr (.inr ⟨by omega, ⟨false, [], 0⟩, cfm_zero _, ?_⟩)
    rw [h2]
    unfold kyN mgN
    simp
  · have hbig : (Xk n H k ≥ H * H ∨ Xk n H k ≤ -(H * H)) ∨ (Xk n H j ≥ H * H ∨ Xk n H j ≤ -(H * H)) := by
      unfold Xk
      rcases h1 with (h | h) | (h | h)
      · left; left; rw [if_pos h]; exact Int.le_refl _
      · left; right; rw [if_neg (by omega), if_pos h]; exact Int.le_refl _
      · right; left; rw [if_pos h]; exact Int.le_refl _
      · right; right; rw [if_neg (by omega), if_pos h]; exact Int.le_refl _
    generalize Xk n H k = P at *
    generalize Xk n H j = Q at *
    by_cases c1 : k < 0 <;> by_cases c2 : j < 0
    · have := mul_big (-P) (-Q) (H * H) (by omega) (by omega) (by omega) (by omega)
      rw [Int.neg_mul_neg] at this
      left
      exact ⟨this, by rw [h2]; simp [c1, c2]⟩
    · have := mul_big (-P) Q (H * H) (by omega) (by omega) (by omega) (by omega)
      rw [Int.neg_mul] at this
      right; left
      exact ⟨by omega, by rw [h2]; simp [c1, c2]⟩
    · have := mul_big P (-Q) (H * H) (by omega) (by omega) (by omega) (by omega)
      rw [Int.mul_neg] at this
      right; left
      exact ⟨by omega, by rw [h2]; simp [c1, c2]⟩
    · have := mul_big P Q (H * H) (by omega) (by omega) (by omega) (by omega)
      left
      exact ⟨this, by rw [h2]; simp [c1, c2]⟩
  · have e1 : Xk n H k = kvz n (-1074) k := by unfold Xk; rw [if_neg (by omega), if_neg (by omega)]
    have e2 : Xk n H j = kvz n (-1074) j := by unfold Xk; rw [if_neg (by omega), if_neg (by omega)]
    rw [e1, e2]
    have b1 := hb.fin k h1.1 h1.2
    have b2 := hb.fin j h2.1 h2.2
    exact .inr (.inr ⟨mul_small _ _ _ b1.1 b1.2 b2.1 b2.2, r, hr, h3⟩)
theorem corner_low (a b c d x y : Int) (h1 : a ≤ x) (h2 : x ≤ b) (h3 : c ≤ y) (h4 : y ≤ d) : a * c ≤ x * y ∨ a * d ≤ x * y ∨ b * c ≤ x * y ∨ b * d ≤ x * y := by
  have f : ∀ p : Int, p * c ≤ p * y ∨ p * d ≤ p * y := fun p => by
    by_cases hp : 0 ≤ p
    · exact .inl (Int.mul_le_mul_of_nonneg_left h3 hp)
    · exact .inr (Int.mul_le_mul_of_nonpos_left (by omega) h4)
  by_cases hy : 0 ≤ y
  · have g := Int.mul_le_mul_of_nonneg_right h1 hy
    rcases f a with h | h <;> omega
  · have g := Int.mul_le_mul_of_nonpos_right h2 (show y ≤ 0 by omega)
    rcases f b with h | h <;> omega
theorem corner_high (a b c d x y : Int) (h1 : a ≤ x) (h2 : x ≤ b) (h3 : c ≤ y) (h4 : y ≤ d) : x * y ≤ a * c ∨ x * y ≤ a * d ∨ x * y ≤ b * c ∨ x * y ≤ b * d := by
  have := corner_low (-b) (-a) c d (-x) y (by omega) (by omega) h3 h4
  simp only [Int.neg_mul] at this
  omega
theorem prk_low {n way : Int} (hn : n = 64 ∨ n = 32) {a b c d x y d0 d1 d2 d3 K : Int} (ra : -(ifn n : Int) ≤ a) (rb : b ≤ (ifn n : Int)) (rc : -(ifn n : Int) ≤ c) (rd : d ≤ (ifn n : Int)) (h1 : a ≤ x) (h2 : x ≤ b) (h3 : c ≤ y) (h4 : y ≤ d) (P0 : Prk n way a c d0) (P1 : Prk n way a d d1) (P2 : Prk n way b c d2) (P3 : Prk n way b d d3) (P : Prk n way x y K) : min (min (min d0 d1) d2) d3 ≤ K ∧ K ≤ max (max (max d0 d1) d2) d3 := by
  obtain ⟨H, hb⟩ := hb_ex n hn
  have C0 := prk_ctp hn hb ⟨ra, by omega⟩ ⟨rc, by omega⟩ P0
  have C1 := prk_ctp hn hb ⟨ra, by omega⟩ ⟨by omega, rd⟩ P1
  have C2 := prk_ctp hn hb ⟨by omega, rb⟩ ⟨rc, by omega⟩ P2
  have C3 := prk_ctp hn hb ⟨by omega, rb⟩ ⟨by omega, rd⟩ P3
  have C := prk_ctp hn hb ⟨by omega, by omega⟩ ⟨by omega, by omega⟩ P
  have m1 : Xk n H a ≤ Xk n H x := xk_mono hn hb ⟨ra, by omega⟩ ⟨by omega, by omega⟩ h1
  have m2 : Xk n H x ≤ Xk n H b := xk_mono hn hb ⟨by omega, by omega⟩ ⟨by omega, rb⟩ h2
  have m3 : Xk n H c ≤ Xk n H y := xk_mono hn hb ⟨rc, by omega⟩ ⟨by omega, by omega⟩ h3
  have m4 : Xk n H y ≤ Xk n H d := xk_mono hn hb ⟨by omega, by omega⟩ ⟨by omega, rd⟩ h4
  refine ⟨?_, ?_⟩
  · rcases corner_low _ _ _ _ _ _ m1 m2 m3 m4 with h | h | h | h
    · have := ctp_mono hn hb C0 C h; omega
    · have := ctp_mono hn hb C1 C h; omega
    · have := ctp_mono hn hb C2 C h; omega
    · have := ctp_mono hn hb C3 C h; omega
  · rcases corner_high _ _ _ _ _ _ m1 m2 m3 m4 with h | h | h | h
    · have := ctp_mono hn hb C C0 h; omega
    · have := ctp_mono hn hb C C1 h; omega
    · have := ctp_mono hn hb C C2 h; omega
    · have := ctp_mono hn hb C C3 h; omega
end Go.Proofs.YtalhnaakbekboaaDoor
