/- Package span: sums, products, quotients of smaller intervals are smaller: by keys alone. Package span: quotients of smaller intervals are smaller: by keys alone. -/
import Derived.Test.YtdhimkpfnhoagaaGreatDoorWh47
import Derived.Test.YtdhimkpfnhoagaaGreatDoorWh38
namespace Go.Proofs.YtdhimkpfnhoagaaGreatDoor
open Go.ChangeShapes Go.WideShapes Go.ChangeAt Go.RowKit Ieee
set_option linter.unusedVariables false
set_option linter.unusedSimpArgs false

/-- what is below H * H can be written, and finite floats are below H -/
structure HB (n H : Int) : Prop where
  one : 1 ≤ H
  fin : ∀ k, -(ifn n : Int) < k → k < (ifn n : Int) → -H < kvz n (-1074) k ∧ kvz n (-1074) k < H
  wrt : ∀ s z, (s = -1074 ∨ s = -2148) → -(H * H) < z → z < H * H → ∃ r, cfm z s = some r ∧ vld r = true ∧ (r.mag ≠ [] → s ≤ r.exp) ∧ vz s r = z
theorem hb_ex (n : Int) (hn : n = 64 ∨ n = 32) : ∃ H, HB n H := by
  obtain ⟨N, hN⟩ : ∃ N : Nat, N = 5000 := ⟨_, rfl⟩
  have hp : 0 < 2 ^ N := Nat.two_pow_pos N
  refine ⟨((2 ^ N : Nat) : Int), by omega, fun k h1 h2 => ?_, fun s z hs h1 h2 => ?_⟩
  · obtain ⟨g1, g2⟩ := of_key n k hn h1 h2 (-1075) (by decide) (by decide)
    have hl := g1.lt
    rw [g2, ← hN] at hl
    have hkl : (-1074 : Int) ≤ kleast n := by rcases hn with rfl | rfl <;> decide
    have hd := kvz_down n (-1075) (-1074) k (by decide) hkl
    have e2 : (2 : Int) ^ (-1074 - -1075 : Int).toNat = 2 := rfl
    rw [e2] at hd
    generalize 2 ^ N = P at *
    omega
  · have hz : z.natAbs < 2 ^ (N + N) := by
      rw [Nat.pow_add]
      have e : ((2 ^ N : Nat) : Int) * ((2 ^ N : Nat) : Int) = ((2 ^ N * 2 ^ N : Nat) : Int) := (Int.natCast_mul _ _).symm
      rw [e] at h1 h2
      generalize 2 ^ N * 2 ^ N = P at *
      omega
    obtain ⟨r, q1, q2, q3⟩ := cfm_lies s (N + N) (by omega) (by omega) (by omega) z hz
    exact ⟨r, q1, q2.ok, q2.low, q3⟩
theorem ky_cfm (n way s H : Int) (hn : n = 64 ∨ n = 32) (hs : s = -1074 ∨ s = -2148) (hb : HB n H) (z1 z2 : Int) (a1 : -(H * H) < z1) (a2 : z1 < H * H) (a3 : -(H * H) < z2) (a4 : z2 < H * H) (r1 r2 : Nm) (e1 : cfm z1 s = some r1) (e2 : cfm z2 s = some r2) (hz : z1 ≤ z2) : kyN n way r1 ≤ kyN n way r2 := by
  obtain ⟨p1, f1, v1, l1, g1⟩ := hb.wrt s z1 hs a1 a2
  obtain ⟨p2, f2, v2, l2, g2⟩ := hb.wrt s z2 hs a3 a4
  rw [e1] at f1
  rw [e2] at f2
  cases f1
  cases f2
  have hkl : (-1074 : Int) ≤ kleast n := by rcases hn with rfl | rfl <;> decide
  refine kyN_mono n way hn (s - 1) (by omega) r1 r2 v1 v2 (fun h => by have := l1 h; omega) (fun h => by have := l2 h; omega) ?_
  rw [vz_down (s - 1) s r1 (by omega) l1, vz_down (s - 1) s r2 (by omega) l2, g1, g2]
  have e : (2 : Int) ^ (s - (s - 1)).toNat = 2 := by
    rw [show s - (s - 1) = 1 by omega]
    rfl
  rw [e]
  omega
theorem hh_le {n H : Int} (hb : HB n H) : H ≤ H * H ∧ 1 ≤ H * H := by
  have h1 := hb.one
  have := Int.mul_le_mul_of_nonneg_left h1 (show 0 ≤ H by omega)
  rw [Int.mul_one] at this
  omega
theorem smk_mono (n way : Int) (hn : n = 64 ∨ n = 32) (k1 k2 j1 j2 K J : Int) (rk1 : -(ifn n : Int) ≤ k1 ∧ k1 ≤ (ifn n : Int)) (rk2 : -(ifn n : Int) ≤ k2 ∧ k2 ≤ (ifn n : Int)) (rj1 : -(ifn n : Int) ≤ j1 ∧ j1 ≤ (ifn n : Int)) (rj2 : -(ifn n : Int) ≤ j2 ∧ j2 ≤ (ifn n : Int)) (h : Smk n way k1 k2 K) (g : Smk n way j1 j2 J) (l1 : k1 ≤ j1) (l2 : k2 ≤ j2) : K ≤ J := by
  have hpos := ifn_p n
  obtain ⟨H, hb⟩ := hb_ex n hn
  obtain ⟨hh1, hh2⟩ := hh_le hb
  rcases h with ⟨h1, h2, h3⟩ | ⟨h1, h2, h3⟩ | ⟨h1, h2, r, hr, h3⟩ <;> rcases g with ⟨g1, g2, g3⟩ | ⟨g1, g2, g3⟩ | ⟨g1, g2, q, hq, g3⟩
  · omega
  · omega
  · have := kyN_range n way q
    omega
  · omega
  · omega
  · have := kyN_range n way q
    omega
  · have := kyN_range n way r
    omega
  · have := kyN_range n way r
    omega
  · rw [h3, g3]
    have m1 : kvz n (-1074) k1 ≤ kvz n (-1074) j1 := by
      rcases Int.lt_or_eq_of_le l1 with h | h
      · exact Int.le_of_lt (kvz_lt n (-1074) hn _ _ h)
      · rw [h]; exact Int.le_refl _
    have m2 : kvz n (-1074) k2 ≤ kvz n (-1074) j2 := by
      rcases Int.lt_or_eq_of_le l2 with h | h
      · exact Int.le_of_lt (kvz_lt n (-1074) hn _ _ h)
      · rw [h]; exact Int.le_refl _
    have b1 := hb.fin k1 h1.1 h1.2
    have b2 := hb.fin k2 h2.1 h2.2
    have b3 := hb.fin j1 g1.1 g1.2
    have b4 := hb.fin j2 g2.1 g2.2
    have h2H : H + H ≤ H * H ∨ H = 1 := by
      by_cases hc : H = 1
      · exact .inr hc
      · left
        have h1 := hb.one
        have := Int.mul_le_mul_of_nonneg_left (show (2 : Int) ≤ H by omega) (show 0 ≤ H by omega)
        omega
    have hH1 : H = 1 → H * H = 1 := fun e => by rw [e]; rfl
    exact ky_cfm n way (-1074) H hn (.inl rfl) hb _ _ (by omega) (by omega) (by omega) (by omega) r q hr hq (by omega)
/-- an end's size, with the infinite ones beyond all -/
def Xk (n H k : Int) : Int := if k = (ifn n : Int) then H * H else if k = -(ifn n : Int) then -(H * H) else kvz n (-1074) k
theorem xk_mono {n H : Int} (hn : n = 64 ∨ n = 32) (hb : HB n H) {k j : Int} (rk : -(ifn n : Int) ≤ k ∧ k ≤ (ifn n : Int)) (rj : -(ifn n : Int) ≤ j ∧ j ≤ (ifn n : Int)) (h : k ≤ j) : Xk n H k ≤ Xk n H j := by
  have hpos := ifn_p n
  obtain ⟨hh1, hh2⟩ := hh_le hb
  have m : kvz n (-1074) k ≤ kvz n (-1074) j := by
    rcases Int.lt_or_eq_of_le h with h | h
    · exact Int.le_of_lt (kvz_lt n (-1074) hn _ _ h)
    · rw [h]; exact Int.le_refl _
  have fk := hb.fin k
  have fj := hb.fin j
  unfold Xk
  by_cases c1 : k = (ifn n : Int)
  · rw [if_pos c1, if_pos (by omega)]; exact Int.le_refl _
  · rw [if_neg c1]
    by_cases c2 : k = -(ifn n : Int)
    · rw [if_pos c2]
      by_cases c3 : j = (ifn n : Int)
      · rw [if_pos c3]; omega
      · rw [if_neg c3]
        by_cases c4 : j = -(ifn n : Int)
        · rw [if_pos c4]; exact Int.le_refl _
        · rw [if_neg c4]
          have := fj (by omega) (by omega)
          omega
    · rw [if_neg c2]
      have := fk (by omega) (by omega)
      by_cases c3 : j = (ifn n : Int)
      · rw [if_pos c3]; omega
      · rw [if_neg c3, if_neg (by omega)]; exact m
theorem xk_sgn {n H : Int} (hn : n = 64 ∨ n = 32) (hb : HB n H) (k : Int) : (0 < k → 0 < Xk n H k) ∧ (k < 0 → Xk n H k < 0) ∧ (k = 0 → Xk n H k = 0) := by
  have hpos := ifn_p n
  obtain ⟨hh1, hh2⟩ := hh_le hb
  obtain ⟨s1, s2, s3⟩ := kvz_sgn n (-1074) k hn
  unfold Xk
  by_cases c1 : k = (ifn n : Int)
  · rw [if_pos c1]; omega
  · rw [if_neg c1]
    by_cases c2 : k = -(ifn n : Int)
    · rw [if_pos c2]; omega
    · rw [if_neg c2]; omega
/-- what comes of a product's size -/
def Ctp (n way H E K : Int) : Prop := (H * H ≤ E ∧ K = (ifn n : Int)) ∨ (E ≤ -(H * H) ∧ K = -(ifn n : Int)) ∨ ((-(H * H) < E ∧ E < H * H) ∧ ∃ r, cfm E (-2148) = some r ∧ K = kyN n way r)
theorem ctp_mono {n way H : Int} (hn : n = 64 ∨ n = 32) (hb : HB n H) {E F K J : Int} (h : Ctp n way H E K) (g : Ctp n way H F J) (l : E ≤ F) : K ≤ J := by
  have hpos := ifn_p n
  obtain ⟨hh1, hh2⟩ := hh_le hb
  rcases h with ⟨h1, h2⟩ | ⟨h1, h2⟩ | ⟨h1, r, hr, h2⟩ <;> rcases g with ⟨g1, g2⟩ | ⟨g1, g2⟩ | ⟨g1, q, hq, g2⟩
  · omega
  · omega
  · omega
  · omega
  · omega
  · have := kyN_range n way q
    omega
  · have := kyN_range n way r
    omega
  · omega
  · rw [h2, g2]
    exact ky_cfm n way (-2148) H hn (.inr rfl) hb _ _ h1.1 h1.2 g1.1 g1.2 r q hr hq l
theorem mul_big (P Q M : Int) (hP : 1 ≤ P) (hQ : 1 ≤ Q) (hM : 0 ≤ M) (h : M ≤ P ∨ M ≤ Q) : M ≤ P * Q := by
  have h1 := Int.mul_le_mul_of_nonneg_left hQ (show 0 ≤ P by omega)
  have h2 := Int.mul_le_mul_of_nonneg_right hP (show 0 ≤ Q by omega)
  rw [Int.mul_one] at h1
  rw [Int.one_mul] at h2
  omega
theorem mul_small (P Q H : Int) (h1 : -H < P) (h2 : P < H) (h3 : -H < Q) (h4 : Q < H) : -(H * H) < P * Q ∧ P * Q < H * H := by
  have e : (P * Q).natAbs = P.natAbs * Q.natAbs := Int.natAbs_mul P Q
  obtain ⟨h, rfl⟩ : ∃ h : Nat, H = (h : Int) := ⟨H.toNat, by omega⟩
  have g1 : P.natAbs < h := by omega
  have g2 : Q.natAbs < h := by omega
  have g3 : P.natAbs * Q.natAbs < h * h := Nat.mul_lt_mul'' g1 g2
  rw [← e] at g3
  have e2 : (h : Int) * (h : Int) = ((h * h : Nat) : Int) := (Int.natCast_mul _ _).symm
  rw [e2]
  omega
theorem prk_ctp {n way H : Int} (hn : n = 64 ∨ n = 32) (hb : HB n H) {k j K : Int} (rk : -(ifn n : Int) ≤ k ∧ k ≤ (ifn n : Int)) (rj : -(ifn n : Int) ≤ j ∧ j ≤ (ifn n : Int)) (h : Prk n way k j K) : Ctp n way H (Xk n H k * Xk n H j) K := by
  have hpos := ifn_p n
  obtain ⟨hh1, hh2⟩ := hh_le hb
  obtain ⟨sk1, sk2, sk3⟩ := xk_sgn hn hb k
  obtain ⟨sj1, sj2, sj3⟩ := xk_sgn hn hb j
  rcases h with ⟨h1, h2⟩ | ⟨z1, z2, h1, h2⟩ | ⟨z1, z2, h1, h2, r, hr, h3⟩
  · have e : Xk n H k * Xk n H j = 0 := by
      rcases h1 with h | h
      · rw [sk3 h, Int.zero_mul]
      · rw [sj3 h, Int.mul_zero]
    rw [e]
    refine .inr (.inr ⟨by omega, ⟨false, [], 0⟩, cfm_zero _, ?_⟩)
    rw [h2]
    unfold kyN mgN
    simp
  · have hbig : (Xk n H k ≥ H * H ∨ Xk n H k ≤ -(H * H)) ∨ (Xk n H j ≥ H * H ∨ Xk n H j ≤ -(H * H)) := by
      unfold Xk
      rcases h1 with (h | h) | (h | h)
      · left; left; rw [if_pos h]; exact Int.le_refl _
      · left; right; rw [if_neg (by omega), if_pos h]; exact Int.le_refl _
      · right; left; rw [if_pos h]; exact Int.le_refl _
      · right; right; rw [if_neg (by omega), if_pos h]; exact Int.le_refl _
    generalize Xk n H k = P at *
    generalize Xk n H j = Q at *
    by_cases c1 : k < 0 <;> by_cases c2 : j < 0
    · have := mul_big (-P) (-Q) (H * H) (by omega) (by omega) (by omega) (by omega)
      rw [Int.neg_mul_neg] at this
      left
      exact ⟨this, by rw [h2]; simp [c1, c2]⟩
    · have := mul_big (-P) Q (H * H) (by omega) (by omega) (by omega) (by omega)
      rw [Int.neg_mul] at this
      right; left
      exact ⟨by omega, by rw [h2]; simp [c1, c2]⟩
    · have := mul_big P (-Q) (H * H) (by omega) (by omega) (by omega) (by omega)
      rw [Int.mul_neg] at this
      right; left
      exact ⟨by omega, by rw [h2]; simp [c1, c2]⟩
    · have := mul_big P Q (H * H) (by omega) (by omega) (by omega) (by omega)
      left
      exact ⟨this, by rw [h2]; simp [c1, c2]⟩
  · have e1 : Xk n H k = kvz n (-1074) k := by unfold Xk; rw [if_neg (by omega), if_neg (by omega)]
    have e2 : Xk n H j = kvz n (-1074) j := by unfold Xk; rw [if_neg (by omega), if_neg (by omega)]
    rw [e1, e2]
    have b1 := hb.fin k h1.1 h1.2
    have b2 := hb.fin j h2.1 h2.2
    exact .inr (.inr ⟨mul_small _ _ _ b1.1 b1.2 b2.1 b2.2, r, hr, h3⟩)
theorem corner_low (a b c d x y : Int) (h1 : a ≤ x) (h2 : x ≤ b) (h3 : c ≤ y) (h4 : y ≤ d) : a * c ≤ x * y ∨ a * d ≤ x * y ∨ b * c ≤ x * y ∨ b * d ≤ x * y := by
  have f : ∀ p : Int, p * c ≤ p * y ∨ p * d ≤ p * y := fun p => by
    by_cases hp : 0 ≤ p
    · exact .inl (Int.mul_le_mul_of_nonneg_left h3 hp)
    · exact .inr (Int.mul_le_mul_of_nonpos_left (by omega) h4)
  by_cases hy : 0 ≤ y
  · have g := Int.mul_le_mul_of_nonneg_right h1 hy
    rcases f a with h | h <;> omega
  · have g := Int.mul_le_mul_of_nonpos_right h2 (show y ≤ 0 by omega)
    rcases f b with h | h <;> omega
theorem corner_high (a b c d x y : Int) (h1 : a ≤ x) (h2 : x ≤ b) (h3 : c ≤ y) (h4 : y ≤ d) : x * y ≤ a * c ∨ x * y ≤ a * d ∨ x * y ≤ b * c ∨ x * y ≤ b * d := by
  have := corner_low (-b) (-a) c d (-x) y (by omega) (by omega) h3 h4
  simp only [Int.neg_mul] at this
  omega
theorem prk_low {n way : Int} (hn : n = 64 ∨ n = 32) {a b c d x y d0 d1 d2 d3 K : Int} (ra : -(ifn n : Int) ≤ a) (rb : b ≤ (ifn n : Int)) (rc : -(ifn n : Int) ≤ c) (rd : d ≤ (ifn n : Int)) (h1 : a ≤ x) (h2 : x ≤ b) (h3 : c ≤ y) (h4 : y ≤ d) (P0 : Prk n way a c d0) (P1 : Prk n way a d d1) (P2 : Prk n way b c d2) (P3 : Prk n way b d d3) (P : Prk n way x y K) : min (min (min d0 d1) d2) d3 ≤ K ∧ K ≤ max (max (max d0 d1) d2) d3 := by
  obtain ⟨H, hb⟩ := hb_ex n hn
  have C0 := prk_ctp hn hb ⟨ra, by omega⟩ ⟨rc, by omega⟩ P0
  have C1 := prk_ctp hn hb ⟨ra, by omega⟩ ⟨by omega, rd⟩ P1
  have C2 := prk_ctp hn hb ⟨by omega, rb⟩ ⟨rc, by omega⟩ P2
  have C3 := prk_ctp hn hb ⟨by omega, rb⟩ ⟨by omega, rd⟩ P3
  have C := prk_ctp hn hb ⟨by omega, by omega⟩ ⟨by omega, by omega⟩ P
  have m1 : Xk n H a ≤ Xk n H x := xk_mono hn hb ⟨ra, by omega⟩ ⟨by omega, by omega⟩ h1
  have m2 : Xk n H x ≤ Xk n H b := xk_mono hn hb ⟨by omega, by omega⟩ ⟨by omega, rb⟩ h2
  have m3 : Xk n H c ≤ Xk n H y := xk_mono hn hb ⟨rc, by omega⟩ ⟨by omega, by omega⟩ h3
  have m4 : Xk n H y ≤ Xk n H d := xk_mono hn hb ⟨by omega, by omega⟩ ⟨by omega, rd⟩ h4
  refine ⟨?_, ?_⟩
  · rcases corner_low _ _ _ _ _ _ m1 m2 m3 m4 with h | h | h | h
    · have := ctp_mono hn hb C0 C h; omega
    · have := ctp_mono hn hb C1 C h; omega
    · have := ctp_mono hn hb C2 C h; omega
    · have := ctp_mono hn hb C3 C h; omega
  · rcases corner_high _ _ _ _ _ _ m1 m2 m3 m4 with h | h | h | h
    · have := ctp_mono hn hb C C0 h; omega
    · have := ctp_mono hn hb C C1 h; omega
    · have := ctp_mono hn hb C C2 h; omega
    · have := ctp_mono hn hb C C3 h; omega
end Go.Proofs.YtdhimkpfnhoagaaGreatDoor

namespace Go.Proofs.YtdhimkpfnhoagaaGreatDoor
open Go.ChangeShapes Go.WideShapes Go.ChangeAt Go.RowKit Ieee
set_option linter.unusedVariables false
set_option linter.unusedSimpArgs false

theorem kvz_le (n s : Int) (hn : n = 64 ∨ n = 32) (a b : Int) (h : a ≤ b) : kvz n s a ≤ kvz n s b := by
  rcases Int.lt_or_eq_of_le h with h | h
  · exact Int.le_of_lt (kvz_lt n s hn _ _ h)
  · rw [h]; exact Int.le_refl _
theorem qd_le {n Z1 U1 d1 Z2 U2 d2 : Int} (hn : n = 64 ∨ n = 32) (h : Qd n Z1 U1 d1) (g : Qd n Z2 U2 d2) (p1 : 0 < U1) (p2 : 0 < U2) (l : Z1 * U2 ≤ Z2 * U1) : d1 ≤ d2 := by
  apply Classical.not_not.1
  intro hc
  have hh := h.high
  have gl := g.low
  have a := g.nxt (by omega)
  have b := h.fin (by omega)
  have c := kvz_le n (-1300) hn (d2 + 1) d1 (by omega)
  generalize kvz n (-1300) (d2 + 1) = A at *
  generalize kvz n (-1300) d1 = B at *
  have e1 := Int.mul_lt_mul_of_pos_right a p1
  have e2 := Int.mul_le_mul_of_nonneg_right b (Int.le_of_lt p2)
  have e3 := Int.mul_le_mul_of_nonneg_right c (Int.le_of_lt (Int.mul_pos p1 p2))
  have q1 : A * U2 * U1 = A * (U1 * U2) := by rw [Int.mul_assoc, Int.mul_comm U2 U1]
  have q2 : B * U1 * U2 = B * (U1 * U2) := by rw [Int.mul_assoc]
  omega
theorem qd_sgn {n Z U d : Int} (hn : n = 64 ∨ n = 32) (h : Qd n Z U d) (p : 0 < U) : (0 ≤ Z → 0 ≤ d) ∧ (Z ≤ 0 → d ≤ 0) := by
  have hpos := ifn_p n
  constructor
  · intro hz
    apply Classical.not_not.1
    intro hc
    have a := h.nxt (by omega)
    have c := kvz_le n (-1300) hn (d + 1) 0 (by omega)
    rw [kvz_zero] at c
    have := Int.mul_le_mul_of_nonneg_right c (Int.le_of_lt p)
    omega
  · intro hz
    apply Classical.not_not.1
    intro hc
    have a := h.fin (by omega)
    have c := kvz_lt n (-1300) hn 0 d (by omega)
    rw [kvz_zero] at c
    have := Int.mul_pos c p
    omega
theorem qW_pos (n k : Int) (hn : n = 64 ∨ n = 32) (hk : k ≠ 0) : 0 < qW n k := by
  obtain ⟨s1, s2, s3⟩ := kvz_sgn n (-1300) k hn
  unfold qW
  split <;> omega
theorem qrk_ex (n way : Int) (hn : n = 64 ∨ n = 32) (hw : way = 1 ∨ way = 2) (k j : Int) (rk : -(ifn n : Int) ≤ k ∧ k ≤ (ifn n : Int)) (rj : -(ifn n : Int) ≤ j ∧ j ≤ (ifn n : Int)) (hj : j ≠ 0) : ∃ K, Qrk n way k j K ∧ -(ifn n : Int) ≤ K ∧ K ≤ (ifn n : Int) := by
  have mk : ∀ i : Int, -(ifn n : Int) ≤ i → i ≤ (ifn n : Int) → Fl n (flv (pz n i) n) i := fun i h1 h2 => by
    have hrb := pz_range n i hn h1 h2
    have hfl := Fl.flv (pz_num n i hn h1 h2) hrb.1 hrb.2
    rw [pz_key n i hn h1 h2] at hfl
    exact hfl
  obtain ⟨z, K, hK, hF, -⟩ := squot_any n way hn hw _ _ k j (mk k rk.1 rk.2) (mk j rj.1 rj.2) hj
  exact ⟨K, hK, hF.rng⟩
/- finite ends: by products -/
theorem qrk_fin {n way : Int} (hn : n = 64 ∨ n = 32) (hw : way = 1 ∨ way = 2) {k1 k2 j1 j2 K J : Int} (b1 : -(ifn n : Int) < k1 ∧ k1 < (ifn n : Int)) (b2 : -(ifn n : Int) < k2 ∧ k2 < (ifn n : Int)) (b3 : -(ifn n : Int) < j1 ∧ j1 < (ifn n : Int)) (b4 : -(ifn n : Int) < j2 ∧ j2 < (ifn n : Int)) (z2 : k2 ≠ 0) (z4 : j2 ≠ 0) (h : Qrk n way k1 k2 K) (g : Qrk n way j1 j2 J) (l : qZ n k1 k2 * qW n j2 ≤ qZ n j1 j2 * qW n k2) : K ≤ J := by
  have p1 := qW_pos n k2 hn z2
  have p2 := qW_pos n j2 hn z4
  rcases h with ⟨h, -⟩ | ⟨-, h, -⟩ | ⟨-, -, h1, h2⟩
  · omega
  · omega
  rcases g with ⟨g, -⟩ | ⟨-, g, -⟩ | ⟨-, -, g1, g2⟩
  · omega
  · omega
  rcases hw with hw | hw
  · exact qd_le hn (h1 hw) (g1 hw) p1 p2 l
  · have := qd_le hn (g2 hw) (h2 hw) p2 p1 (by rw [Int.neg_mul, Int.neg_mul]; omega)
    omega
theorem qrk_sgn {n way : Int} (hn : n = 64 ∨ n = 32) (hw : way = 1 ∨ way = 2) {k1 k2 K : Int} (r1 : -(ifn n : Int) ≤ k1 ∧ k1 ≤ (ifn n : Int)) (r2 : -(ifn n : Int) ≤ k2 ∧ k2 ≤ (ifn n : Int)) (z2 : k2 ≠ 0) (h : Qrk n way k1 k2 K) : ((0 ≤ k1 ∧ 0 < k2 ∨ k1 ≤ 0 ∧ k2 < 0) → 0 ≤ K) ∧ ((0 ≤ k1 ∧ k2 < 0 ∨ k1 ≤ 0 ∧ 0 < k2) → K ≤ 0) := by
  have hpos := ifn_p n
  have p1 := qW_pos n k2 hn z2
  rcases h with ⟨h, rfl⟩ | ⟨-, h, h3⟩ | ⟨-, -, h1, h2⟩
  · exact ⟨fun _ => Int.le_refl _, fun _ => Int.le_refl _⟩
  · constructor
    · intro hs
      have e : (decide (k1 < 0) ^^ decide (k2 < 0)) = false := by
        by_cases c1 : k1 < 0 <;> by_cases c2 : k2 < 0 <;> simp [c1, c2] <;> omega
      rw [e] at h3
      simp only [Bool.false_eq_true, if_false] at h3
      omega
    · intro hs
      have e : (decide (k1 < 0) ^^ decide (k2 < 0)) = true := by
        by_cases c1 : k1 < 0 <;> by_cases c2 : k2 < 0 <;> simp [c1, c2] <;> omega
      rw [e] at h3
      simp only [if_true] at h3
      omega
  · obtain ⟨s1, s2, s3⟩ := kvz_sgn n (-2600) k1 hn
    have hz : ((0 ≤ k1 ∧ 0 < k2 ∨ k1 ≤ 0 ∧ k2 < 0) → 0 ≤ qZ n k1 k2) ∧ ((0 ≤ k1 ∧ k2 < 0 ∨ k1 ≤ 0 ∧ 0 < k2) → qZ n k1 k2 ≤ 0) := by
      unfold qZ
      constructor <;> intro hs <;> split <;> omega
    rcases hw with hw | hw
    · have := qd_sgn hn (h1 hw) p1
      exact ⟨fun hs => this.1 (hz.1 hs), fun hs => this.2 (hz.2 hs)⟩
    · have := qd_sgn hn (h2 hw) p1
      refine ⟨fun hs => ?_, fun hs => ?_⟩
      · have := this.2 (by have := hz.1 hs; omega)
        omega
      · have := this.1 (by have := hz.2 hs; omega)
        omega
/- one divisor, two dividends -/
theorem q_num {n way : Int} (hn : n = 64 ∨ n = 32) (hw : way = 1 ∨ way = 2) {k j y K J : Int} (rk : -(ifn n : Int) ≤ k ∧ k ≤ (ifn n : Int)) (rj : -(ifn n : Int) ≤ j ∧ j ≤ (ifn n : Int)) (ry : -(ifn n : Int) ≤ y ∧ y ≤ (ifn n : Int)) (rK : -(ifn n : Int) ≤ K ∧ K ≤ (ifn n : Int)) (rJ : -(ifn n : Int) ≤ J ∧ J ≤ (ifn n : Int)) (hy : y ≠ 0) (h : Qrk n way k y K) (g : Qrk n way j y J) (l : k ≤ j) : (0 < y → K ≤ J) ∧ (y < 0 → J ≤ K) := by
  have hpos := ifn_p n
  by_cases yi : y = (ifn n : Int) ∨ y = -(ifn n : Int)
  · have e1 : K = 0 := by
      rcases h with ⟨-, h⟩ | ⟨h, -⟩ | ⟨h, -⟩
      · exact h
      · omega
      · omega
    have e2 : J = 0 := by
      rcases g with ⟨-, h⟩ | ⟨h, -⟩ | ⟨h, -⟩
      · exact h
      · omega
      · omega
    omega
  · have infE : ∀ k K, Qrk n way k y K → (k = (ifn n : Int) ∨ k = -(ifn n : Int)) → (k < 0 ∧ y < 0 ∨ 0 < k ∧ 0 < y → K = (ifn n : Int)) ∧ (k < 0 ∧ 0 < y ∨ 0 < k ∧ y < 0 → K = -(ifn n : Int)) := fun k K h hk => by
      rcases h with ⟨h, -⟩ | ⟨-, -, h⟩ | ⟨-, h, -⟩
      · omega
      · constructor
        · intro hs
          have e : (decide (k < 0) ^^ decide (y < 0)) = false := by
            by_cases c1 : k < 0 <;> by_cases c2 : y < 0 <;> simp [c1, c2] <;> omega
          rw [e] at h
          simpa using h
        · intro hs
          have e : (decide (k < 0) ^^ decide (y < 0)) = true := by
            by_cases c1 : k < 0 <;> by_cases c2 : y < 0 <;> simp [c1, c2] <;> omega
          rw [e] at h
          simpa using h
      · omega
    by_cases ki : k = (ifn n : Int) ∨ k = -(ifn n : Int)
    · have ek := infE k K h ki
      by_cases ji : j = (ifn n : Int) ∨ j = -(ifn n : Int)
      · have ej := infE j J g ji
        omega
      · omega
    · by_cases ji : j = (ifn n : Int) ∨ j = -(ifn n : Int)
      · have ej := infE j J g ji
        omega
      · have p1 := qW_pos n y hn hy
        have m := kvz_le n (-2600) hn k j l
        constructor
        · intro hy0
          refine qrk_fin hn hw (by omega) (by omega) (by omega) (by omega) hy hy h g ?_
          unfold qZ
          rw [if_neg (by omega), if_neg (by omega)]
          exact Int.mul_le_mul_of_nonneg_right m (Int.le_of_lt p1)
        · intro hy0
          refine qrk_fin hn hw (by omega) (by omega) (by omega) (by omega) hy hy g h ?_
          unfold qZ
          rw [if_pos hy0, if_pos hy0]
          exact Int.mul_le_mul_of_nonneg_right (by omega) (Int.le_of_lt p1)
/- one dividend, two divisors of one sign -/
theorem q_den {n way : Int} (hn : n = 64 ∨ n = 32) (hw : way = 1 ∨ way = 2) {p c d K J : Int} (rp : -(ifn n : Int) ≤ p ∧ p ≤ (ifn n : Int)) (rc : -(ifn n : Int) ≤ c ∧ c ≤ (ifn n : Int)) (rd : -(ifn n : Int) ≤ d ∧ d ≤ (ifn n : Int)) (hs : 0 < c ∧ 0 < d ∨ c < 0 ∧ d < 0) (h : Qrk n way p c K) (g : Qrk n way p d J) (l : c ≤ d) : (0 ≤ p → J ≤ K) ∧ (p ≤ 0 → K ≤ J) := by
  have hpos := ifn_p n
  have sK := qrk_sgn hn hw rp rc (by omega) h
  have sJ := qrk_sgn hn hw rp rd (by omega) g
  by_cases ci : c = (ifn n : Int) ∨ c = -(ifn n : Int)
  · have e1 : K = 0 := by
      rcases h with ⟨-, h⟩ | ⟨h, -⟩ | ⟨h, -⟩
      · exact h
      · omega
      · omega
    by_cases cp : c = (ifn n : Int)
    · have e2 : J = 0 := by
        rcases g with ⟨-, h⟩ | ⟨h, -⟩ | ⟨h, -⟩
        · exact h
        · omega
        · omega
      omega
    · have h1 := sJ.1
      have h2 := sJ.2
      constructor <;> intro hp
      · have := h2 (by omega)
        omega
      · have := h1 (by omega)
        omega
  · by_cases di : d = (ifn n : Int) ∨ d = -(ifn n : Int)
    · have e2 : J = 0 := by
        rcases g with ⟨-, h⟩ | ⟨h, -⟩ | ⟨h, -⟩
        · exact h
        · omega
        · omega
      have h1 := sK.1
      have h2 := sK.2
      constructor <;> intro hp
      · have := h1 (by omega)
        omega
      · have := h2 (by omega)
        omega
    · by_cases pi : p = (ifn n : Int) ∨ p = -(ifn n : Int)
      · have e : K = J := by
          rcases h with ⟨h, -⟩ | ⟨-, -, h⟩ | ⟨-, h, -⟩
          · omega
          · rcases g with ⟨g, -⟩ | ⟨-, -, g⟩ | ⟨-, g, -⟩
            · omega
            · rw [h, g]
              have : decide (c < 0) = decide (d < 0) := by
                by_cases c1 : c < 0
                · simp [c1]; omega
                · simp [c1]; omega
              rw [this]
            · omega
          · omega
        omega
      · obtain ⟨s1, s2, s3⟩ := kvz_sgn n (-2600) p hn
        have m := kvz_le n (-1300) hn c d l
        have hzz : qZ n p c = qZ n p d := by
          unfold qZ
          by_cases c1 : c < 0
          · rw [if_pos c1, if_pos (by omega)]
          · rw [if_neg c1, if_neg (by omega)]
        constructor <;> intro hp
        · refine qrk_fin hn hw (by omega) (by omega) (by omega) (by omega) (by omega) (by omega) g h ?_
          rw [hzz]
          unfold qZ qW
          by_cases c1 : c < 0
          · rw [if_pos c1, if_pos (show d < 0 by omega), if_pos (show d < 0 by omega)]
            exact Int.mul_le_mul_of_nonpos_left (by omega) (by omega)
          · rw [if_neg c1, if_neg (show ¬ d < 0 by omega), if_neg (show ¬ d < 0 by omega)]
            exact Int.mul_le_mul_of_nonneg_left m (by omega)
        · refine qrk_fin hn hw (by omega) (by omega) (by omega) (by omega) (by omega) (by omega) h g ?_
          rw [hzz]
          unfold qZ qW
          by_cases c1 : c < 0
          · rw [if_pos c1, if_pos (show d < 0 by omega), if_pos (show d < 0 by omega)]
            exact Int.mul_le_mul_of_nonneg_left (by omega) (by omega)
          · rw [if_neg c1, if_neg (show ¬ d < 0 by omega), if_neg (show ¬ d < 0 by omega)]
            exact Int.mul_le_mul_of_nonpos_left (by omega) m
theorem min4 (a b c d : Int) : min (min (min a b) c) d ≤ a ∧ min (min (min a b) c) d ≤ b ∧ min (min (min a b) c) d ≤ c ∧ min (min (min a b) c) d ≤ d := by omega
theorem max4 (a b c d : Int) : a ≤ max (max (max a b) c) d ∧ b ≤ max (max (max a b) c) d ∧ c ≤ max (max (max a b) c) d ∧ d ≤ max (max (max a b) c) d := by omega
theorem qrk_low {n way : Int} (hn : n = 64 ∨ n = 32) (hw : way = 1 ∨ way = 2) {a b c d x y d0 d1 d2 d3 K : Int} (ra : -(ifn n : Int) ≤ a) (rb : b ≤ (ifn n : Int)) (rc : -(ifn n : Int) ≤ c) (rd : d ≤ (ifn n : Int)) (hs : 0 < c ∨ d < 0) (h1 : a ≤ x) (h2 : x ≤ b) (h3 : c ≤ y) (h4 : y ≤ d) (rr : ∀ k, k = d0 ∨ k = d1 ∨ k = d2 ∨ k = d3 ∨ k = K → -(ifn n : Int) ≤ k ∧ k ≤ (ifn n : Int)) (P0 : Qrk n way a c d0) (P1 : Qrk n way a d d1) (P2 : Qrk n way b c d2) (P3 : Qrk n way b d d3) (P : Qrk n way x y K) : min (min (min d0 d1) d2) d3 ≤ K ∧ K ≤ max (max (max d0 d1) d2) d3 := by
  obtain ⟨A, hA, rA⟩ := qrk_ex n way hn hw a y ⟨ra, by omega⟩ ⟨by omega, by omega⟩ (by omega)
  obtain ⟨B, hB, rB⟩ := qrk_ex n way hn hw b y ⟨by omega, rb⟩ ⟨by omega, by omega⟩ (by omega)
  have rK := rr K (by simp)
  have n1 := q_num hn hw ⟨ra, by omega⟩ ⟨by omega, by omega⟩ ⟨by omega, by omega⟩ rA rK (by omega) hA P h1
  have n2 := q_num hn hw ⟨by omega, by omega⟩ ⟨by omega, rb⟩ ⟨by omega, by omega⟩ rK rB (by omega) P hB h2
  have m1 := q_den hn hw ⟨ra, by omega⟩ ⟨rc, by omega⟩ ⟨by omega, by omega⟩ (by omega) P0 hA h3
  have m2 := q_den hn hw ⟨ra, by omega⟩ ⟨by omega, by omega⟩ ⟨by omega, rd⟩ (by omega) hA P1 h4
  have m3 := q_den hn hw ⟨by omega, rb⟩ ⟨rc, by omega⟩ ⟨by omega, by omega⟩ (by omega) P2 hB h3
  have m4 := q_den hn hw ⟨by omega, rb⟩ ⟨by omega, by omega⟩ ⟨by omega, rd⟩ (by omega) hB P3 h4
  clear hA hB P0 P1 P2 P3 P rr rA rB rK
  obtain ⟨q0, q1, q2, q3⟩ := min4 d0 d1 d2 d3
  obtain ⟨x0, x1, x2, x3⟩ := max4 d0 d1 d2 d3
  generalize min (min (min d0 d1) d2) d3 = mn at *
  generalize max (max (max d0 d1) d2) d3 = mx at *
  have sA : mn ≤ A ∧ A ≤ mx := by
    by_cases s0 : 0 ≤ a
    · have e1 := m1.1 s0
      have e2 := m2.1 s0
      omega
    · have e1 := m1.2 (by omega)
      have e2 := m2.2 (by omega)
      omega
  have sB : mn ≤ B ∧ B ≤ mx := by
    by_cases s0 : 0 ≤ b
    · have e1 := m3.1 s0
      have e2 := m4.1 s0
      omega
    · have e1 := m3.2 (by omega)
      have e2 := m4.2 (by omega)
      omega
  rcases hs with hs | hs
  · have e1 := n1.1 (by omega)
    have e2 := n2.1 (by omega)
    omega
  · have e1 := n1.2 (by omega)
    have e2 := n2.2 (by omega)
    omega
end Go.Proofs.YtdhimkpfnhoagaaGreatDoor
