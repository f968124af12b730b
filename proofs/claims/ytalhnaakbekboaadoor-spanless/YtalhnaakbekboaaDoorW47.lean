/- Package span: quotients of smaller intervals are smaller: by keys alone. Package span's laws: within; keys of what lies places below and above. -/
import Derived.Test.YtalhnaakbekboaaDoorW46
namespace Go.Proofs.YtalhnaakbekboaaDoor
open Go.ChangeShapes Go.WideShapes Go.ChangeAt Go.RowKit Ieee
set_option linter.unusedVariables false
set_option linter.unusedSimpArgs false

theorem kvz_le (n s : Int) (hn : n = 64 ∨ n = 32) (a b : Int) (h : a ≤ b) : kvz n s a ≤ kvz n s b := by
  rcases Int.lt_or_eq_of_le h with h | h
  · exact Int.le_of_lt (kvz_lt n s hn _ _ h)
  · rw [h]; exact Int.le_refl _
theorem qd_le {n Z1 U1 d1 Z2 U2 d2 : Int} (hn : n = 64 ∨ n = 32) (h : Qd n Z1 U1 d1) (g : Qd n Z2 U2 d2) (p1 : 0 < U1) (p2 : 0 < U2) (l : Z1 * U2 ≤ Z2 * U1) : d1 ≤ d2 := by
  apply Classical.not_not.1
  intro hc
  have hh := h.high
  have gl := g.low
  have a := g.nxt (by omega)
  have b := h.fin (by omega)
  have c := kvz_le n (-1300) hn (d2 + 1) d1 (by omega)
  generalize kvz n (-1300) (d2 + 1) = A at *
  generalize kvz n (-1300) d1 = B at *
  have e1 := Int.mul_lt_mul_of_pos_right a p1
  have e2 := Int.mul_le_mul_of_nonneg_right b (Int.le_of_lt p2)
  have e3 := Int.mul_le_mul_of_nonneg_right c (Int.le_of_lt (Int.mul_pos p1 p2))
  have q1 : A * U2 * U1 = A * (U1 * U2) := by rw [Int.mul_assoc, Int.mul_comm U2 U1]
  have q2 : B * U1 * U2 = B * (U1 * U2) := by rw [Int.mul_assoc]
  omega
theorem qd_sgn {n Z U d : Int} (hn : n = 64 ∨ n = 32) (h : Qd n Z U d) (p : 0 < U) : (0 ≤ Z → 0 ≤ d) ∧ (Z ≤ 0 → d ≤ 0) := by
  have hpos := ifn_p n
  constructor
  · intro hz
    apply Classical.not_not.1
    intro hc
    have a := h.nxt (by omega)
    have c := kvz_le n (-1300) hn (d + 1) 0 (by omega)
    rw [kvz_zero] at c
    have := Int.mul_le_mul_of_nonneg_right c (Int.le_of_lt p)
    omega
  · intro hz
    apply Classical.not_not.1
    intro hc
    have a := h.fin (by omega)
    have c := kvz_lt n (-1300) hn 0 d (by omega)
    rw [kvz_zero] at c
    have := Int.mul_pos c p
    omega
theorem qW_pos (n k : Int) (hn : n = 64 ∨ n = 32) (hk : k ≠ 0) : 0 < qW n k := by
  obtain ⟨s1, s2, s3⟩ := kvz_sgn n (-1300) k hn
  unfold qW
  split <;> omega
theorem qrk_ex (n way : Int) (hn : n = 64 ∨ n = 32) (hw : way = 1 ∨ way = 2) (k j : Int) (rk : -(ifn n : Int) ≤ k ∧ k ≤ (ifn n : Int)) (rj : -(ifn n : Int) ≤ j ∧ j ≤ (ifn n : Int)) (hj : j ≠ 0) : ∃ K, Qrk n way k j K ∧ -(ifn n : Int) ≤ K ∧ K ≤ (ifn n : Int) := by
  have mk : ∀ i : Int, -(ifn n : Int) ≤ i → i ≤ (ifn n : Int) → Fl n (flv (pz n i) n) i := fun i h1 h2 => by
    have hrb := pz_range n i hn h1 h2
    have hfl := Fl.flv (pz_num n i hn h1 h2) hrb.1 hrb.2
    rw [pz_key n i hn h1 h2] at hfl
    exact hfl
  obtain ⟨z, K, hK, hF, -⟩ := squot_any n way hn hw _ _ k j (mk k rk.1 rk.2) (mk j rj.1 rj.2) hj
  exact ⟨K, hK, hF.rng⟩
/- finite ends: by products -/
theorem qrk_fin {n way : Int} (hn : n = 64 ∨ n = 32) (hw : way = 1 ∨ way = 2) {k1 k2 j1 j2 K J : Int} (b1 : -(ifn n : Int) < k1 ∧ k1 < (ifn n : Int)) (b2 : -(ifn n : Int) < k2 ∧ k2 < (ifn n : Int)) (b3 : -(ifn n : Int) < j1 ∧ j1 < (ifn n : Int)) (b4 : -(ifn n : Int) < j2 ∧ j2 < (ifn n : Int)) (z2 : k2 ≠ 0) (z4 : j2 ≠ 0) (h : Qrk n way k1 k2 K) (g : Qrk n way j1 j2 J) (l : qZ n k1 k2 * qW n j2 ≤ qZ n j1 j2 * qW n k2) : K ≤ J := by
  have p1 := qW_pos n k2 hn z2
  have p2 := qW_pos n j2 hn z4
  rcases h with ⟨h, -⟩ | ⟨-, h, -⟩ | ⟨-, -, h1, h2⟩
  · omega
  · omega
  rcases g with ⟨g, -⟩ | ⟨-, g, -⟩ | ⟨-, -, g1, g2⟩
  · omega
  · omega
  rcases hw with hw | hw
  · exact qd_le hn (h1 hw) (g1 hw) p1 p2 l
  · have := qd_le hn (g2 hw) (h2 hw) p2 p1 (by rw [Int.neg_mul, Int.neg_mul]; omega)
    omega
theorem qrk_sgn {n way : Int} (hn : n = 64 ∨ n = 32) (hw : way = 1 ∨ way = 2) {k1 k2 K : Int} (r1 : -(ifn n : Int) ≤ k1 ∧ k1 ≤ (ifn n : Int)) (r2 : -(ifn n : Int) ≤ k2 ∧ k2 ≤ (ifn n : Int)) (z2 : k2 ≠ 0) (h : Qrk n way k1 k2 K) : ((0 ≤ k1 ∧ 0 < k2 ∨ k1 ≤ 0 ∧ k2 < 0) → 0 ≤ K) ∧ ((0 ≤ k1 ∧ k2 < 0 ∨ k1 ≤ 0 ∧ 0 < k2) → K ≤ 0) := by
  have hpos := ifn_p n
  have p1 := qW_pos n k2 hn z2
  rcases h with ⟨h, rfl⟩ | ⟨-, h, h3⟩ | ⟨-, -, h1, h2⟩
  · exact ⟨fun _ => Int.le_refl _, fun _ => Int.le_refl _⟩
  · constructor
    · intro hs
      have e : (decide (k1 < 0) ^^ decide (k2 < 0)) = false := by
        by_cases c1 : k1 < 0 <;> by_cases c2 : k2 < 0 <;> simp [c1, c2] <;> omega
      rw [e] at h3
      simp only [Bool.false_eq_true, if_false] at h3
      omega
    · intro hs
      have e : (decide (k1 < 0) ^^ decide (k2 < 0)) = true := by
        by_cases c1 : k1 < 0 <;> by_cases c2 : k2 < 0 <;> simp [c1, c2] <;> omega
      rw [e] at h3
      simp only [if_true] at h3
      omega
  · obtain ⟨s1, s2, s3⟩ := kvz_sgn n (-2600) k1 hn
    have hz : ((0 ≤ k1 ∧ 0 < k2 ∨ k1 ≤ 0 ∧ k2 < 0) → 0 ≤ qZ n k1 k2) ∧ ((0 ≤ k1 ∧ k2 < 0 ∨ k1 ≤ 0 ∧ 0 < k2) → qZ n k1 k2 ≤ 0) := by
      unfold qZ
      constructor <;> intro hs <;> split <;> omega
    rcases hw with hw | hw
    · have := qd_sgn hn (h1 hw) p1
      exact ⟨fun hs => this.1 (hz.1 hs), fun hs => this.2 (hz.2 hs)⟩
    · have := qd_sgn hn (h2 hw) p1
      refine ⟨fun hs => ?_, fun hs => ?_⟩
      · have := this.2 (by have := hz.1 hs; omega)
        omega
      · have := this.1 (by have := hz.2 hs; omega)
        omega
/- one divisor, two dividends -/
theorem q_num {n way : Int} (hn : n = 64 ∨ n = 32) (hw : way = 1 ∨ way = 2) {k j y K J : Int} (rk : -(ifn n : Int) ≤ k ∧ k ≤ (ifn n : Int)) (rj : -(ifn n : Int) ≤ j ∧ j ≤ (ifn n : Int)) (ry : -(ifn n : Int) ≤ y ∧ y ≤ (ifn n : Int)) (rK : -(ifn n : Int) ≤ K ∧ K ≤ (ifn n : Int)) (rJ : -(ifn n : Int) ≤ J ∧ J ≤ (ifn n : Int)) (hy : y ≠ 0) (h : Qrk n way k y K) (g : Qrk n way j y J) (l : k ≤ j) : (0 < y → K ≤ J) ∧ (y < 0 → J ≤ K) := by
  have hpos := ifn_p n
  by_cases yi : y = (ifn n : Int) ∨ y = -(ifn n : Int)
  · have e1 : K = 0 := by
      rcases h with ⟨-, h⟩ | ⟨h, -⟩ | ⟨h, -⟩
      · exact h
      · omega
      · omega
    have e2 : J = 0 := by
      rcases g with ⟨-, h⟩ | ⟨h, -⟩ | ⟨h, -⟩
      · exact h
      · omega
      · omega
    omega
  · have infE : ∀ k K, Qrk n way k y K → (k = (ifn n : Int) ∨ k = -(ifn n : Int)) → (k < 0 ∧ y < 0 ∨ 0 < k ∧ 0 < y → K = (ifn n : Int)) ∧ (k < 0 ∧ 0 < y ∨ 0 < k ∧ y < 0 → K = -(ifn n : Int)) := fun k K h hk => by
      rcases h with ⟨h, -⟩ | ⟨-, -, h⟩ | ⟨-, h, -⟩
      · omega
      · constructor
        · intro hs
          have e : (decide (k < 0) ^^ decide (y < 0)) = false := by
            by_cases c1 : k < 0 <;> by_cases c2 : y < 0 <;> simp [c1, c2] <;> omega
          rw [e] at h
          simpa using h
        · intro hs
          have e : (decide (k < 0) ^^ decide (y < 0)) = true := by
            by_cases c1 : k < 0 <;> by_cases c2 : y < 0 <;> simp [c1, c2] <;> omega
          rw [e] at h
          simpa using h
      · omega
    by_cases ki : k = (ifn n : Int) ∨ k = -(ifn n : Int)
    · have ek := infE k K h ki
      by_cases ji : j = (ifn n : Int) ∨ j = -(ifn n : Int)
      · have ej := infE j J g ji
        omega
      · omega
    · by_cases ji : j = (ifn n : Int) ∨ j = -(ifn n : Int)
      · have ej := infE j J g ji
        omega
      · have p1 := qW_pos n y hn hy
        have m := kvz_le n (-2600) hn k j l
        constructor
        · intro hy0
          refine qrk_fin hn hw (by omega) (by omega) (by omega) (by omega) hy hy h g ?_
          unfold qZ
          rw [if_neg (by omega), if_neg (by omega)]
          exact Int.mul_le_mul_of_nonneg_right m (Int.le_of_lt p1)
        · intro hy0
          refine qrk_fin hn hw (by omega) (by omega) (by omega) (by omega) hy hy g h ?_
          unfold qZ
          rw [if_pos hy0, if_pos hy0]
          exact Int.mul_le_mul_of_nonneg_right (by omega) (Int.le_of_lt p1)
/- one dividend, two divisors of one sign -/
theorem q_den {n way : Int} (hn : n = 64 ∨ n = 32) (hw : way = 1 ∨ way = 2) {p c d K J : Int} (rp : -(ifn n : Int) ≤ p ∧ p ≤ (ifn n : Int)) (rc : -(ifn n : Int) ≤ c ∧ c ≤ (ifn n : Int)) (rd : -(ifn n : Int) ≤ d ∧ d ≤ (ifn n : Int)) (hs : 0 < c ∧ 0 < d ∨ c < 0 ∧ d < 0) (h : Qrk n way p c K) (g : Qrk n way p d J) (l : c ≤ d) : (0 ≤ p → J ≤ K) ∧ (p ≤ 0 → K ≤ J) := by
  have hpos := ifn_p n
  have sK := qrk_sgn hn hw rp rc (by omega) h
  have sJ := qrk_sgn hn hw rp rd (by omega) g
  by_cases ci : c = (ifn n : Int) ∨ c = -(ifn n : Int)
  · have e1 : K = 0 := by
      rcases h with ⟨-, h⟩ | ⟨h, -⟩ | ⟨h, -⟩
      · exact h
      · omega
      · omega
    by_cases cp : c = (ifn n : Int)
    · have e2 : J = 0 := by
        rcases g with ⟨-, h⟩ | ⟨h, -⟩ | ⟨h, -⟩
        · exact h
        · omega
        · omega
      omega
    · have h1 := sJ.1
      have h2 := sJ.2
      constructor <;> intro hp
      · have := h2 (by omega)
        omega
      · have := h1 (by omega)
        omega
  · by_cases di : d = (ifn n : Int) ∨ d = -(ifn n : Int)
    · have e2 : J = 0 := by
        rcases g with ⟨-, h⟩ | ⟨h, -⟩ | ⟨h, -⟩
        · exact h
        · omega
        · omega
      have h1 := sK.1
      have h2 := sK.2
      constructor <;> intro hp
      · have := h1 (by omega)
        omega
      · have := h2 (by omega)
        omega
    · by_cases pi : p = (ifn n : Int) ∨ p = -(ifn n : Int)
      · have e : K = J := by
          rcases h with ⟨h, -⟩ | ⟨-, -, h⟩ | ⟨-, h, -⟩
          · omega
          · rcases g with ⟨g, -⟩ | ⟨-, -, g⟩ | ⟨-, g, -⟩
            · omega
            · rw [h, g]
              have : decide (c < 0) = decide (d < 0) := by
                by_cases c1 : c < 0
                · simp [c1]; omega
                · simp [c1]; omega
              rw [this]
            · omega
          · omega
        omega
      · obtain ⟨s1, s2, s3⟩ := kvz_sgn n (-2600) p hn
        have m := kvz_le n (-1300) hn c d l
        have hzz : qZ n p c = qZ n p d := by
          unfold qZ
          by_cases c1 : c < 0
          · rw [if_pos c1, if_pos (by omega)]
          · rw [if_neg c1, if_neg (by omega)]
        constructor <;> intro hp
        · refine qrk_fin hn hw (by omega) (by omega) (by omega) (by omega) (by omega) (by omega) g h ?_
          rw [hzz]
          unfold qZ qW
          by_cases c1 : c < 0
          · rw [if_pos c1, if_pos (show d < 0 by omega), if_pos (show d < 0 by omega)]
            exact Int.mul_le_mul_of_nonpos_left (by omega) (by omega)
          · rw [if_neg c1, if_neg (show ¬ d < 0 by omega), if_neg (show ¬ d < 0 by omega)]
            exact Int.mul_le_mul_of_nonneg_left m (by omega)
        · refine qrk_fin hn hw (by omega) (by omega) (by omega) (by omega) (by omega) (by omega) h g ?_
          rw [hzz]
          unfold qZ qW
          by_cases c1 : c < 0
          · rw [if_pos c1, if_pos (show d < 0 by omega), if_pos (show d < 0 by omega)]
            exact Int.mul_le_mul_of_nonneg_left (by omega) (by omega)
          · rw [if_neg c1, if_neg (show ¬ d < 0 by omega), if_neg (show ¬ d < 0 by omega)]
            exact Int.mul_le_mul_of_nonpos_left (by omega) m
theorem min4 (a b c d : Int) : min (min (min a b) c) d ≤ a ∧ min (min (min a b) c) d ≤ b ∧ min (min (min a b) c) d ≤ c ∧ min (min (min a b) c) d ≤ d := by omega
theorem max4 (a b c d : Int) : a ≤ max (max (max a b) c) d ∧ b ≤ max (max (max a b) c) d ∧ c ≤ max (max (max a b) c) d ∧ d ≤ max (max (max a b) c) d := by omega
theorem qrk_low {n way : Int} (hn : n = 64 ∨ n = 32) (hw : way = 1 ∨ way = 2) {a b c d x y d0 d1 d2 d3 K : Int} (ra : -(ifn n : Int) ≤ a) (rb : b ≤ (ifn n : Int)) (rc : -(ifn n : Int) ≤ c) (rd : d ≤ (ifn n : Int)) (hs : 0 < c ∨ d < 0) (h1 : a ≤ x) (h2 : x ≤ b) (h3 : c ≤ y) (h4 : y ≤ d) (rr : ∀ k, k = d0 ∨ k = d1 ∨ k = d2 ∨ k = d3 ∨ k = K → -(ifn n : Int) ≤ k ∧ k ≤ (ifn n : Int)) (P0 : Qrk n way a c d0) (P1 : Qrk n way a d d1) (P2 : Qrk n way b c d2) (P3 : Qrk n way b d d3) (P : Qrk n way x y K) : min (min (min d0 d1) d2) d3 ≤ K ∧ K ≤ max (max (max d0 d1) d2) d3 := by
  obtain ⟨A, hA, rA⟩ := qrk_ex n way hn hw a y ⟨ra, by omega⟩ ⟨by omega, by omega⟩ (by omega)
  obtain ⟨B, hB, rB⟩ := qrk_ex n way hn hw b y ⟨by omega, rb⟩ ⟨by omega, by omega⟩ (by omega)
  have rK := rr K (by simp)
  have n1 := q_num hn hw ⟨ra, by omega⟩ ⟨by omega, by omega⟩ ⟨by omega, by omega⟩ rA rK (by omega) hA P h1
  have n2 := q_num hn hw ⟨by omega, by omega⟩ ⟨by omega, rb⟩ ⟨by omega, by omega⟩ rK rB (by omega) P hB h2
  have m1 := q_den hn hw ⟨ra, by omega⟩ ⟨rc, by omega⟩ ⟨by omega, by omega⟩ (by omega) P0 hA h3
  have m2 := q_den hn hw ⟨ra, by omega⟩ ⟨by omega, by omega⟩ ⟨by omega, rd⟩ (by omega) hA P1 h4
  have m3 := q_den hn hw ⟨by omega, rb⟩ ⟨rc, by omega⟩ ⟨by omega, by omega⟩ (by omega) P2 hB h3
  have m4 := q_den hn hw ⟨by omega, rb⟩ ⟨by omega, by omega⟩ ⟨by omega, rd⟩ (by omega) hB P3 h4
  clear hA hB P0 P1 P2 P3 P rr rA rB rK
  obtain ⟨q0, q1, q2, q3⟩ := min4 d0 d1 d2 d3
  obtain ⟨x0, x1, x2, x3⟩ := max4 d0 d1 d2 d3
  generalize min (min (min d0 d1) d2) d3 = mn at *
  generalize max (max (max d0 d1) d2) d3 = mx at *
  have sA : mn ≤ A ∧ A ≤ mx := by
    by_cases s0 : 0 ≤ a
    · have e1 := m1.1 s0
      have e2 := m2.1 s0
      omega
    · have e1 := m1.2 (by omega)
      have e2 := m2.2 (by omega)
      omega
  have sB : mn ≤ B ∧ B ≤ mx := by
    by_cases s0 : 0 ≤ b
    · have e1 := m3.1 s0
      have e2 := m4.1 s0
      omega
    · have e1 := m3.2 (by omega)
      have e2 := m4.2 (by omega)
      omega
  rcases hs with hs | hs
  · have e1 := n1.1 (by omega)
    have e2 := n2.1 (by omega)
    omega
  · have e1 := n1.2 (by omega)
    have e2 := n2.2 (by omega)
    omega
end Go.Proofs.YtalhnaakbekboaaDoor

namespace Go.Proofs.YtalhnaakbekboaaDoor
open Go.ChangeShapes Go.WideShapes Go.ChangeAt Go.RowKit Ieee
set_option linter.unusedVariables false
set_option linter.unusedSimpArgs false

theorem nu_64 (b : Int) : isnum b 64 = true ↔ b % 9223372036854775808 ≤ 9218868437227405312 := by
  rw [isnum_64, decide_eq_true_eq, ne_eq]
  unfold cls clsOf
  rw [if_pos rfl]
  (repeat' split) <;> omega
theorem nu_32 (b : Int) : isnum b 32 = true ↔ (0 ≤ b ∧ b < 4294967296) ∧ b % 2147483648 ≤ 2139095040 := by
  rw [isnum_32, decide_eq_true_eq, ne_eq]
  unfold cls clsOf
  rw [if_neg (by decide)]
  (repeat' split) <;> omega
theorem nxt_up (b n : Int) (hb : RB b) (h : isnum b n = true) : isnum (nxt b n) n = true ∧ keyOf b n ≤ keyOf (nxt b n) n := by
  obtain ⟨h1, h2⟩ := hb
  rcases isnum_wid b n h with rfl | rfl
  · have h' := (nu_64 b).1 h
    rw [nu_64]
    unfold nxt keyOf
    rw [if_pos h]
    simp only [if_true]
    (repeat' split) <;> omega
  · have h' := (nu_32 b).1 h
    rw [nu_32]
    unfold nxt keyOf
    rw [if_pos h]
    simp only [show ¬ (32 : Int) = 64 by decide, if_false]
    (repeat' split) <;> omega
theorem ngt_up (b n : Int) (hb : RB b) (h : isnum b n = true) : isnum (ngt b n) n = true ∧ keyOf (ngt b n) n = -keyOf b n := by
  obtain ⟨h1, h2⟩ := hb
  rcases isnum_wid b n h with rfl | rfl
  · have h' := (nu_64 b).1 h
    rw [nu_64]
    unfold ngt keyOf
    rw [if_pos h]
    simp only [if_true]
    (repeat' split) <;> omega
  · have h' := (nu_32 b).1 h
    rw [nu_32]
    unfold ngt keyOf
    rw [if_pos h]
    simp only [show ¬ (32 : Int) = 64 by decide, if_false]
    (repeat' split) <;> omega
theorem prv_dn (b n : Int) (hb : RB b) (h : isnum b n = true) : isnum (prv b n) n = true ∧ keyOf (prv b n) n ≤ keyOf b n := by
  have h1 := ngt_up b n hb h
  have r1 := ngt_rb n b hb
  have h2 := nxt_up _ n r1 h1.1
  have r2 := nxt_rb n _ r1
  have h3 := ngt_up _ n r2 h2.1
  unfold prv
  exact ⟨h3.1, by omega⟩
theorem itr_up (b n : Int) (k : Nat) (hb : RB b) (h : isnum b n = true) : RB (itr (nxt · n) k b) ∧ isnum (itr (nxt · n) k b) n = true ∧ keyOf b n ≤ keyOf (itr (nxt · n) k b) n := by
  refine ⟨itr_rng _ (nxt_rb n) k b hb, ?_⟩
  induction k with
  | zero => exact ⟨h, Int.le_refl _⟩
  | succ k h1 =>
    have h2 := nxt_up (itr (nxt · n) k b) n (itr_rng _ (nxt_rb n) k b hb) h1.1
    exact ⟨h2.1, Int.le_trans h1.2 h2.2⟩
theorem itr_dn (b n : Int) (k : Nat) (hb : RB b) (h : isnum b n = true) : RB (itr (prv · n) k b) ∧ isnum (itr (prv · n) k b) n = true ∧ keyOf (itr (prv · n) k b) n ≤ keyOf b n := by
  refine ⟨itr_rng _ (prv_rb n) k b hb, ?_⟩
  induction k with
  | zero => exact ⟨h, Int.le_refl _⟩
  | succ k h1 =>
    have h2 := prv_dn (itr (prv · n) k b) n (itr_rng _ (prv_rb n) k b hb) h1.1
    exact ⟨h2.1, Int.le_trans h2.2 h1.2⟩
set_option maxHeartbeats 2000000 in
set_option maxRecDepth 100000 in
theorem within_walk (a1 b1 a2 b2 n : Int) (w : World)
    (KM : Hid (∀ u, Calls Tryd.prog 16 #[sp2 a1 b1, sp2 a2 b2, .int .i64 n] u fun e w' => e = .returned (.tuple #[sp2 a1 b1, .bool true, .int .i64 0]) ∧ Kept u w'))
    (KJ : Hid (∀ u, Calls Tryd.prog 20 #[sp2 a1 b1, sp2 a2 b2, .int .i64 n] u fun e w' => e = .returned (.tuple #[sp2 a2 b2, .int .i64 0]) ∧ Kept u w')) :
    Calls Tryd.prog 15 #[sp2 a1 b1, sp2 a2 b2, .int .i64 n] w fun e w' => e = .returned (.bool true) ∧ Kept w w' := by
  obtain ⟨X, hX⟩ : ∃ X, X = (w.alloc (.cells #[.int .i64 a1, .int .i64 b1] 23)).alloc (.cells #[.int .i64 a2, .int .i64 b2] 23) := ⟨_, rfl⟩
  have hK : Kept w X := by
    rw [hX]
    exact ((Kept.refl w).alloc _ _).alloc _ _
  have hS : P2 X w.heap.size (.int .i64 a1) (.int .i64 b1) := by
    rw [hX]
    exact (P2.new w _ _ _).alloc _ _
  have hQ : P2 X (w.heap.size + 1) (.int .i64 a2) (.int .i64 b2) := by
    rw [hX]
    have := P2.new (w.alloc (.cells #[.int .i64 a1, .int .i64 b1] 23)) (.int .i64 a2) (.int .i64 b2) 23
    simpa using this
  obtain ⟨H0, hH0⟩ : ∃ H, H = w.heap.size := ⟨_, rfl⟩
  obtain ⟨H1, hH1⟩ : ∃ H, H = H0 + 1 := ⟨_, rfl⟩
  rw [← hH0] at hS hQ
  rw [← hH1] at hQ
  go_enter Tryd.func15, Tryd.ntmps15
  go_upto_region 1 with fail
  rw [← hX, ← hH0, ← hH1]
  clear hX hH0 hH1
  obtain ⟨c0, c1, cf⟩ := hS
  obtain ⟨d0, d1, df⟩ := hQ
  have hS := P2.mk c0 c1 cf
  have hQ := P2.mk d0 d1 df
  go_upto_region 2 with (first | (go_at_call 16; refine (KM.out _).mono ?_; rintro e w1 ⟨rfl, k1⟩))
  clear c0 c1 cf d0 d1 df KM
  have hA := P2.new w1 (.int .i64 a1) (.int .i64 b1) 23
  have kY := k1.alloc #[.int .i64 a1, .int .i64 b1] 23
  obtain ⟨Y, hY⟩ : ∃ Y, Y = w1.alloc (.cells #[.int .i64 a1, .int .i64 b1] 23) := ⟨_, rfl⟩
  obtain ⟨B, hB⟩ : ∃ B, B = w1.heap.size := ⟨_, rfl⟩
  rw [← hY] at hA kY
  rw [← hB] at hA
  rw [← hY, ← hB]
  clear hY hB k1
  obtain ⟨c0, c1, cf⟩ := hS.kept kY
  obtain ⟨d0, d1, df⟩ := hQ.kept kY
  have hS := P2.mk c0 c1 cf
  have hQ := P2.mk d0 d1 df
  go_upto_region 3 with (first | (go_at_call 20; refine (KJ.out _).mono ?_; rintro e w2 ⟨rfl, k2⟩))
  clear c0 c1 cf d0 d1 df KJ
  have hC := P2.new w2 (.int .i64 a2) (.int .i64 b2) 23
  have kZ := k2.alloc #[.int .i64 a2, .int .i64 b2] 23
  obtain ⟨Z, hZ⟩ : ∃ Z, Z = w2.alloc (.cells #[.int .i64 a2, .int .i64 b2] 23) := ⟨_, rfl⟩
  obtain ⟨C, hCC⟩ : ∃ C, C = w2.heap.size := ⟨_, rfl⟩
  rw [← hZ] at hC kZ
  rw [← hCC] at hC
  rw [← hZ, ← hCC]
  clear hZ hCC k2
  have kw := (hK.trans kY).trans kZ
  obtain ⟨c0, c1, cf⟩ := hS.kept kZ
  obtain ⟨d0, d1, df⟩ := hQ.kept kZ
  obtain ⟨e0, e1, ef⟩ := hA.kept kZ
  obtain ⟨f0, f1, ff⟩ := hC
  clear hS hQ hA kZ kY hK
  have q1 : (a1 == a1) = true := by simp
  have q2 : (b1 == b1) = true := by simp
  have q3 : (a2 == a2) = true := by simp
  have q4 : (b2 == b2) = true := by simp
  go_wp2_with fail
  go_ret
  exact ⟨rfl, kw⟩
theorem within_ok (n K1 K2 L1 L2 : Int) (hn : n = 64 ∨ n = 32) (h1 : -(ifn n : Int) ≤ L1) (h2 : L1 ≤ K1) (h3 : K1 ≤ K2) (h4 : K2 ≤ L2) (h5 : L2 ≤ (ifn n : Int)) (h6 : K1 < (ifn n : Int)) (h7 : -(ifn n : Int) < K2) (w : World) : Calls Tryd.prog 15 #[sp2 (pz n K1) (pz n K2), sp2 (pz n L1) (pz n L2), .int .i64 n] w fun e w' => e = .returned (.bool true) ∧ Kept w w' := by
  obtain ⟨v1, r1, r2, e1, e2⟩ := vsp_keys n K1 K2 hn (by omega) h6 h7 (by omega) h3
  obtain ⟨v2, r3, r4, e3, e4⟩ := vsp_keys n L1 L2 hn h1 (by omega) (by omega) h5 (by omega)
  have hb : btE (pz n K1) (pz n K2) (pz n L1) (pz n L2) n = 0 := (btE_zero _ _ _ _ _).2 ⟨v1, v2⟩
  refine within_walk _ _ _ _ n w (fun u => ?_) (fun u => ?_)
  · have := meet_any _ _ _ _ n r1 r2 r3 r4 u
    rw [e1, e2, e3, e4, hb, if_pos ⟨rfl, by omega⟩, show max K1 L1 = K1 by omega, show min K2 L2 = K2 by omega] at this
    exact this
  · have := join5_any _ _ _ _ n r1 r2 r3 r4 u
    rw [e1, e2, e3, e4, hb, if_pos rfl, show min K1 L1 = L1 by omega, show max K2 L2 = L2 by omega] at this
    exact this
end Go.Proofs.YtalhnaakbekboaaDoor
