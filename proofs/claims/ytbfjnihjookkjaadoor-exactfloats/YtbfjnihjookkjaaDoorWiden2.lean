/- The walk of widened of package bits: a pattern's value as a binary64. The walks of widened, Less, Same of package bits. -/
import Derived.Test.YtbfjnihjookkjaaDoorFPat
namespace Go.Proofs.YtbfjnihjookkjaaDoor
open Go.ChangeShapes Go.WideShapes Go.ChangeAt Go.RowKit
open Ieee

/-- What the model answers where a float that is no number is converted: some float of the other kind that is none. -/
def nanAns (k : FloatKind) (b : Nat) (w : World) : Nat := Question.cut (.nanConv k b) (w.tape w.drawn (.nanConv k b))

theorem run_convert_nan {P : Program} (w : World) (src dst : TypeId) (s k : FloatKind) (b : Nat) {sg : Bool} {t : Nat} (hs : (P.underlying src).isSome = true) (hd : P.underlying dst = some (.float k)) (ne : s ≠ k) (he : s.decode b = .nan sg t) :
    (convert src dst (.float s b)).run P w = .ok (.float k (nanAns k b w)) w.drew := by
  obtain ⟨u, hs'⟩ := Option.isSome_iff_exists.1 hs
  cases u <;> simp [convert, run_underlying hs', run_underlying hd, Conv.floatToFloat, ne, he, nanAns, go_sem]

theorem nanAns_nan (b : Nat) (w : World) : FloatKind.f64.format.infRung < rung FloatKind.f64.format (nanAns .f64 b w) := by
  unfold nanAns Question.cut rung
  simp only
  rw [inf64, sw64]
  generalize w.tape w.drawn (.nanConv .f64 b) = t
  have h1 : t % 2 < 2 := Nat.mod_lt _ (by decide)
  have h2 : t / 2 % (2 ^ 52 - 1) < 2 ^ 52 - 1 := Nat.mod_lt _ (by decide)
  generalize t % 2 = s at *
  generalize t / 2 % (2 ^ 52 - 1) = u at *
  omega

/-- How many places lie between the least of binary64 and the least of binary32. -/
def shiftE : Nat := 925
/-- The exponents of the magnitudes of both infinities' rungs, in units of the least places. -/
def topE64 : Nat := 2098
def topE32 : Nat := 277

def wide (b : Int) : Nat := FloatKind.f64.encode (FloatKind.f32.decode (pat32 b))

/-- How a pattern and the binary64 that widened makes of it hang together. -/
def Wd (b n : Int) (y : Nat) : Prop :=
  (isnum b n = true ∧ rung FloatKind.f64.format y ≤ FloatKind.f64.format.infRung ∧ (n = 64 → y = pat64 b) ∧ (n = 32 → y = wide b)) ∨ (isnum b n = false ∧ FloatKind.f64.format.infRung < rung FloatKind.f64.format y)

theorem rungVal_inf64 : rungVal FloatKind.f64.format FloatKind.f64.format.infRung = 2 ^ topE64 := by decide +kernel
theorem rungVal_inf32 : rungVal FloatKind.f32.format FloatKind.f32.format.infRung = 2 ^ topE32 := by decide +kernel
theorem least64 : FloatKind.f64.format.leastPlace = -1074 := by decide +kernel
theorem least32 : FloatKind.f32.format.leastPlace = -149 := by decide +kernel
theorem inf_lt64 : FloatKind.f64.format.infRung < FloatKind.f64.format.signWeight := by decide +kernel

/-- A binary32 that is finite, as a binary64: the same value, the same sign. -/
theorem wide_num (x : Nat) (h : rung FloatKind.f32.format x < FloatKind.f32.format.infRung) :
    ∃ r, FloatKind.f64.encode (FloatKind.f32.decode x) = FloatKind.f64.format.word (below FloatKind.f32.format x) r ∧ r < FloatKind.f64.format.infRung ∧ rungVal FloatKind.f64.format r = rungVal FloatKind.f32.format (rung FloatKind.f32.format x) * 2 ^ shiftE ∧ ∃ m i, FloatKind.f32.decode x = .number (below FloatKind.f32.format x) m i := by
  obtain ⟨m, i, e, hi, hv, hm⟩ := read_num FloatKind.f32.format x h
  have hlt := rungVal_lt FloatKind.f32.format h
  rw [rungVal_inf32, ← hv] at hlt
  rw [least32] at hi hv hlt
  rw [bin32] at hm
  have e' : FloatKind.f32.decode x = .number (below FloatKind.f32.format x) m i := e
  rw [e']
  show ∃ r, FloatKind.f64.format.nearest (below FloatKind.f32.format x) m i = _ ∧ _
  by_cases h0 : m = 0
  · subst h0
    refine ⟨0, by unfold Format.nearest; rw [if_pos rfl], by rw [inf64]; omega, ?_, _, _, rfl⟩
    rw [rungVal_zero, ← hv, Nat.zero_mul, Nat.zero_mul]
  · have hpow : m * 2 ^ (i - -1074).toNat = m * 2 ^ (i - -149).toNat * 2 ^ shiftE := by
      rw [Nat.mul_assoc, ← Nat.pow_add]
      congr 2
      unfold shiftE
      omega
    have hlog : m.log2 ≤ 52 := by
      have : m.log2 < 53 := by
        rw [Nat.log2_lt h0]
        omega
      omega
    obtain ⟨r, h1, h2, h3⟩ := nearest_exact FloatKind.f64.format (below FloatKind.f32.format x) m i h0 hlog (by rw [least64]; omega) (by
      rw [rungVal_inf64, least64, hpow]
      calc m * 2 ^ (i - -149).toNat * 2 ^ shiftE < 2 ^ topE32 * 2 ^ shiftE := Nat.mul_lt_mul_of_pos_right hlt (Nat.two_pow_pos _)
        _ = 2 ^ (topE32 + shiftE) := by rw [← Nat.pow_add]
        _ < 2 ^ topE64 := Nat.pow_lt_pow_right (by decide) (by decide +kernel))
    refine ⟨r, h1, h2, ?_, _, _, rfl⟩
    rw [h3, least64, hpow, hv]

theorem wide_inf (x : Nat) (h : rung FloatKind.f32.format x = FloatKind.f32.format.infRung) : FloatKind.f32.decode x = .infinity (below FloatKind.f32.format x) ∧ FloatKind.f64.encode (FloatKind.f32.decode x) = FloatKind.f64.format.word (below FloatKind.f32.format x) FloatKind.f64.format.infRung := by
  have e : FloatKind.f32.decode x = .infinity (below FloatKind.f32.format x) := read_inf FloatKind.f32.format x h hb32
  exact ⟨e, by rw [e]; rfl⟩

def W (x : Nat) : Nat := FloatKind.f64.encode (FloatKind.f32.decode x)

theorem W_num (x : Nat) (h : rung FloatKind.f32.format x < FloatKind.f32.format.infRung) : rung FloatKind.f64.format (W x) < FloatKind.f64.format.infRung ∧ rungVal FloatKind.f64.format (rung FloatKind.f64.format (W x)) = rungVal FloatKind.f32.format (rung FloatKind.f32.format x) * 2 ^ shiftE ∧ below FloatKind.f64.format (W x) = below FloatKind.f32.format x := by
  obtain ⟨r, e, h1, h2, -⟩ := wide_num x h
  have hs : r < FloatKind.f64.format.signWeight := Nat.lt_trans h1 inf_lt64
  unfold W
  rw [e, rung_word _ _ _ hs, below_word _ _ _ hs]
  exact ⟨h1, h2, rfl⟩

theorem W_inf (x : Nat) (h : rung FloatKind.f32.format x = FloatKind.f32.format.infRung) : rung FloatKind.f64.format (W x) = FloatKind.f64.format.infRung ∧ below FloatKind.f64.format (W x) = below FloatKind.f32.format x := by
  have e := (wide_inf x h).2
  unfold W
  rw [e, rung_word _ _ _ inf_lt64, below_word _ _ _ inf_lt64]
  exact ⟨rfl, rfl⟩

theorem W_le (x : Nat) (h : rung FloatKind.f32.format x ≤ FloatKind.f32.format.infRung) : rung FloatKind.f64.format (W x) ≤ FloatKind.f64.format.infRung ∧ below FloatKind.f64.format (W x) = below FloatKind.f32.format x := by
  by_cases e : rung FloatKind.f32.format x = FloatKind.f32.format.infRung
  · have := W_inf x e
    exact ⟨by omega, this.2⟩
  · have := W_num x (by omega)
    exact ⟨by omega, this.2.2⟩

theorem W_lt (x y : Nat) (hx : rung FloatKind.f32.format x ≤ FloatKind.f32.format.infRung) (hy : rung FloatKind.f32.format y ≤ FloatKind.f32.format.infRung) : rung FloatKind.f64.format (W x) < rung FloatKind.f64.format (W y) ↔ rung FloatKind.f32.format x < rung FloatKind.f32.format y := by
  by_cases e1 : rung FloatKind.f32.format x = FloatKind.f32.format.infRung
  · have a1 := W_inf x e1
    have a2 := W_le y hy
    omega
  · have a1 := W_num x (by omega)
    by_cases e2 : rung FloatKind.f32.format y = FloatKind.f32.format.infRung
    · have a2 := W_inf y e2
      omega
    · have a2 := W_num y (by omega)
      rw [← rungVal_le FloatKind.f64.format, a1.2.1, a2.2.1, Nat.mul_lt_mul_right (Nat.two_pow_pos _), rungVal_le]

theorem W_zero : rung FloatKind.f64.format (W 0) = 0 := by decide +kernel

theorem sv_congr {s t : Bool} {r q r' q' : Nat} (h1 : r < q ↔ r' < q') (h2 : q < r ↔ q' < r') (h3 : 0 < r ↔ 0 < r') (h4 : 0 < q ↔ 0 < q') : (sv s r < sv t q ↔ sv s r' < sv t q') ∧ (sv s r = sv t q ↔ sv s r' = sv t q') := by
  unfold sv
  cases s <;> cases t <;> simp <;> omega

theorem W_key (x y : Nat) (hx : rung FloatKind.f32.format x ≤ FloatKind.f32.format.infRung) (hy : rung FloatKind.f32.format y ≤ FloatKind.f32.format.infRung) : compare (key FloatKind.f64.format (W x)) (key FloatKind.f64.format (W y)) = compare (key FloatKind.f32.format x) (key FloatKind.f32.format y) := by
  have z : rung FloatKind.f32.format 0 ≤ FloatKind.f32.format.infRung := by decide +kernel
  have z0 : rung FloatKind.f32.format 0 = 0 := by decide +kernel
  have h3 := W_lt 0 x z hx
  have h4 := W_lt 0 y z hy
  rw [W_zero, z0] at h3 h4
  have hc := sv_congr (s := below FloatKind.f32.format x) (t := below FloatKind.f32.format y) (W_lt x y hx hy) (W_lt y x hy hx) h3 h4
  rw [key_sv, key_sv, key_sv, key_sv, (W_le x hx).2, (W_le y hy).2]
  exact compare_congr hc.1 hc.2

/-- The place of a pattern that is a number among all of its width, both zeros at 0. -/
def keyOf (b n : Int) : Int := if n = 64 then (if b < 0 then -(b % 9223372036854775808) else b) else (if 2147483648 ≤ b then -(b % 2147483648) else b)

theorem key_64 (b : Int) (hb1 : -9223372036854775808 ≤ b) (hb2 : b ≤ 9223372036854775807) : key FloatKind.f64.format (pat64 b) = keyOf b 64 := by
  unfold key keyOf
  rw [below_pat64 b hb1 hb2, rung_pat64, if_pos rfl]
  by_cases h : b < 0
  · simp [h]
  · simp [h]; omega

theorem key_32 (b : Int) (hv : 0 ≤ b ∧ b < 4294967296) : key FloatKind.f32.format (pat32 b) = keyOf b 32 := by
  unfold key keyOf
  rw [below_pat32 b hv, rung_pat32 b hv, if_neg (by decide : ¬ (32 : Int) = 64)]
  by_cases h : 2147483648 ≤ b
  · simp [h]
  · simp [h]; omega

theorem order_wd (a b n : Int) (y z : Nat) (ha1 : -9223372036854775808 ≤ a) (ha2 : a ≤ 9223372036854775807) (hb1 : -9223372036854775808 ≤ b) (hb2 : b ≤ 9223372036854775807) (hy : Wd a n y) (hz : Wd b n z) :
    FloatKind.f64.format.order y z = if (isnum a n && isnum b n) = true then some (compare (keyOf a n) (keyOf b n)) else none := by
  rcases hy with ⟨i1, r1, p1, q1⟩ | ⟨i1, r1⟩
  · rcases hz with ⟨i2, r2, p2, q2⟩ | ⟨i2, r2⟩
    · rw [if_pos (by simp [i1, i2]), order_num _ _ _ hb64 r1 r2]
      congr 1
      rcases isnum_inv a n i1 with ⟨rfl, c1⟩ | ⟨rfl, c1⟩
      · rw [p1 rfl, p2 rfl, key_64 a ha1 ha2, key_64 b hb1 hb2]
      · have c2 : cls b 32 ≠ 4 := by simpa [isnum] using i2
        have n1 : rung FloatKind.f32.format (pat32 a) ≤ FloatKind.f32.format.infRung := by have := mt (nan_32 a).2 c1; omega
        have n2 : rung FloatKind.f32.format (pat32 b) ≤ FloatKind.f32.format.infRung := by have := mt (nan_32 b).2 c2; omega
        rw [q1 rfl, q2 rfl]
        show compare (key FloatKind.f64.format (W (pat32 a))) (key FloatKind.f64.format (W (pat32 b))) = _
        rw [W_key _ _ n1 n2, key_32 a (cls_valid a c1), key_32 b (cls_valid b c2)]
    · rw [if_neg (by simp [i2]), order_nan_right _ _ _ hb64 r2]
  · rw [if_neg (by simp [i1]), order_nan_left _ _ _ hb64 r1]

end Go.Proofs.YtbfjnihjookkjaaDoor

namespace Go.Proofs.YtbfjnihjookkjaaDoor
open Go.ChangeShapes Go.WideShapes Go.ChangeAt Go.RowKit
open Ieee

set_option maxHeartbeats 400000 in
theorem widened_64 (b : Int) (w : World) : Calls Tryd.prog 72 #[.int .i64 b, .int .i64 64] w fun e w' => e = .returned (.float .f64 (pat64 b)) ∧ w = w' := by
  go_enter Tryd.func72, Tryd.ntmps72
  go_wp2_with (first | (go_at_call 107; refine (float_any _ _).mono ?_; rintro e w2 ⟨rfl, rfl⟩))
  go_ret
  exact ⟨rfl, rfl⟩

set_option maxHeartbeats 400000 in
theorem nan_any (w : World) : Calls Tryd.prog 108 #[] w fun e w' => e = .returned (.float .f64 9221120237041090561) ∧ w = w' := by
  have h1 := call_frombits64
  go_enter Tryd.func108, Tryd.ntmps108
  go_wp2
  go_ret
  exact ⟨rfl, rfl⟩

set_option maxHeartbeats 400000 in
theorem widened_0 (b n : Int) (h1 : (n == 32) = false) (h2 : (n == 64) = false) (w : World) : Calls Tryd.prog 72 #[.int .i64 b, .int .i64 n] w fun e w' => e = .returned (.float .f64 9221120237041090561) ∧ w = w' := by
  go_enter Tryd.func72, Tryd.ntmps72
  go_wp2_with (first | (go_at_call 108; refine (nan_any _).mono ?_; rintro e w2 ⟨rfl, rfl⟩))
  go_ret
  exact ⟨rfl, rfl⟩

set_option maxHeartbeats 400000 in
theorem widened_32_num (b : Int) (hr : rung FloatKind.f32.format (pat32 b) ≤ FloatKind.f32.format.infRung) (w : World) : Calls Tryd.prog 72 #[.int .i64 b, .int .i64 32] w fun e w' => e = .returned (.float .f64 (wide b)) ∧ w = w' := by
  have hc : floatToFloatBits .f32 (pat32 b) .f64 = some (wide b) := by
    unfold floatToFloatBits
    rw [if_neg (by decide)]
    by_cases hi : rung FloatKind.f32.format (pat32 b) = FloatKind.f32.format.infRung
    · have e := wide_inf (pat32 b) hi
      unfold wide
      rw [e.1]
    · obtain ⟨r, e, h1, -, m, i, hd⟩ := wide_num (pat32 b) (by omega)
      unfold wide
      rw [hd] at e
      rw [hd]
      simp only
      rw [if_neg]
      have hs : r < FloatKind.f64.format.signWeight := Nat.lt_trans h1 inf_lt64
      obtain ⟨m', i', e', -⟩ := read_num FloatKind.f64.format (FloatKind.f64.format.word (below FloatKind.f32.format (pat32 b)) r) (by rw [rung_word _ _ _ hs]; exact h1)
      rw [e]
      show ¬ (FloatKind.f64.format.read _).isInfinity = true
      rw [e']
      simp [Datum.isInfinity]
  have hcv : ∀ wx : World, (convert 101 102 (.float .f32 (pat32 b))).run Tryd.prog wx = .ok (.float .f64 (wide b)) wx := fun wx => run_convert_float_float wx 101 102 .f32 .f64 (pat32 b) (wide b) (by kernel_rfl) (by kernel_rfl) hc
  clear hc hr
  go_enter Tryd.func72, Tryd.ntmps72
  go_wp2_with (first | (go_at_call 106; refine (float32_any _ _).mono ?_; rintro e w2 ⟨rfl, rfl⟩))
  go_ret
  exact ⟨rfl, rfl⟩

set_option maxHeartbeats 400000 in
theorem widened_32_nan (b : Int) (hr : FloatKind.f32.format.infRung < rung FloatKind.f32.format (pat32 b)) (w : World) : Calls Tryd.prog 72 #[.int .i64 b, .int .i64 32] w fun e w' => e = .returned (.float .f64 (nanAns .f64 (pat32 b) w)) ∧ Kept w w' := by
  obtain ⟨s, t, hd⟩ := read_nan FloatKind.f32.format (pat32 b) hr hb32
  have hcv : ∀ wx : World, (convert 101 102 (.float .f32 (pat32 b))).run Tryd.prog wx = .ok (.float .f64 (nanAns .f64 (pat32 b) wx)) wx.drew := fun wx => run_convert_nan wx 101 102 .f32 .f64 (pat32 b) (by kernel_rfl) (by kernel_rfl) (by decide) hd
  clear hd hr
  go_enter Tryd.func72, Tryd.ntmps72
  go_wp2_with (first | (go_at_call 106; refine (float32_any _ _).mono ?_; rintro e w2 ⟨rfl, rfl⟩))
  go_ret
  exact ⟨rfl, (Kept.refl _).drew⟩

theorem widened_any (b n : Int) (w : World) : Calls Tryd.prog 72 #[.int .i64 b, .int .i64 n] w fun e w' => ∃ y, e = .returned (.float .f64 y) ∧ Kept w w' ∧ Wd b n y := by
  by_cases h64 : n = 64
  · subst h64
    refine (widened_64 b w).mono ?_
    rintro e w' ⟨rfl, rfl⟩
    refine ⟨_, rfl, Kept.refl _, ?_⟩
    by_cases hc : cls b 64 = 4
    · exact Or.inr ⟨by simp [isnum, hc], (nan_64 b).1 hc⟩
    · exact Or.inl ⟨by simp [isnum, hc], by have := mt (nan_64 b).2 hc; omega, fun _ => rfl, fun h => absurd h (by decide)⟩
  · by_cases h32 : n = 32
    · subst h32
      by_cases hc : cls b 32 = 4
      · refine (widened_32_nan b ((nan_32 b).1 hc) w).mono ?_
        rintro e w' ⟨rfl, hk⟩
        exact ⟨_, rfl, hk, Or.inr ⟨by simp [isnum, hc], nanAns_nan _ _⟩⟩
      · have hr : rung FloatKind.f32.format (pat32 b) ≤ FloatKind.f32.format.infRung := by have := mt (nan_32 b).2 hc; omega
        refine (widened_32_num b hr w).mono ?_
        rintro e w' ⟨rfl, rfl⟩
        exact ⟨_, rfl, Kept.refl _, Or.inl ⟨by simp [isnum, hc], (W_le _ hr).1, fun h => absurd h (by decide), fun _ => rfl⟩⟩
    · refine (widened_0 b n (by simpa using h32) (by simpa using h64) w).mono ?_
      rintro e w' ⟨rfl, rfl⟩
      exact ⟨_, rfl, Kept.refl _, Or.inr ⟨isnum_0 b n h64 h32, by decide +kernel⟩⟩

theorem ret_truth {a b : Bool} (h : a = b) : Ending.returned (.bool a) = .returned (.bool b) := by rw [h]

def lss (a b n : Int) : Bool := isnum a n && isnum b n && decide (keyOf a n < keyOf b n)
def sam (a b n : Int) : Bool := isnum a n && isnum b n && decide (keyOf a n = keyOf b n)

theorem cmp_is_lt (a b : Int) : (some (compare a b) == some Ordering.lt) = decide (a < b) := by
  by_cases h : a < b
  · rw [← cmp_lt h, decide_eq_true h]; rfl
  · by_cases e : a = b
    · rw [← cmp_eq e, decide_eq_false h]; rfl
    · rw [← cmp_gt (by omega), decide_eq_false h]; rfl
theorem cmp_is_eq (a b : Int) : (some (compare a b) == some Ordering.eq) = decide (a = b) := by
  by_cases h : a < b
  · rw [← cmp_lt h, decide_eq_false (by omega)]; rfl
  · by_cases e : a = b
    · rw [← cmp_eq e, decide_eq_true e]; rfl
    · rw [← cmp_gt (by omega), decide_eq_false e]; rfl

end Go.Proofs.YtbfjnihjookkjaaDoor
