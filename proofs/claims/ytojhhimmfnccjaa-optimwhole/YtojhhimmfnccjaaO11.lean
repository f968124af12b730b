/- Small whole numbers as floats of both widths. -/
import Derived.Test.YtojhhimmfnccjaaO9
namespace Go.Proofs.Ytojhhimmfnccjaa
open Go.ChangeShapes Go.WideShapes Go.ChangeAt Go.RowKit Ieee
set_option linter.unusedVariables false
set_option linter.unusedSimpArgs false

theorem small_log (z : Int) (fb : Nat) (hz : z.natAbs < 1048576) (hf : 19 ≤ fb) : z.natAbs.log2 ≤ fb := by
  by_cases h : z.natAbs = 0
  · rw [h]
    exact Nat.le_trans (by decide) hf
  · exact Nat.le_trans (log2_lt z.natAbs 19 h hz) hf
theorem small_val64 (z : Int) (K : Nat) (hK : K = 1074) (hz : z.natAbs < 1048576) : z.natAbs * 2 ^ K < rungVal FloatKind.f64.format FloatKind.f64.format.infRung := by
  rw [rungVal_inf64]
  refine Nat.lt_of_lt_of_le (Nat.mul_lt_mul_of_pos_right hz (Nat.two_pow_pos K)) ?_
  rw [show (1048576 : Nat) = 2 ^ 20 by decide, ← Nat.pow_add]
  exact Nat.pow_le_pow_right (by decide) (by rw [hK]; decide)
theorem foi64 (z : Int) : floatOfInt .f64 z = wzf FloatKind.f64.format z := rfl
theorem sub64 (a b : Int) (ha : a.natAbs < 500000) (hb : b.natAbs < 500000) : FloatKind.f64.format.sub (floatOfInt .f64 a) (floatOfInt .f64 b) = some (floatOfInt .f64 (a - b)) := by
  obtain ⟨K, hK⟩ : ∃ K : Nat, K = 1074 := ⟨_, rfl⟩
  rw [foi64, foi64, foi64]
  have hf : 19 ≤ FloatKind.f64.format.fractionBits := by decide
  exact sub_exact _ a b K (by rw [hK]; exact least64) (by decide +kernel) (by decide +kernel) (small_log a _ (by omega) hf) (small_log b _ (by omega) hf) (small_log _ _ (by omega) hf) (small_val64 a K hK (by omega)) (small_val64 b K hK (by omega))
theorem mul64 (s : Nat) (hs : s < 9) (z : Int) (hz : z.natAbs < 1000) : FloatKind.f64.format.mul ((1023 - s) * 4503599627370496) (floatOfInt .f64 (z * 2 ^ s)) = some (floatOfInt .f64 z) := by
  obtain ⟨K, hK⟩ : ∃ K : Nat, K = 1074 := ⟨_, rfl⟩
  rw [foi64, foi64]
  have hf : 19 ≤ FloatKind.f64.format.fractionBits := by decide
  have hzs : (z * 2 ^ s).natAbs < 1048576 := by
    rw [Int.natAbs_mul, Int.natAbs_pow]
    have h1 : (2 : Int).natAbs ^ s ≤ 256 := by
      have : 2 ^ s ≤ 2 ^ 8 := Nat.pow_le_pow_right (by decide) (by omega)
      exact this
    have := Nat.mul_le_mul (Nat.le_of_lt hz) h1
    omega
  have hc : ∀ s : Nat, s < 9 → FloatKind.f64.format.read ((1023 - s) * 4503599627370496) = .number false (2 ^ FloatKind.f64.format.fractionBits) (-((FloatKind.f64.format.fractionBits + s : Nat) : Int)) := by decide +kernel
  have hfb : FloatKind.f64.format.fractionBits = 52 := by decide
  exact mul_exact _ z s _ K (by rw [hK]; exact least64) (by decide +kernel) (by decide +kernel) (by rw [hfb, hK]; omega) (hc s hs) (small_log z _ (by omega) hf) (small_log _ _ hzs hf) (small_val64 _ K hK hzs)
theorem word64 (z : Int) (hz : z.natAbs < 1048576) : ∃ r, floatOfInt .f64 z = FloatKind.f64.format.word (decide (z < 0)) r ∧ r < FloatKind.f64.format.infRung := by
  obtain ⟨K, hK⟩ : ∃ K : Nat, K = 1074 := ⟨_, rfl⟩
  exact wzf_word _ z K (by rw [hK]; exact least64) (by decide +kernel) (small_log z _ hz (by decide)) (small_val64 z K hK hz)
theorem small_val32 (z : Int) (K : Nat) (hK : K = 149) (hz : z.natAbs < 1048576) : z.natAbs * 2 ^ K < rungVal FloatKind.f32.format FloatKind.f32.format.infRung := by
  rw [rungVal_inf32]
  refine Nat.lt_of_lt_of_le (Nat.mul_lt_mul_of_pos_right hz (Nat.two_pow_pos K)) ?_
  rw [show (1048576 : Nat) = 2 ^ 20 by decide, ← Nat.pow_add]
  exact Nat.pow_le_pow_right (by decide) (by rw [hK]; decide)
theorem foi32 (z : Int) : floatOfInt .f32 z = wzf FloatKind.f32.format z := rfl
theorem sub32 (a b : Int) (ha : a.natAbs < 500000) (hb : b.natAbs < 500000) : FloatKind.f32.format.sub (floatOfInt .f32 a) (floatOfInt .f32 b) = some (floatOfInt .f32 (a - b)) := by
  obtain ⟨K, hK⟩ : ∃ K : Nat, K = 149 := ⟨_, rfl⟩
  rw [foi32, foi32, foi32]
  have hf : 19 ≤ FloatKind.f32.format.fractionBits := by decide
  exact sub_exact _ a b K (by rw [hK]; exact least32) (by decide +kernel) (by decide +kernel) (small_log a _ (by omega) hf) (small_log b _ (by omega) hf) (small_log _ _ (by omega) hf) (small_val32 a K hK (by omega)) (small_val32 b K hK (by omega))
theorem mul32 (s : Nat) (hs : s < 9) (z : Int) (hz : z.natAbs < 1000) : FloatKind.f32.format.mul ((127 - s) * 8388608) (floatOfInt .f32 (z * 2 ^ s)) = some (floatOfInt .f32 z) := by
  obtain ⟨K, hK⟩ : ∃ K : Nat, K = 149 := ⟨_, rfl⟩
  rw [foi32, foi32]
  have hf : 19 ≤ FloatKind.f32.format.fractionBits := by decide
  have hzs : (z * 2 ^ s).natAbs < 1048576 := by
    rw [Int.natAbs_mul, Int.natAbs_pow]
    have h1 : (2 : Int).natAbs ^ s ≤ 256 := by
      have : 2 ^ s ≤ 2 ^ 8 := Nat.pow_le_pow_right (by decide) (by omega)
      exact this
    have := Nat.mul_le_mul (Nat.le_of_lt hz) h1
    omega
  have hc : ∀ s : Nat, s < 9 → FloatKind.f32.format.read ((127 - s) * 8388608) = .number false (2 ^ FloatKind.f32.format.fractionBits) (-((FloatKind.f32.format.fractionBits + s : Nat) : Int)) := by decide +kernel
  have hfb : FloatKind.f32.format.fractionBits = 23 := by decide
  exact mul_exact _ z s _ K (by rw [hK]; exact least32) (by decide +kernel) (by decide +kernel) (by rw [hfb, hK]; omega) (hc s hs) (small_log z _ (by omega) hf) (small_log _ _ hzs hf) (small_val32 _ K hK hzs)
theorem word32 (z : Int) (hz : z.natAbs < 1048576) : ∃ r, floatOfInt .f32 z = FloatKind.f32.format.word (decide (z < 0)) r ∧ r < FloatKind.f32.format.infRung := by
  obtain ⟨K, hK⟩ : ∃ K : Nat, K = 149 := ⟨_, rfl⟩
  exact wzf_word _ z K (by rw [hK]; exact least32) (by decide +kernel) (small_log z _ hz (by decide)) (small_val32 z K hK hz)
theorem gw64 (z : Int) (hz : z.natAbs < 1048576) : pat64 (of64 (floatOfInt .f64 z)) = floatOfInt .f64 z ∧ cls (of64 (floatOfInt .f64 z)) 64 < 3 ∧ -9223372036854775808 ≤ of64 (floatOfInt .f64 z) ∧ of64 (floatOfInt .f64 z) ≤ 9223372036854775807 := by
  obtain ⟨r, e, hr⟩ := word64 z hz
  rw [inf64] at hr
  rw [e]
  have h1 : rung FloatKind.f64.format (FloatKind.f64.format.word (decide (z < 0)) r) = r := rung_word _ _ r (by rw [sw64]; omega)
  have h2 : of64 (FloatKind.f64.format.word (decide (z < 0)) r) = wrap64 (FloatKind.f64.format.word (decide (z < 0)) r : Nat) := of64_num _ (by rw [h1, inf64]; omega)
  have h3 := pat64_wrap (FloatKind.f64.format.word (decide (z < 0)) r) (word_lt64 _ r (by omega))
  rw [h2]
  have h4 := rung_pat64 (wrap64 (FloatKind.f64.format.word (decide (z < 0)) r : Nat))
  rw [h3, h1] at h4
  refine ⟨h3, ?_, by unfold wrap64; omega, by unfold wrap64; omega⟩
  generalize wrap64 (FloatKind.f64.format.word (decide (z < 0)) r : Nat) = b at *
  unfold cls clsOf
  rw [if_pos rfl]
  (repeat' split) <;> omega
theorem gw32 (z : Int) (hz : z.natAbs < 1048576) : pat32 (of32 (floatOfInt .f32 z)) = floatOfInt .f32 z ∧ cls (of32 (floatOfInt .f32 z)) 32 < 3 ∧ 0 ≤ of32 (floatOfInt .f32 z) ∧ of32 (floatOfInt .f32 z) < 4294967296 := by
  obtain ⟨r, e, hr⟩ := word32 z hz
  rw [inf32] at hr
  rw [e]
  have h1 : rung FloatKind.f32.format (FloatKind.f32.format.word (decide (z < 0)) r) = r := rung_word _ _ r (by rw [sw32]; omega)
  have hw : FloatKind.f32.format.word (decide (z < 0)) r < 4294967296 := by
    unfold Format.word
    rw [sw32]
    split <;> omega
  have h2 : of32 (FloatKind.f32.format.word (decide (z < 0)) r) = (FloatKind.f32.format.word (decide (z < 0)) r : Nat) := by
    unfold of32
    rw [self_32, if_neg (by rw [h1, inf32]; simp; omega)]
    unfold wrap64
    omega
  rw [h2]
  generalize FloatKind.f32.format.word (decide (z < 0)) r = x at *
  have hv : 0 ≤ (x : Int) ∧ (x : Int) < 4294967296 := by omega
  have h3 : pat32 (x : Int) = x := by have := pat32_eq (x : Int) hv; omega
  have h4 := rung_pat32 (x : Int) hv
  rw [h3, h1] at h4
  refine ⟨h3, ?_, hv.1, hv.2⟩
  unfold cls clsOf
  rw [if_neg (by decide), if_pos rfl, if_pos hv]
  (repeat' split) <;> omega
/-- what the kernel checks of a number that comes out -/
def gr64 (z : Int) : Bool := (FloatKind.f64.format.order (floatOfInt .f64 z) (floatOfInt .f64 z) == some .eq) && !(FloatKind.f64.format.order (bits .andNot .u64 (floatOfInt .f64 z : Int) 9223372036854775808).toNat 9218868437227405311 == some .gt) && (floatToIntVal .f64 (floatOfInt .f64 z) .i64 == some z) && (FloatKind.f64.encode ((FloatKind.f64.decode (floatOfInt .f64 z)).integral .even) == floatOfInt .f64 z) && (FloatKind.f64.format.order (floatOfInt .f64 z) 14114281232179134464 == some .gt) && (FloatKind.f64.format.order (floatOfInt .f64 z) 4890909195324358656 == some .lt) && !(FloatKind.f64.decode (floatOfInt .f64 z)).isNaN
def gr32 (z : Int) : Bool := (FloatKind.f32.format.order (floatOfInt .f32 z) (floatOfInt .f32 z) == some .eq) && (floatToFloatBits .f32 (floatOfInt .f32 z) .f64 == some (floatOfInt .f64 z))
def allr (n : Nat) (o : Int) : Bool := (List.range n).all fun j => gr64 ((j : Int) + o) && gr32 ((j : Int) + o)
set_option maxRecDepth 100000 in
theorem ck0 : allr 500 (-2000) = true := by decide +kernel
set_option maxRecDepth 100000 in
theorem ck1 : allr 500 (-1500) = true := by decide +kernel
set_option maxRecDepth 100000 in
theorem ck2 : allr 500 (-1000) = true := by decide +kernel
set_option maxRecDepth 100000 in
theorem ck3 : allr 500 (-500) = true := by decide +kernel
set_option maxRecDepth 100000 in
theorem ck4 : allr 500 (0) = true := by decide +kernel
set_option maxRecDepth 100000 in
theorem ck5 : allr 500 (500) = true := by decide +kernel
set_option maxRecDepth 100000 in
theorem ck6 : allr 500 (1000) = true := by decide +kernel
set_option maxRecDepth 100000 in
theorem ck7 : allr 500 (1500) = true := by decide +kernel
theorem all_in {n : Nat} {o : Int} (h : allr n o = true) (z : Int) (h1 : o ≤ z) (h2 : z < o + n) : gr64 z = true ∧ gr32 z = true := by
  unfold allr at h
  have := List.all_eq_true.1 h (z - o).toNat (by simp; omega)
  rw [Bool.and_eq_true, show (((z - o).toNat : Nat) : Int) + o = z by omega] at this
  exact this
theorem gr_all (z : Int) (h : z.natAbs < 2000) : gr64 z = true ∧ gr32 z = true := by
  by_cases c0 : z < -1500
  · exact all_in ck0 z (by omega) (by omega)
  by_cases c1 : z < -1000
  · exact all_in ck1 z (by omega) (by omega)
  by_cases c2 : z < -500
  · exact all_in ck2 z (by omega) (by omega)
  by_cases c3 : z < 0
  · exact all_in ck3 z (by omega) (by omega)
  by_cases c4 : z < 500
  · exact all_in ck4 z (by omega) (by omega)
  by_cases c5 : z < 1000
  · exact all_in ck5 z (by omega) (by omega)
  by_cases c6 : z < 1500
  · exact all_in ck6 z (by omega) (by omega)
  by_cases c7 : z < 2000
  · exact all_in ck7 z (by omega) (by omega)
  omega
end Go.Proofs.Ytojhhimmfnccjaa
