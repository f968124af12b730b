/- Patterns as floats: the key of a pattern, which patterns are no numbers, that a pattern comes back. -/
import Derived.Test.YtaoedaojpajbaaaDoorFMath
import Derived.Test.YtaoedaojpajbaaaDoorFloats
import Derived.Test.YtaoedaojpajbaaaDoorTurns2
namespace Go.Proofs.YtaoedaojpajbaaaDoor
open Ieee

theorem sw64 : FloatKind.f64.format.signWeight = 9223372036854775808 := by decide +kernel
theorem inf64 : FloatKind.f64.format.infRung = 9218868437227405312 := by decide +kernel
theorem bin64 : FloatKind.f64.format.binade = 4503599627370496 := by decide +kernel
theorem hb64 : FloatKind.f64.format.binade ≤ FloatKind.f64.format.infRung := by decide +kernel
theorem sw32 : FloatKind.f32.format.signWeight = 2147483648 := by decide +kernel
theorem inf32 : FloatKind.f32.format.infRung = 2139095040 := by decide +kernel
theorem bin32 : FloatKind.f32.format.binade = 8388608 := by decide +kernel
theorem hb32 : FloatKind.f32.format.binade ≤ FloatKind.f32.format.infRung := by decide +kernel

theorem pat64_eq (b : Int) : (pat64 b : Int) = b % 18446744073709551616 := by
  unfold pat64
  rw [IntKind.wrap_u64]
  omega

theorem rung_pat64 (b : Int) : (rung FloatKind.f64.format (pat64 b) : Int) = b % 9223372036854775808 := by
  have h := pat64_eq b
  unfold rung
  rw [sw64]
  omega

theorem below_pat64 (b : Int) (hb1 : -9223372036854775808 ≤ b) (hb2 : b ≤ 9223372036854775807) : below FloatKind.f64.format (pat64 b) = decide (b < 0) := by
  have h := pat64_eq b
  unfold below
  rw [sw64, Bool.eq_iff_iff, beq_iff_eq, decide_eq_true_eq]
  omega

theorem nan_64 (b : Int) : cls b 64 = 4 ↔ FloatKind.f64.format.infRung < rung FloatKind.f64.format (pat64 b) := by
  have h := rung_pat64 b
  rw [inf64]
  unfold cls clsOf
  rw [if_pos rfl]
  (repeat' split) <;> omega

theorem pat32_eq (b : Int) (hv : 0 ≤ b ∧ b < 4294967296) : (pat32 b : Int) = b := by
  unfold pat32
  rw [if_pos (by simp [val, hv])]
  omega

theorem pat32_no (b : Int) (hv : ¬ (0 ≤ b ∧ b < 4294967296)) : pat32 b = 2143289345 := by
  unfold pat32
  rw [if_neg (by simp [val]; omega)]

theorem rung_pat32 (b : Int) (hv : 0 ≤ b ∧ b < 4294967296) : (rung FloatKind.f32.format (pat32 b) : Int) = b % 2147483648 := by
  have h := pat32_eq b hv
  unfold rung
  rw [sw32]
  omega

theorem below_pat32 (b : Int) (hv : 0 ≤ b ∧ b < 4294967296) : below FloatKind.f32.format (pat32 b) = decide (2147483648 ≤ b) := by
  have h := pat32_eq b hv
  unfold below
  rw [sw32, Bool.eq_iff_iff, beq_iff_eq, decide_eq_true_eq]
  omega

theorem nan_32 (b : Int) : cls b 32 = 4 ↔ FloatKind.f32.format.infRung < rung FloatKind.f32.format (pat32 b) := by
  by_cases hv : 0 ≤ b ∧ b < 4294967296
  · have h := rung_pat32 b hv
    rw [inf32]
    unfold cls clsOf
    rw [if_neg (by decide), if_pos rfl, if_pos hv]
    (repeat' split) <;> omega
  · rw [pat32_no b hv]
    unfold cls
    rw [if_neg (by decide), if_pos rfl, if_neg hv]
    decide +kernel

theorem self_64 (x : Nat) : (FloatKind.f64.format.order x x != some .eq) = decide (FloatKind.f64.format.infRung < rung FloatKind.f64.format x) := by
  by_cases h : FloatKind.f64.format.infRung < rung FloatKind.f64.format x
  · rw [order_nan_left _ _ _ hb64 h, decide_eq_true h]; rfl
  · rw [order_num _ _ _ hb64 (by omega) (by omega), decide_eq_false h, ← cmp_eq rfl]; rfl

theorem self_32 (x : Nat) : (FloatKind.f32.format.order x x != some .eq) = decide (FloatKind.f32.format.infRung < rung FloatKind.f32.format x) := by
  by_cases h : FloatKind.f32.format.infRung < rung FloatKind.f32.format x
  · rw [order_nan_left _ _ _ hb32 h, decide_eq_true h]; rfl
  · rw [order_num _ _ _ hb32 (by omega) (by omega), decide_eq_false h, ← cmp_eq rfl]; rfl

theorem of64_pat (b : Int) (hb1 : -9223372036854775808 ≤ b) (hb2 : b ≤ 9223372036854775807) : of64 (pat64 b) = if cls b 64 = 4 then 9221120237041090561 else b := by
  have h := pat64_eq b
  unfold of64
  rw [self_64]
  by_cases hc : cls b 64 = 4
  · rw [if_pos (decide_eq_true ((nan_64 b).1 hc)), if_pos hc]
  · rw [if_neg (by rw [decide_eq_true_eq, ← nan_64]; exact hc), if_neg hc]
    unfold Go.RowKit.wrap64
    omega

theorem of32_pat (b : Int) : of32 (pat32 b) = if cls b 32 = 4 then 2143289345 else b := by
  unfold of32
  rw [self_32]
  by_cases hc : cls b 32 = 4
  · rw [if_pos (decide_eq_true ((nan_32 b).1 hc)), if_pos hc]
  · have h := pat32_eq b (cls_valid b hc)
    have hv := cls_valid b hc
    rw [if_neg (by rw [decide_eq_true_eq, ← nan_32]; exact hc), if_neg hc]
    unfold Go.RowKit.wrap64
    omega

end Go.Proofs.YtaoedaojpajbaaaDoor
