/- The walks of widened, Less, Same of package bits. -/
import Derived.Test.YtaoedaojpajbaaaDoorWiden
namespace Go.Proofs.YtaoedaojpajbaaaDoor
open Go.ChangeShapes Go.WideShapes Go.ChangeAt Go.RowKit
open Ieee

set_option maxHeartbeats 400000 in
theorem widened_64 (b : Int) (w : World) : Calls Tryd.prog 72 #[.int .i64 b, .int .i64 64] w fun e w' => e = .returned (.float .f64 (pat64 b)) ∧ w = w' := by
  go_enter Tryd.func72, Tryd.ntmps72
  go_wp2_with (first | (go_at_call 107; refine (float_any _ _).mono ?_; rintro e w2 ⟨rfl, rfl⟩))
  go_ret
  exact ⟨rfl, rfl⟩

set_option maxHeartbeats 400000 in
theorem nan_any (w : World) : Calls Tryd.prog 108 #[] w fun e w' => e = .returned (.float .f64 9221120237041090561) ∧ w = w' := by
  have h1 := call_frombits64
  go_enter Tryd.func108, Tryd.ntmps108
  go_wp2
  go_ret
  exact ⟨rfl, rfl⟩

set_option maxHeartbeats 400000 in
theorem widened_0 (b n : Int) (h1 : (n == 32) = false) (h2 : (n == 64) = false) (w : World) : Calls Tryd.prog 72 #[.int .i64 b, .int .i64 n] w fun e w' => e = .returned (.float .f64 9221120237041090561) ∧ w = w' := by
  go_enter Tryd.func72, Tryd.ntmps72
  go_wp2_with (first | (go_at_call 108; refine (nan_any _).mono ?_; rintro e w2 ⟨rfl, rfl⟩))
  go_ret
  exact ⟨rfl, rfl⟩

set_option maxHeartbeats 400000 in
theorem widened_32_num (b : Int) (hr : rung FloatKind.f32.format (pat32 b) ≤ FloatKind.f32.format.infRung) (w : World) : Calls Tryd.prog 72 #[.int .i64 b, .int .i64 32] w fun e w' => e = .returned (.float .f64 (wide b)) ∧ w = w' := by
  have hc : floatToFloatBits .f32 (pat32 b) .f64 = some (wide b) := by
    unfold floatToFloatBits
    rw [if_neg (by decide)]
    by_cases hi : rung FloatKind.f32.format (pat32 b) = FloatKind.f32.format.infRung
    · have e := wide_inf (pat32 b) hi
      unfold wide
      rw [e.1]
    · obtain ⟨r, e, h1, -, m, i, hd⟩ := wide_num (pat32 b) (by omega)
      unfold wide
      rw [hd] at e
      rw [hd]
      simp only
      rw [if_neg]
      have hs : r < FloatKind.f64.format.signWeight := Nat.lt_trans h1 inf_lt64
      obtain ⟨m', i', e', -⟩ := read_num FloatKind.f64.format (FloatKind.f64.format.word (below FloatKind.f32.format (pat32 b)) r) (by rw [rung_word _ _ _ hs]; exact h1)
      rw [e]
      show ¬ (FloatKind.f64.format.read _).isInfinity = true
      rw [e']
      simp [Datum.isInfinity]
  have hcv : ∀ wx : World, (convert 101 102 (.float .f32 (pat32 b))).run Tryd.prog wx = .ok (.float .f64 (wide b)) wx := fun wx => run_convert_float_float wx 101 102 .f32 .f64 (pat32 b) (wide b) (by kernel_rfl) (by kernel_rfl) hc
  clear hc hr
  go_enter Tryd.func72, Tryd.ntmps72
  go_wp2_with (first | (go_at_call 106; refine (float32_any _ _).mono ?_; rintro e w2 ⟨rfl, rfl⟩))
  go_ret
  exact ⟨rfl, rfl⟩

set_option maxHeartbeats 400000 in
theorem widened_32_nan (b : Int) (hr : FloatKind.f32.format.infRung < rung FloatKind.f32.format (pat32 b)) (w : World) : Calls Tryd.prog 72 #[.int .i64 b, .int .i64 32] w fun e w' => e = .returned (.float .f64 (nanAns .f64 (pat32 b) w)) ∧ Kept w w' := by
  obtain ⟨s, t, hd⟩ := read_nan FloatKind.f32.format (pat32 b) hr hb32
  have hcv : ∀ wx : World, (convert 101 102 (.float .f32 (pat32 b))).run Tryd.prog wx = .ok (.float .f64 (nanAns .f64 (pat32 b) wx)) wx.drew := fun wx => run_convert_nan wx 101 102 .f32 .f64 (pat32 b) (by kernel_rfl) (by kernel_rfl) (by decide) hd
  clear hd hr
  go_enter Tryd.func72, Tryd.ntmps72
  go_wp2_with (first | (go_at_call 106; refine (float32_any _ _).mono ?_; rintro e w2 ⟨rfl, rfl⟩))
  go_ret
  exact ⟨rfl, (Kept.refl _).drew⟩

theorem widened_any (b n : Int) (w : World) : Calls Tryd.prog 72 #[.int .i64 b, .int .i64 n] w fun e w' => ∃ y, e = .returned (.float .f64 y) ∧ Kept w w' ∧ Wd b n y := by
  by_cases h64 : n = 64
  · subst h64
    refine (widened_64 b w).mono ?_
    rintro e w' ⟨rfl, rfl⟩
    refine ⟨_, rfl, Kept.refl _, ?_⟩
    by_cases hc : cls b 64 = 4
    · exact Or.inr ⟨by simp [isnum, hc], (nan_64 b).1 hc⟩
    · exact Or.inl ⟨by simp [isnum, hc], by have := mt (nan_64 b).2 hc; omega, fun _ => rfl, fun h => absurd h (by decide)⟩
  · by_cases h32 : n = 32
    · subst h32
      by_cases hc : cls b 32 = 4
      · refine (widened_32_nan b ((nan_32 b).1 hc) w).mono ?_
        rintro e w' ⟨rfl, hk⟩
        exact ⟨_, rfl, hk, Or.inr ⟨by simp [isnum, hc], nanAns_nan _ _⟩⟩
      · have hr : rung FloatKind.f32.format (pat32 b) ≤ FloatKind.f32.format.infRung := by have := mt (nan_32 b).2 hc; omega
        refine (widened_32_num b hr w).mono ?_
        rintro e w' ⟨rfl, rfl⟩
        exact ⟨_, rfl, Kept.refl _, Or.inl ⟨by simp [isnum, hc], (W_le _ hr).1, fun h => absurd h (by decide), fun _ => rfl⟩⟩
    · refine (widened_0 b n (by simpa using h32) (by simpa using h64) w).mono ?_
      rintro e w' ⟨rfl, rfl⟩
      exact ⟨_, rfl, Kept.refl _, Or.inr ⟨isnum_0 b n h64 h32, by decide +kernel⟩⟩

theorem ret_truth {a b : Bool} (h : a = b) : Ending.returned (.bool a) = .returned (.bool b) := by rw [h]

def lss (a b n : Int) : Bool := isnum a n && isnum b n && decide (keyOf a n < keyOf b n)
def sam (a b n : Int) : Bool := isnum a n && isnum b n && decide (keyOf a n = keyOf b n)

theorem cmp_is_lt (a b : Int) : (some (compare a b) == some Ordering.lt) = decide (a < b) := by
  by_cases h : a < b
  · rw [← cmp_lt h, decide_eq_true h]; rfl
  · by_cases e : a = b
    · rw [← cmp_eq e, decide_eq_false h]; rfl
    · rw [← cmp_gt (by omega), decide_eq_false h]; rfl
theorem cmp_is_eq (a b : Int) : (some (compare a b) == some Ordering.eq) = decide (a = b) := by
  by_cases h : a < b
  · rw [← cmp_lt h, decide_eq_false (by omega)]; rfl
  · by_cases e : a = b
    · rw [← cmp_eq e, decide_eq_true e]; rfl
    · rw [← cmp_gt (by omega), decide_eq_false e]; rfl

end Go.Proofs.YtaoedaojpajbaaaDoor
