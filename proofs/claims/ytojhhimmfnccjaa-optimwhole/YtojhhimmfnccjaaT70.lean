/- A binary32 widened, and back: package bits' Convert. -/
import Derived.Test.YtojhhimmfnccjaaT0
namespace Go.Proofs.Ytojhhimmfnccjaa
open Go.ChangeShapes Go.WideShapes Go.ChangeAt Go.RowKit Ieee
set_option linter.unusedVariables false
set_option linter.unusedSimpArgs false

theorem word_lt64 (s : Bool) (r : Nat) (h : r < 9223372036854775808) : FloatKind.f64.format.word s r < 18446744073709551616 := by
  unfold Format.word
  rw [sw64]
  cases s <;> simp <;> omega
theorem W_lt64 (x : Nat) (h : rung FloatKind.f32.format x ≤ FloatKind.f32.format.infRung) : W x < 18446744073709551616 := by
  have hi := inf_lt64
  rw [sw64] at hi
  by_cases e : rung FloatKind.f32.format x = FloatKind.f32.format.infRung
  · have := (wide_inf x e).2
    unfold W
    rw [this]
    exact word_lt64 _ _ hi
  · obtain ⟨r, e1, h1, -⟩ := wide_num x (by omega)
    unfold W
    rw [e1]
    exact word_lt64 _ _ (by omega)
theorem pat64_wrap (x : Nat) (h : x < 18446744073709551616) : pat64 (wrap64 x) = x := by
  have h1 := pat64_eq (wrap64 x)
  unfold wrap64 at h1 ⊢
  omega
/-- A binary32's pattern, widened. -/
def cvw (b : Int) : Int := if cls b 32 = 4 then 9221120237041090561 else wrap64 (wide b)
theorem cvw_rng (b : Int) : -9223372036854775808 ≤ cvw b ∧ cvw b ≤ 9223372036854775807 := by
  unfold cvw wrap64
  split <;> omega
theorem of64_nan (y : Nat) (h : FloatKind.f64.format.infRung < rung FloatKind.f64.format y) : of64 y = 9221120237041090561 := by
  unfold of64
  rw [self_64, if_pos (decide_eq_true h)]
theorem of64_num (y : Nat) (h : rung FloatKind.f64.format y ≤ FloatKind.f64.format.infRung) : of64 y = wrap64 y := by
  unfold of64
  rw [self_64, if_neg (by simp; omega)]
theorem cvw_pat (b : Int) (hc : cls b 32 ≠ 4) : pat64 (cvw b) = wide b ∧ rung FloatKind.f64.format (wide b) ≤ FloatKind.f64.format.infRung := by
  have hr : rung FloatKind.f32.format (pat32 b) ≤ FloatKind.f32.format.infRung := by have := mt (nan_32 b).2 hc; omega
  unfold cvw
  rw [if_neg hc]
  exact ⟨pat64_wrap _ (W_lt64 (pat32 b) hr), (W_le (pat32 b) hr).1⟩
theorem cvw_cln (b : Int) : cln (cvw b) 64 = cvw b := by
  unfold cln
  by_cases hc : cls b 32 = 4
  · have : cvw b = 9221120237041090561 := by unfold cvw; rw [if_pos hc]
    rw [this]
    split <;> simp
  · obtain ⟨h1, h2⟩ := cvw_pat b hc
    rw [if_neg]
    intro h
    have := (nan_64 (cvw b)).1 h
    rw [h1] at this
    omega

set_option maxHeartbeats 1000000 in
set_option maxRecDepth 100000 in
theorem convert_3264 (b : Int) (w : World) : Calls Try.prog 42 #[.int .i64 b, .int .i64 32, .int .i64 64] w fun e w' => e = .returned (.int .i64 (cvw b)) ∧ Kept w w' := by
  have KL : Hid (∀ u, Calls Try.prog 66 #[.int .i64 32] u fun e w' => e = .returned (.tuple #[.agg #[.int .i64 2147483648, .int .i64 2139095040, .int .i64 2143289345, .int .i64 23, .int .i64 (-149)], .bool true]) ∧ Kept u w') := fun u => layoutOf_32 u
  have KW : Hid (∀ u, Calls Try.prog 17 #[.int .i64 b, .int .i64 32] u fun e w' => ∃ y, e = .returned (.float .f64 y) ∧ Kept u w' ∧ of64 y = cvw b) := fun u => by
    refine (widened_any b 32 u).mono ?_
    rintro e w' ⟨y, rfl, k, hw | hw⟩
    · refine ⟨y, rfl, k, ?_⟩
      have hc : cls b 32 ≠ 4 := fun h => by have := hw.1; simp [isnum, h] at this
      obtain ⟨h1, h2⟩ := cvw_pat b hc
      rw [hw.2.2.2 rfl, of64_num _ h2]
      unfold cvw
      rw [if_neg hc]
    · refine ⟨y, rfl, k, ?_⟩
      have hc : cls b 32 = 4 := Classical.not_not.1 (fun h => by have := hw.1; simp [isnum, h] at this)
      rw [of64_nan y hw.2]
      unfold cvw
      rw [if_pos hc]
  have KO : Hid (∀ u y, of64 y = cvw b → Calls Try.prog 10 #[.float .f64 y] u fun e w' => e = .returned (.int .i64 (cvw b)) ∧ u = w') := fun u y hy => by
    have := of64_any y u
    rw [hy] at this
    exact this
  generalize cvw b = c at *
  go_enter Try.func42, Try.ntmps42
  go_wp2_with (first | (go_at_call 66; refine (KL.out _).mono ?_; rintro e w1 ⟨rfl, k1⟩) | (go_at_call 17; refine (KW.out _).mono ?_; rintro e w2 ⟨y, rfl, k2, hy⟩) | (go_at_call 10; refine (KO.out _ _ hy).mono ?_; rintro e w3 ⟨rfl, rfl⟩))
  go_ret
  exact ⟨rfl, (k1.alloc _ _).trans k2⟩

set_option maxHeartbeats 1000000 in
set_option maxRecDepth 100000 in
theorem convert_6432 (b : Int) (w : World) : Calls Try.prog 42 #[.int .i64 (cvw b), .int .i64 64, .int .i64 32] w fun e w' => e = .returned (.int .i64 (cln b 32)) ∧ Kept w w' := by
  have KL : Hid (∀ u, Calls Try.prog 66 #[.int .i64 64] u fun e w' => e = .returned (.tuple #[.agg #[.int .i64 (-9223372036854775808), .int .i64 9218868437227405312, .int .i64 9221120237041090561, .int .i64 52, .int .i64 (-1074)], .bool true]) ∧ Kept u w') := fun u => layoutOf_64 u
  have KW : Hid (∀ u, Calls Try.prog 17 #[.int .i64 (cvw b), .int .i64 64] u fun e w' => e = .returned (.float .f64 (pat64 (cvw b))) ∧ u = w') := fun u => widened_64 (cvw b) u
  by_cases hc : cls b 32 = 4
  · have hcl : cln b 32 = 2143289345 := by unfold cln; rw [if_pos hc, if_neg (by decide)]
    have hcv : cvw b = 9221120237041090561 := by unfold cvw; rw [if_pos hc]
    rw [hcl]
    have hn : FloatKind.f64.format.infRung < rung FloatKind.f64.format (pat64 (cvw b)) := (nan_64 (cvw b)).1 (by rw [hcv]; decide +kernel)
    have hcr : ∀ wx : World, (convert 41 39 (.float .f64 (pat64 (cvw b)))).run Try.prog wx = .ok (.float .f32 (nanAns .f32 (pat64 (cvw b)) wx)) wx.drew := fun wx => by
      obtain ⟨s, t, hd⟩ := read_nan FloatKind.f64.format (pat64 (cvw b)) hn hb64
      exact run_convert_nan wx 41 39 .f64 .f32 (pat64 (cvw b)) (by kernel_rfl) (by kernel_rfl) (by decide) hd
    have KO : Hid (∀ u y wx, Calls Try.prog 9 #[.float .f32 (nanAns .f32 y wx)] u fun e w' => e = .returned (.int .i64 2143289345) ∧ u = w') := fun u y wx => by
      have := of32_any (nanAns .f32 y wx) u
      unfold of32 at this
      rw [self_32, if_pos (decide_eq_true (nanAns32_nan y wx))] at this
      exact this
    clear hc hcl hcv hn
    generalize cvw b = c at *
    generalize pat64 c = p at *
    go_enter Try.func42, Try.ntmps42
    go_wp2_with (first | (go_at_call 66; refine (KL.out _).mono ?_; rintro e w1 ⟨rfl, k1⟩) | (go_at_call 17; refine (KW.out _).mono ?_; rintro e w2 ⟨rfl, rfl⟩) | (go_at_call 9; refine (KO.out _ _ _).mono ?_; rintro e w3 ⟨rfl, rfl⟩))
    go_ret
    exact ⟨rfl, (k1.alloc _ _).drew⟩
  · have hcl : cln b 32 = b := by unfold cln; rw [if_neg hc]
    have hr : rung FloatKind.f32.format (pat32 b) ≤ FloatKind.f32.format.infRung := by have := mt (nan_32 b).2 hc; omega
    have hcr : ∀ wx : World, (convert 41 39 (.float .f64 (wide b))).run Try.prog wx = .ok (.float .f32 (pat32 b)) wx := fun wx => run_convert_float_float wx 41 39 .f64 .f32 (wide b) (pat32 b) (by kernel_rfl) (by kernel_rfl) (narrow_bits (pat32 b) (pat32_lt b) hr)
    have KO : Hid (∀ u, Calls Try.prog 9 #[.float .f32 (pat32 b)] u fun e w' => e = .returned (.int .i64 b) ∧ u = w') := fun u => by
      have := of32_any (pat32 b) u
      rw [of32_pat, if_neg hc] at this
      exact this
    rw [(cvw_pat b hc).1] at KW
    rw [hcl]
    clear hc hcl hr
    generalize cvw b = c at *
    generalize pat32 b = p at *
    generalize wide b = q at *
    go_enter Try.func42, Try.ntmps42
    go_wp2_with (first | (go_at_call 66; refine (KL.out _).mono ?_; rintro e w1 ⟨rfl, k1⟩) | (go_at_call 17; refine (KW.out _).mono ?_; rintro e w2 ⟨rfl, rfl⟩) | (go_at_call 9; refine (KO.out _).mono ?_; rintro e w3 ⟨rfl, rfl⟩))
    go_ret
    exact ⟨rfl, k1.alloc _ _⟩
end Go.Proofs.Ytojhhimmfnccjaa
