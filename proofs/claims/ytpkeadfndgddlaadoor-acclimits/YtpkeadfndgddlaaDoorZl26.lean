/- notFinite: what bits' Convert and Neg answer there; FromInt of 1. -/
import Derived.Test.YtpkeadfndgddlaaDoorZl23
import Derived.Test.YtpkeadfndgddlaaDoorZl25
namespace Go.Proofs.YtpkeadfndgddlaaDoor
open Go.ChangeShapes Go.WideShapes Go.ChangeAt Go.RowKit Ieee
set_option linter.unusedVariables false
set_option linter.unusedSimpArgs false
set_option maxHeartbeats 16000000
set_option maxRecDepth 100000
theorem nanAns32_nan (b : Nat) (w : World) : FloatKind.f32.format.infRung < rung FloatKind.f32.format (nanAns .f32 b w) := by
 unfold nanAns Question.cut rung
 simp only
 rw [inf32, sw32]
 generalize w.tape w.drawn (.nanConv .f32 b) = t
 have h1 : t % 2 < 2 := Nat.mod_lt _ (by decide)
 have h2 : t / 2 % (2 ^ 23 - 1) < 2 ^ 23 - 1 := Nat.mod_lt _ (by decide)
 generalize t % 2 = s at *
 generalize t / 2 % (2 ^ 23 - 1) = u at *
 omega
theorem conv_64 (b c : Int) (hb1 : -9223372036854775808 ≤ b) (hb2 : b ≤ 9223372036854775807) (hc : (if cls b 64 = 4 then 9221120237041090561 else b) = c) (w : World) : Calls Tryd.prog 30 #[.int .i64 b, .int .i64 64, .int .i64 64] w fun e w' => e = .returned (.int .i64 c) ∧ Kept w w' := by
 have KL : Hid (∀ u, Calls Tryd.prog 47 #[.int .i64 64] u fun e w' => e = .returned (.tuple #[.agg #[.int .i64 (-9223372036854775808), .int .i64 9218868437227405312, .int .i64 9221120237041090561, .int .i64 52, .int .i64 (-1074)], .bool true]) ∧ Kept u w') := fun u => layoutOf_64 u
 have KW : Hid (∀ u, Calls Tryd.prog 48 #[.int .i64 b, .int .i64 64] u fun e w' => e = .returned (.float .f64 (pat64 b)) ∧ u = w') := fun u => widened_64 b u
 have KO : Hid (∀ u, Calls Tryd.prog 15 #[.float .f64 (pat64 b)] u fun e w' => e = .returned (.int .i64 c) ∧ u = w') := fun u => by
  have := of64_any (pat64 b) u
  rw [of64_pat b hb1 hb2, hc] at this
  exact this
 clear hc
 generalize pat64 b = p at *
 go_enter Tryd.func30, Tryd.ntmps30
 go_wp2_with (first | (go_at_call 47; refine (KL.out _).mono ?_; rintro e w1 ⟨rfl, k1⟩) | (go_at_call 48; refine (KW.out _).mono ?_; rintro e w2 ⟨rfl, rfl⟩) | (go_at_call 15; refine (KO.out _).mono ?_; rintro e w3 ⟨rfl, rfl⟩))
 go_ret
 exact ⟨rfl, k1.alloc _ _⟩
theorem conv_inf32 (w : World) : Calls Tryd.prog 30 #[.int .i64 9218868437227405312, .int .i64 64, .int .i64 32] w fun e w' => e = .returned (.int .i64 2139095040) ∧ Kept w w' := by
 have KL : Hid (∀ u, Calls Tryd.prog 47 #[.int .i64 64] u fun e w' => e = .returned (.tuple #[.agg #[.int .i64 (-9223372036854775808), .int .i64 9218868437227405312, .int .i64 9221120237041090561, .int .i64 52, .int .i64 (-1074)], .bool true]) ∧ Kept u w') := fun u => layoutOf_64 u
 have KW : Hid (∀ u, Calls Tryd.prog 48 #[.int .i64 9218868437227405312, .int .i64 64] u fun e w' => e = .returned (.float .f64 (pat64 9218868437227405312)) ∧ u = w') := fun u => widened_64 _ u
 have hcv : ∀ wx : World, (convert 44 42 (.float .f64 (pat64 9218868437227405312))).run Tryd.prog wx = .ok (.float .f32 2139095040) wx := fun wx => run_convert_float_float wx 44 42 .f64 .f32 _ _ (by kernel_rfl) (by kernel_rfl) (by decide +kernel)
 have KO : Hid (∀ u, Calls Tryd.prog 14 #[.float .f32 2139095040] u fun e w' => e = .returned (.int .i64 2139095040) ∧ u = w') := fun u => by
  have := of32_any 2139095040 u
  rw [show of32 2139095040 = 2139095040 by decide +kernel] at this
  exact this
 generalize pat64 9218868437227405312 = p at *
 go_enter Tryd.func30, Tryd.ntmps30
 go_wp2_with (first | (go_at_call 47; refine (KL.out _).mono ?_; rintro e w1 ⟨rfl, k1⟩) | (go_at_call 48; refine (KW.out _).mono ?_; rintro e w2 ⟨rfl, rfl⟩) | (go_at_call 14; refine (KO.out _).mono ?_; rintro e w3 ⟨rfl, rfl⟩))
 go_ret
 exact ⟨rfl, k1.alloc _ _⟩
theorem conv_nan32 (w : World) : Calls Tryd.prog 30 #[.int .i64 9221120237041090561, .int .i64 64, .int .i64 32] w fun e w' => e = .returned (.int .i64 2143289345) ∧ Kept w w' := by
 have KL : Hid (∀ u, Calls Tryd.prog 47 #[.int .i64 64] u fun e w' => e = .returned (.tuple #[.agg #[.int .i64 (-9223372036854775808), .int .i64 9218868437227405312, .int .i64 9221120237041090561, .int .i64 52, .int .i64 (-1074)], .bool true]) ∧ Kept u w') := fun u => layoutOf_64 u
 have KW : Hid (∀ u, Calls Tryd.prog 48 #[.int .i64 9221120237041090561, .int .i64 64] u fun e w' => e = .returned (.float .f64 (pat64 9221120237041090561)) ∧ u = w') := fun u => widened_64 _ u
 have hcv : ∀ wx : World, (convert 44 42 (.float .f64 (pat64 9221120237041090561))).run Tryd.prog wx = .ok (.float .f32 (nanAns .f32 (pat64 9221120237041090561) wx)) wx.drew := by
  obtain ⟨s, t, hd⟩ := read_nan FloatKind.f64.format (pat64 9221120237041090561) (by decide +kernel) hb64
  exact fun wx => run_convert_nan wx 44 42 .f64 .f32 _ (by kernel_rfl) (by kernel_rfl) (by decide) hd
 have KO : Hid (∀ u y wx, Calls Tryd.prog 14 #[.float .f32 (nanAns .f32 y wx)] u fun e w' => e = .returned (.int .i64 2143289345) ∧ u = w') := fun u y wx => by
  have := of32_any (nanAns .f32 y wx) u
  unfold of32 at this
  rw [self_32, if_pos (decide_eq_true (nanAns32_nan y wx))] at this
  exact this
 generalize pat64 9221120237041090561 = p at *
 go_enter Tryd.func30, Tryd.ntmps30
 go_wp2_with (first | (go_at_call 47; refine (KL.out _).mono ?_; rintro e w1 ⟨rfl, k1⟩) | (go_at_call 48; refine (KW.out _).mono ?_; rintro e w2 ⟨rfl, rfl⟩) | (go_at_call 14; refine (KO.out _ _ _).mono ?_; rintro e w3 ⟨rfl, rfl⟩))
 go_ret
 exact ⟨rfl, (k1.alloc _ _).drew⟩
/- the three patterns that are not finite -/
def ivn (n : Int) : Int := if n = 64 then 9218868437227405312 else 2139095040
def nvn (n : Int) : Int := if n = 64 then 9221120237041090561 else 2143289345
def gvn (n : Int) : Int := if n = 64 then -4503599627370496 else 4286578688
theorem notFin (n : Int) (hn : n = 64 ∨ n = 32) (ng : Bool) (ao : Option Addr) (l cap : Nat) (x : Int) (p m z : Bool) (w : World) :
  Calls Tryd.prog 17 #[accV ng (.slice ao l cap) x p m z, .int .i64 n] w fun e w' => e = .returned (.tuple #[.int .i64 (nfE (ivn n) (nvn n) (gvn n) p m z).1, .bool (nfE (ivn n) (nvn n) (gvn n) p m z).2]) ∧ Kept w w' := by
 rcases hn with rfl | rfl
 ·refine notFinite_any 64 ng ao l cap x p m z w _ _ _ (fun u => conv_64 _ _ (by decide) (by decide) (by decide +kernel) u) (fun u => conv_64 _ _ (by decide) (by decide) (by decide +kernel) u) (fun u => ?_)
  have := neg_any 9218868437227405312 64 (by decide) (by decide) u
  rw [show ngt 9218868437227405312 64 = gvn 64 by decide +kernel] at this
  exact this
 ·refine notFinite_any 32 ng ao l cap x p m z w _ _ _ (fun u => conv_inf32 u) (fun u => conv_nan32 u) (fun u => ?_)
  have := neg_any 2139095040 32 (by decide) (by decide) u
  rw [show ngt 2139095040 32 = gvn 32 by decide +kernel] at this
  exact this
theorem fromOne_64 (w : World) : Calls Tryd.prog 8 #[.int .i64 1, .int .i64 64] w fun e w' => e = .returned (.int .i64 4607182418800017408) ∧ w = w' := by
 have h1 : floatOfInt .f64 1 = 4607182418800017408 := by decide +kernel
 have HO : Hid (∀ u, Calls Tryd.prog 15 #[.float .f64 4607182418800017408] u fun e w' => e = .returned (.int .i64 4607182418800017408) ∧ u = w') := fun u => by
  have := of64_any 4607182418800017408 u
  rw [show of64 4607182418800017408 = 4607182418800017408 by decide +kernel] at this
  exact this
 go_enter Tryd.func8, Tryd.ntmps8
 go_wp2_with (first | (go_at_call 15; refine (HO.out _).mono ?_; rintro e w1 ⟨rfl, rfl⟩))
 go_ret
 exact ⟨rfl, rfl⟩
end Go.Proofs.YtpkeadfndgddlaaDoor
