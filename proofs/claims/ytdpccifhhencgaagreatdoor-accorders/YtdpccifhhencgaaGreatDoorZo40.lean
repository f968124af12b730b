/- bits' Mul where a factor is infinite or no number. -/
import Derived.Test.YtdpccifhhencgaaGreatDoorZo39
namespace Go.Proofs.YtdpccifhhencgaaGreatDoor
open Go.ChangeShapes Go.WideShapes Go.ChangeAt Go.RowKit Ieee
set_option linter.unusedVariables false
set_option linter.unusedSimpArgs false
set_option maxHeartbeats 16000000
set_option maxRecDepth 100000
theorem read_kd (f : Format) (hb : f.binade ≤ f.infRung) (x : Nat) : (f.infRung < rung f x ∧ ∃ s t, f.read x = .nan s t) ∨ (rung f x = f.infRung ∧ f.read x = .infinity (below f x)) ∨ (rung f x < f.infRung ∧ ∃ m i, f.read x = .number (below f x) m i ∧ (m = 0 ↔ rung f x = 0)) := by
 rcases Nat.lt_trichotomy (rung f x) f.infRung with h | h | h
 ·obtain ⟨m, i, e, -, hv, -⟩ := read_num f x h
  refine .inr (.inr ⟨h, m, i, e, ?_⟩)
  constructor
  ·intro h0
   rw [h0, Nat.zero_mul] at hv
   exact rungVal_inj f (by rw [← hv, rungVal_zero])
  ·intro h0
   rw [h0, rungVal_zero] at hv
   rcases Nat.mul_eq_zero.1 hv with h1 | h1
   ·exact h1
   ·exact absurd h1 (Nat.ne_of_gt (Nat.two_pow_pos _))
 ·exact .inr (.inl ⟨h, read_inf f x h hb⟩)
 ·exact .inl ⟨h, read_nan f x h hb⟩
/- a float's kind, by its rung -/
def kdf (f : Format) (x : Nat) : Nat := if f.infRung < rung f x then 4 else if rung f x = f.infRung then 3 else if rung f x = 0 then 0 else 1
theorem mulF (f : Format) (hb : f.binade ≤ f.infRung) (h0 : 0 < f.infRung) (x y : Nat) (hs : 3 ≤ kdf f x ∨ 3 ≤ kdf f y) : f.mul x y = if kdf f x = 4 ∨ kdf f y = 4 ∨ kdf f x = 0 ∨ kdf f y = 0 then none else some (f.word (below f x ^^ below f y) f.infRung) := by
 unfold kdf at *
 rcases read_kd f hb x with ⟨hx, s, t, ex⟩ | ⟨hx, ex⟩ | ⟨hx, m, i, ex, hm⟩
 ·rw [if_pos hx, if_pos (.inl rfl)]
  unfold Format.mul
  rw [ex]
  rfl
 ·rcases read_kd f hb y with ⟨hy, s', t', ey⟩ | ⟨hy, ey⟩ | ⟨hy, m', i', ey, hm'⟩
  ·rw [if_pos (.inr (.inl (by rw [if_pos hy])))]
   unfold Format.mul
   rw [ex, ey]
   rfl
  ·rw [if_neg (by rw [if_neg (by omega), if_pos hx, if_neg (by omega), if_pos hy]; omega)]
   unfold Format.mul
   rw [ex, ey]
   rfl
  ·by_cases hz : rung f y = 0
   ·rw [if_pos (.inr (.inr (.inr (by rw [if_neg (by omega), if_neg (by omega), if_pos hz]))))]
    unfold Format.mul
    rw [ex, ey, hm'.2 hz]
    rfl
   ·rw [if_neg (by rw [if_neg (by omega), if_pos hx, if_neg (by omega), if_neg (by omega), if_neg hz]; omega)]
    unfold Format.mul
    have hne : m' ≠ 0 := fun g => hz (hm'.1 g)
    rw [ex, ey]
    simp [Datum.product, hne]
    rfl
 ·rcases read_kd f hb y with ⟨hy, s', t', ey⟩ | ⟨hy, ey⟩ | ⟨hy, m', i', ey, hm'⟩
  ·rw [if_pos (.inr (.inl (by rw [if_pos hy])))]
   unfold Format.mul
   rw [ex, ey]
   rfl
  ·by_cases hz : rung f x = 0
   ·rw [if_pos (.inr (.inr (.inl (by rw [if_neg (by omega), if_neg (by omega), if_pos hz]))))]
    unfold Format.mul
    rw [ex, ey, hm.2 hz]
    rfl
   ·rw [if_neg (by rw [if_neg (by omega), if_neg (by omega), if_neg hz, if_neg (by omega), if_pos hy]; omega)]
    unfold Format.mul
    have hne : m ≠ 0 := fun g => hz (hm.1 g)
    rw [ex, ey]
    simp [Datum.product, hne, Bool.xor_comm]
    rfl
  ·exfalso
   rcases hs with h | h
   ·rw [if_neg (by omega), if_neg (by omega)] at h
    split at h <;> omega
   ·rw [if_neg (by omega), if_neg (by omega)] at h
    split at h <;> omega
def mlS (n x y : Int) : Int := if cls x n = 4 ∨ cls y n = 4 ∨ cls x n = 0 ∨ cls y n = 0 then nvn n else if (sgn x n ^^ sgn y n) = true then gvn n else ivn n
theorem kd_64 (b : Int) : ((kdf FloatKind.f64.format (pat64 b) = 4 ↔ cls b 64 = 4) ∧ (kdf FloatKind.f64.format (pat64 b) = 0 ↔ cls b 64 = 0)) ∧ (3 ≤ kdf FloatKind.f64.format (pat64 b) ↔ 3 ≤ cls b 64) := by
 have h := rung_pat64 b
 unfold kdf
 rw [inf64]
 unfold cls clsOf
 rw [if_pos rfl]
 refine ⟨⟨?_, ?_⟩, ?_⟩ <;> (repeat' split) <;> omega
theorem kd_32 (b : Int) (hv : 0 ≤ b ∧ b < 4294967296) : ((kdf FloatKind.f32.format (pat32 b) = 4 ↔ cls b 32 = 4) ∧ (kdf FloatKind.f32.format (pat32 b) = 0 ↔ cls b 32 = 0)) ∧ (3 ≤ kdf FloatKind.f32.format (pat32 b) ↔ 3 ≤ cls b 32) := by
 have h := rung_pat32 b hv
 have e : cls b 32 = clsOf (b % 2147483648) 2139095040 8388608 := by unfold cls; rw [if_neg (by decide), if_pos rfl, if_pos hv]
 rw [e]
 unfold kdf clsOf
 rw [inf32]
 refine ⟨⟨?_, ?_⟩, ?_⟩ <;> (repeat' split) <;> omega
/- what the model answers where a product is no number -/
def nanM (k : FloatKind) (x y : Nat) (w : World) : Nat := Question.cut (.nanBits k x y) (w.tape w.drawn (.nanBits k x y))
theorem run_mul_nan {P : Program} (w : World) (t : TypeId) (k : FloatKind) (x y : Nat) (h : k.format.mul x y = none) : (binOp .mul t (.float k x) (.float k y)).run P w = .ok (.float k (nanM k x y w)) w.drew := by
 simp [binOp, Op.floatArith, h, nanM, go_sem]
theorem nanM_64 (x y : Nat) (w : World) : of64 (nanM .f64 x y w) = 9221120237041090561 := by
 unfold of64
 rw [self_64, if_pos]
 rw [decide_eq_true_eq]
 unfold nanM Question.cut rung
 simp only
 rw [inf64, sw64]
 generalize w.tape w.drawn (.nanBits .f64 x y) = t
 have h1 : t % 2 < 2 := Nat.mod_lt _ (by decide)
 have h2 : t / 2 % (2 ^ 52 - 1) < 2 ^ 52 - 1 := Nat.mod_lt _ (by decide)
 generalize t % 2 = s at *
 generalize t / 2 % (2 ^ 52 - 1) = u at *
 omega
theorem nanM_32 (x y : Nat) (w : World) : of32 (nanM .f32 x y w) = 2143289345 := by
 unfold of32
 rw [self_32, if_pos]
 rw [decide_eq_true_eq]
 unfold nanM Question.cut rung
 simp only
 rw [inf32, sw32]
 generalize w.tape w.drawn (.nanBits .f32 x y) = t
 have h1 : t % 2 < 2 := Nat.mod_lt _ (by decide)
 have h2 : t / 2 % (2 ^ 23 - 1) < 2 ^ 23 - 1 := Nat.mod_lt _ (by decide)
 generalize t % 2 = s at *
 generalize t / 2 % (2 ^ 23 - 1) = u at *
 omega
theorem single_64 (x y : Nat) (v : Int) (hv : FloatKind.f64.format.mul x y = none ∧ v = 9221120237041090561 ∨ ∃ r, FloatKind.f64.format.mul x y = some r ∧ of64 r = v) (w : World) : Calls Tryz.prog 158 #[.int .i64 2, .float .f64 x, .float .f64 y] w fun e w' => ∃ r, e = .returned (.float .f64 r) ∧ of64 r = v ∧ Kept w w' := by
 rcases hv with ⟨h, rfl⟩ | ⟨r, h, hr⟩
 ·have hm : ∀ wx : World, (binOp .mul 122 (.float .f64 x) (.float .f64 y)).run Tryz.prog wx = .ok (.float .f64 (nanM .f64 x y wx)) wx.drew := fun wx => run_mul_nan wx _ .f64 x y h
  go_enter Tryz.func158, Tryz.ntmps158
  go_wp2_with fail
  go_ret
  exact ⟨_, rfl, nanM_64 x y w, (Kept.refl w).drew⟩
 ·have hm : ∀ wx : World, (binOp .mul 122 (.float .f64 x) (.float .f64 y)).run Tryz.prog wx = .ok (.float .f64 r) wx := fun wx => run_float_arith wx .mul _ .f64 x y r h
  go_enter Tryz.func158, Tryz.ntmps158
  go_wp2_with fail
  go_ret
  exact ⟨_, rfl, hr, Kept.refl w⟩
theorem single_32 (x y : Nat) (v : Int) (hv : FloatKind.f32.format.mul x y = none ∧ v = 2143289345 ∨ ∃ r, FloatKind.f32.format.mul x y = some r ∧ of32 r = v) (w : World) : Calls Tryz.prog 156 #[.int .i64 2, .float .f32 x, .float .f32 y] w fun e w' => ∃ r, e = .returned (.float .f32 r) ∧ of32 r = v ∧ Kept w w' := by
 rcases hv with ⟨h, rfl⟩ | ⟨r, h, hr⟩
 ·have hm : ∀ wx : World, (binOp .mul 120 (.float .f32 x) (.float .f32 y)).run Tryz.prog wx = .ok (.float .f32 (nanM .f32 x y wx)) wx.drew := fun wx => run_mul_nan wx _ .f32 x y h
  go_enter Tryz.func156, Tryz.ntmps156
  go_wp2_with fail
  go_ret
  exact ⟨_, rfl, nanM_32 x y w, (Kept.refl w).drew⟩
 ·have hm : ∀ wx : World, (binOp .mul 120 (.float .f32 x) (.float .f32 y)).run Tryz.prog wx = .ok (.float .f32 r) wx := fun wx => run_float_arith wx .mul _ .f32 x y r h
  go_enter Tryz.func156, Tryz.ntmps156
  go_wp2_with fail
  go_ret
  exact ⟨_, rfl, hr, Kept.refl w⟩
theorem mul_64 (x y v : Int) (hv : FloatKind.f64.format.mul (pat64 x) (pat64 y) = none ∧ v = 9221120237041090561 ∨ ∃ r, FloatKind.f64.format.mul (pat64 x) (pat64 y) = some r ∧ of64 r = v) (w : World) : Calls Tryz.prog 67 #[.int .i64 x, .int .i64 y, .int .i64 64] w fun e w' => e = .returned (.int .i64 v) ∧ Kept w w' := by
 have KF : Hid (∀ b u, Calls Tryz.prog 159 #[.int .i64 b] u fun e w' => e = .returned (.float .f64 (pat64 b)) ∧ u = w') := fun b u => float_any b u
 have KS : Hid (∀ u, Calls Tryz.prog 158 #[.int .i64 2, .float .f64 (pat64 x), .float .f64 (pat64 y)] u fun e w' => ∃ r, e = .returned (.float .f64 r) ∧ Hid (of64 r = v) ∧ Kept u w') := fun u => single_64 _ _ v hv u
 have KO : Hid (∀ u r, of64 r = v → Calls Tryz.prog 97 #[.float .f64 r] u fun e w' => e = .returned (.int .i64 v) ∧ u = w') := fun u r h => by
  have := of64_any r u
  rw [h] at this
  exact this
 have KA : Hid (∀ u, Calls Tryz.prog 112 #[.int .i64 2, .int .i64 x, .int .i64 y, .int .i64 64] u fun e w' => e = .returned (.int .i64 v) ∧ Kept u w') := fun u => by
  go_enter Tryz.func112, Tryz.ntmps112
  go_wp2_with (first | (go_at_call 159; refine (KF.out _ _).mono ?_; rintro e w1 ⟨rfl, rfl⟩) | (go_at_call 158; refine (KS.out _).mono ?_; rintro e w2 ⟨r, rfl, hr, k2⟩) | (go_at_call 97; refine (KO.out _ _ hr.out).mono ?_; rintro e w3 ⟨rfl, rfl⟩))
  go_ret
  exact ⟨rfl, k2⟩
 clear hv KF KS KO
 go_enter Tryz.func67, Tryz.ntmps67
 go_wp2_with fail
 refine (KA.out _).mono ?_
 rintro e w1 ⟨rfl, k1⟩
 go_wp2_with fail
 go_ret
 exact ⟨rfl, k1⟩
theorem mul_32 (x y v : Int) (hv : FloatKind.f32.format.mul (pat32 x) (pat32 y) = none ∧ v = 2143289345 ∨ ∃ r, FloatKind.f32.format.mul (pat32 x) (pat32 y) = some r ∧ of32 r = v) (w : World) : Calls Tryz.prog 67 #[.int .i64 x, .int .i64 y, .int .i64 32] w fun e w' => e = .returned (.int .i64 v) ∧ Kept w w' := by
 have KF : Hid (∀ b u, Calls Tryz.prog 157 #[.int .i64 b] u fun e w' => e = .returned (.float .f32 (pat32 b)) ∧ u = w') := fun b u => float32_any b u
 have KS : Hid (∀ u, Calls Tryz.prog 156 #[.int .i64 2, .float .f32 (pat32 x), .float .f32 (pat32 y)] u fun e w' => ∃ r, e = .returned (.float .f32 r) ∧ Hid (of32 r = v) ∧ Kept u w') := fun u => single_32 _ _ v hv u
 have KO : Hid (∀ u r, of32 r = v → Calls Tryz.prog 96 #[.float .f32 r] u fun e w' => e = .returned (.int .i64 v) ∧ u = w') := fun u r h => by
  have := of32_any r u
  rw [h] at this
  exact this
 have KA : Hid (∀ u, Calls Tryz.prog 112 #[.int .i64 2, .int .i64 x, .int .i64 y, .int .i64 32] u fun e w' => e = .returned (.int .i64 v) ∧ Kept u w') := fun u => by
  go_enter Tryz.func112, Tryz.ntmps112
  go_wp2_with (first | (go_at_call 157; refine (KF.out _ _).mono ?_; rintro e w1 ⟨rfl, rfl⟩) | (go_at_call 156; refine (KS.out _).mono ?_; rintro e w2 ⟨r, rfl, hr, k2⟩) | (go_at_call 96; refine (KO.out _ _ hr.out).mono ?_; rintro e w3 ⟨rfl, rfl⟩))
  go_ret
  exact ⟨rfl, k2⟩
 clear hv KF KS KO
 go_enter Tryz.func67, Tryz.ntmps67
 go_wp2_with fail
 refine (KA.out _).mono ?_
 rintro e w1 ⟨rfl, k1⟩
 go_wp2_with fail
 go_ret
 exact ⟨rfl, k1⟩
theorem val_32 (b : Int) (h : val b 32 = true) : 0 ≤ b ∧ b < 4294967296 := by
 unfold val at h
 simp at h
 omega
theorem mul_special (n : Int) (hn : n = 64 ∨ n = 32) (x y : Int) (x1 : -9223372036854775808 ≤ x) (x2 : x ≤ 9223372036854775807) (y1 : -9223372036854775808 ≤ y) (y2 : y ≤ 9223372036854775807) (vx : val x n = true) (vy : val y n = true) (hs : 3 ≤ cls x n ∨ 3 ≤ cls y n) (w : World) : Calls Tryz.prog 67 #[.int .i64 x, .int .i64 y, .int .i64 n] w fun e w' => e = .returned (.int .i64 (mlS n x y)) ∧ Kept w w' := by
 rcases hn with rfl | rfl
 ·refine mul_64 x y _ ?_ w
  obtain ⟨⟨a4, a0⟩, a3⟩ := kd_64 x
  obtain ⟨⟨b4, b0⟩, b3⟩ := kd_64 y
  have h := mulF FloatKind.f64.format hb64 (by decide +kernel) (pat64 x) (pat64 y) (by omega)
  unfold mlS
  by_cases hc : cls x 64 = 4 ∨ cls y 64 = 4 ∨ cls x 64 = 0 ∨ cls y 64 = 0
  ·rw [if_pos (by omega)] at h
   rw [if_pos hc]
   exact .inl ⟨h, rfl⟩
  ·rw [if_neg (by omega)] at h
   rw [if_neg hc]
   refine .inr ⟨_, h, ?_⟩
   rw [below_pat64 x x1 x2, below_pat64 y y1 y2]
   have ex : sgn x 64 = decide (x < 0) := by simp [sgn]
   have ey : sgn y 64 = decide (y < 0) := by simp [sgn]
   rw [ex, ey]
   generalize decide (x < 0) = sx
   generalize decide (y < 0) = sy
   cases sx <;> cases sy <;> decide +kernel
 ·have vx' := val_32 x vx
  have vy' := val_32 y vy
  refine mul_32 x y _ ?_ w
  obtain ⟨⟨a4, a0⟩, a3⟩ := kd_32 x vx'
  obtain ⟨⟨b4, b0⟩, b3⟩ := kd_32 y vy'
  have h := mulF FloatKind.f32.format hb32 (by decide +kernel) (pat32 x) (pat32 y) (by omega)
  unfold mlS
  by_cases hc : cls x 32 = 4 ∨ cls y 32 = 4 ∨ cls x 32 = 0 ∨ cls y 32 = 0
  ·rw [if_pos (by omega)] at h
   rw [if_pos hc]
   exact .inl ⟨h, rfl⟩
  ·rw [if_neg (by omega)] at h
   rw [if_neg hc]
   refine .inr ⟨_, h, ?_⟩
   rw [below_pat32 x vx', below_pat32 y vy']
   have ex : sgn x 32 = decide (2147483648 ≤ x) := by simp [sgn]
   have ey : sgn y 32 = decide (2147483648 ≤ y) := by simp [sgn]
   rw [ex, ey]
   generalize decide (2147483648 ≤ x) = sx
   generalize decide (2147483648 ≤ y) = sy
   cases sx <;> cases sy <;> decide +kernel
end Go.Proofs.YtdpccifhhencgaaGreatDoor
