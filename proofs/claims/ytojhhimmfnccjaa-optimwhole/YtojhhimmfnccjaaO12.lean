/- Package bits: small whole numbers there and back; package optim: the rate and a rule of noughts. -/
import Derived.Test.YtojhhimmfnccjaaO11
import Derived.Test.YtojhhimmfnccjaaO3
namespace Go.Proofs.Ytojhhimmfnccjaa
open Go.ChangeShapes Go.WideShapes Go.ChangeAt Go.RowKit Ieee
set_option linter.unusedVariables false
set_option linter.unusedSimpArgs false

theorem fromInt64 (n : Int) (w : World) : Calls Try.prog 5 #[.int .i64 n, .int .i64 64] w fun e w' => e = .returned (.int .i64 (of64 (floatOfInt .f64 n))) ∧ w = w' := by
  have HO : Hid (∀ q u, Calls Try.prog 10 #[.float .f64 q] u fun e w' => e = .returned (.int .i64 (of64 q)) ∧ u = w') := fun q u => of64_any q u
  generalize hq : floatOfInt .f64 n = q
  go_enter Try.func5, Try.ntmps5
  go_wp2_with (first | (go_at_call 10; refine (HO.out _ _).mono ?_; rintro e w1 ⟨rfl, rfl⟩))
  go_ret
  exact ⟨rfl, rfl⟩
theorem fromInt32 (n : Int) (w : World) : Calls Try.prog 5 #[.int .i64 n, .int .i64 32] w fun e w' => e = .returned (.int .i64 (of32 (floatOfInt .f32 n))) ∧ w = w' := by
  have HO : Hid (∀ q u, Calls Try.prog 9 #[.float .f32 q] u fun e w' => e = .returned (.int .i64 (of32 q)) ∧ u = w') := fun q u => of32_any q u
  generalize hq : floatOfInt .f32 n = q
  go_enter Try.func5, Try.ntmps5
  go_wp2_with (first | (go_at_call 9; refine (HO.out _ _).mono ?_; rintro e w1 ⟨rfl, rfl⟩))
  go_ret
  exact ⟨rfl, rfl⟩
theorem widened32x (b : Int) (x y : Nat) (hb : pat32 b = x) (h : floatToFloatBits .f32 x .f64 = some y) (w : World) : Calls Try.prog 17 #[.int .i64 b, .int .i64 32] w fun e w' => e = .returned (.float .f64 y) ∧ w = w' := by
  have HF : Hid (∀ u, Calls Try.prog 13 #[.int .i64 b] u fun e w' => e = .returned (.float .f32 x) ∧ u = w') := fun u => by have := float32_any b u; rw [hb] at this; exact this
  have HC : ∀ u : World, (convert 39 41 (.float .f32 x)).run Try.prog u = .ok (.float .f64 y) u := fun u => run_convert_float_float u 39 41 .f32 .f64 x y (by kernel_rfl) (by kernel_rfl) h
  clear h hb
  go_enter Try.func17, Try.ntmps17
  go_wp2_with (first | (go_at_call 13; refine (HF.out _).mono ?_; rintro e w1 ⟨rfl, rfl⟩))
  go_ret
  exact ⟨rfl, rfl⟩
theorem rnd_run (x : Nat) (hn : (FloatKind.f64.decode x).isNaN = false) (he : FloatKind.f64.encode ((FloatKind.f64.decode x).integral .even) = x) (w : World) : (callFunc 16 #[.float .f64 x]).run Try.prog w = .ok (.value (.float .f64 x)) w := by
  rw [run_callFunc_extern (fn := Try.f16) (e := Extern.MathFloor.toIntegral "math.RoundToEven" .even) (by kernel_rfl) (by kernel_rfl) (by kernel_rfl) (by kernel_rfl) (by kernel_rfl)]
  have e : Extern.MathFloor.toIntegral "math.RoundToEven" .even #[.float .f64 x] = pure (.float .f64 x) := by
    cases hd : FloatKind.f64.decode x with
    | nan s t => rw [hd] at hn; cases hn
    | number s m i =>
      show (match FloatKind.f64.decode x with | .nan s t => _ | d => (pure (.float .f64 (FloatKind.f64.encode (d.integral .even))) : Sem Value)) = _
      rw [hd] at he ⊢
      simp only
      rw [he]
    | infinity s =>
      show (match FloatKind.f64.decode x with | .nan s t => _ | d => (pure (.float .f64 (FloatKind.f64.encode (d.integral .even))) : Sem Value)) = _
      rw [hd] at he ⊢
      simp only
      rw [he]
  rw [e]
  rfl
set_option maxHeartbeats 4000000 in
set_option maxRecDepth 100000 in
theorem toInt_walk (b n z : Int) (x : Nat) (hn : (FloatKind.f64.decode x).isNaN = false) (he : FloatKind.f64.encode ((FloatKind.f64.decode x).integral .even) = x) (h1 : FloatKind.f64.format.order x 14114281232179134464 = some .gt) (h2 : FloatKind.f64.format.order x 4890909195324358656 = some .lt) (hz : floatToIntVal .f64 x .i64 = some z)
    (KW : Hid (∀ u, Calls Try.prog 17 #[.int .i64 b, .int .i64 n] u fun e w' => e = .returned (.float .f64 x) ∧ u = w')) (w : World) : Calls Try.prog 7 #[.int .i64 b, .int .i64 n] w fun e w' => e = .returned (.tuple #[.int .i64 z, .bool true]) ∧ w = w' := by
  have HR := rnd_run x hn he
  have HC : ∀ u : World, (convert 41 3 (.float .f64 x)).run Try.prog u = .ok (.int .i64 z) u := fun u => run_convert_float_int (P := Try.prog) (w := u) 41 3 .f64 .i64 x z (by kernel_rfl) (by kernel_rfl) hz
  clear hn he hz
  go_enter Try.func7, Try.ntmps7
  go_wp2_with (first | (go_at_call 17; refine (KW.out _).mono ?_; rintro e w1 ⟨rfl, rfl⟩))
  exact bodyPost_ret (v := .tuple #[.int .i64 z, .bool true]) (by simp [results, Try.results7, go_sem]) rfl ⟨rfl, rfl⟩
theorem gr64_facts (z : Int) (h : z.natAbs < 2000) : FloatKind.f64.format.order (floatOfInt .f64 z) (floatOfInt .f64 z) = some .eq ∧ (FloatKind.f64.format.order (bits .andNot .u64 (floatOfInt .f64 z : Int) 9223372036854775808).toNat 9218868437227405311 == some .gt) = false ∧ floatToIntVal .f64 (floatOfInt .f64 z) .i64 = some z ∧ FloatKind.f64.encode ((FloatKind.f64.decode (floatOfInt .f64 z)).integral .even) = floatOfInt .f64 z ∧ FloatKind.f64.format.order (floatOfInt .f64 z) 14114281232179134464 = some .gt ∧ FloatKind.f64.format.order (floatOfInt .f64 z) 4890909195324358656 = some .lt ∧ (FloatKind.f64.decode (floatOfInt .f64 z)).isNaN = false := by
  have := (gr_all z h).1
  unfold gr64 at this
  simp only [Bool.and_eq_true, beq_iff_eq, Bool.not_eq_true'] at this
  obtain ⟨⟨⟨⟨⟨⟨a1, a2⟩, a3⟩, a4⟩, a5⟩, a6⟩, a7⟩ := this
  exact ⟨a1, a2, a3, a4, a5, a6, a7⟩
theorem gr32_facts (z : Int) (h : z.natAbs < 2000) : FloatKind.f32.format.order (floatOfInt .f32 z) (floatOfInt .f32 z) = some .eq ∧ floatToFloatBits .f32 (floatOfInt .f32 z) .f64 = some (floatOfInt .f64 z) := by
  have := (gr_all z h).2
  unfold gr32 at this
  simp only [Bool.and_eq_true, beq_iff_eq] at this
  exact this
theorem toInt64 (z : Int) (h : z.natAbs < 2000) (w : World) : Calls Try.prog 7 #[.int .i64 (of64 (floatOfInt .f64 z)), .int .i64 64] w fun e w' => e = .returned (.tuple #[.int .i64 z, .bool true]) ∧ w = w' := by
  obtain ⟨a1, a2, a3, a4, a5, a6, a7⟩ := gr64_facts z h
  exact toInt_walk _ 64 z _ a7 a4 a5 a6 a3 (fun u => by have := widened_64 (of64 (floatOfInt .f64 z)) u; rw [(gw64 z (by omega)).1] at this; exact this) w
theorem toInt32 (z : Int) (h : z.natAbs < 2000) (w : World) : Calls Try.prog 7 #[.int .i64 (of32 (floatOfInt .f32 z)), .int .i64 32] w fun e w' => e = .returned (.tuple #[.int .i64 z, .bool true]) ∧ w = w' := by
  obtain ⟨a1, a2, a3, a4, a5, a6, a7⟩ := gr64_facts z h
  exact toInt_walk _ 32 z _ a7 a4 a5 a6 a3 (fun u => widened32x _ _ _ (gw32 z (by omega)).1 (gr32_facts z h).2 u) w
/-- a rate that is a power of two, narrowed -/
theorem convert32x (b : Int) (x y : Nat) (hb : pat64 b = x) (h : floatToFloatBits .f64 x .f32 = some y) (w : World) : Calls Try.prog 42 #[.int .i64 b, .int .i64 64, .int .i64 32] w fun e w' => e = .returned (.int .i64 (of32 y)) ∧ Kept w w' := by
  have KL : Hid (∀ u, Calls Try.prog 66 #[.int .i64 64] u fun e w' => e = .returned (.tuple #[.agg #[.int .i64 (-9223372036854775808), .int .i64 9218868437227405312, .int .i64 9221120237041090561, .int .i64 52, .int .i64 (-1074)], .bool true]) ∧ Kept u w') := fun u => layoutOf_64 u
  have KW : Hid (∀ u, Calls Try.prog 17 #[.int .i64 b, .int .i64 64] u fun e w' => e = .returned (.float .f64 x) ∧ u = w') := fun u => by have := widened_64 b u; rw [hb] at this; exact this
  have HC : ∀ u : World, (convert 41 39 (.float .f64 x)).run Try.prog u = .ok (.float .f32 y) u := fun u => run_convert_float_float u 41 39 .f64 .f32 x y (by kernel_rfl) (by kernel_rfl) h
  have KO : Hid (∀ u, Calls Try.prog 9 #[.float .f32 y] u fun e w' => e = .returned (.int .i64 (of32 y)) ∧ u = w') := fun u => of32_any y u
  clear h hb
  go_enter Try.func42, Try.ntmps42
  go_wp2_with (first | (go_at_call 66; refine (KL.out _).mono ?_; rintro e w1 ⟨rfl, k1⟩) | (go_at_call 17; refine (KW.out _).mono ?_; rintro e w2 ⟨rfl, rfl⟩) | (go_at_call 9; refine (KO.out _).mono ?_; rintro e w3 ⟨rfl, rfl⟩))
  go_ret
  exact ⟨rfl, k1.alloc _ _⟩
/-- the rate 2^-s as a pattern of each width -/
def rt (n : Int) (s : Nat) : Int := if n = 64 then (((1023 - s) * 4503599627370496 : Nat) : Int) else (((127 - s) * 8388608 : Nat) : Int)
theorem size_r64 (s : Nat) (hs : s < 9) (w : World) : Calls Try.prog 21 #[.int .i64 (rt 64 s), .int .i64 64] w fun e w' => e = .returned (.tuple #[.int .i64 (rt 64 s), .bool true]) ∧ Kept w w' := by
  have h : ∀ s : Nat, s < 9 → (-9223372036854775808 ≤ rt 64 s ∧ rt 64 s ≤ 9223372036854775807) ∧ can (cln (rt 64 s) 64) 64 = rt 64 s ∧ (decide (cls (can (cln (rt 64 s) 64) 64) 64 < 3) && !(lss (rt 64 s) 0 64)) = true := by decide +kernel
  obtain ⟨⟨h1, h2⟩, h3, h4⟩ := h s hs
  have := size_64 (rt 64 s) h1 h2 w
  rw [h4, h3] at this
  exact this
theorem size_r32 (s : Nat) (hs : s < 9) (w : World) : Calls Try.prog 21 #[.int .i64 (rt 64 s), .int .i64 32] w fun e w' => e = .returned (.tuple #[.int .i64 (rt 32 s), .bool true]) ∧ Kept w w' := by
  have h : ∀ s : Nat, s < 9 → (-9223372036854775808 ≤ rt 64 s ∧ rt 64 s ≤ 9223372036854775807) ∧ floatToFloatBits .f64 (pat64 (rt 64 s)) .f32 = some ((127 - s) * 8388608) ∧ of32 ((127 - s) * 8388608) = rt 32 s ∧ can (rt 32 s) 32 = rt 32 s ∧ (decide (cls (rt 32 s) 32 < 3) && !(lss (rt 64 s) 0 64)) = true := by decide +kernel
  obtain ⟨⟨h1, h2⟩, h3, h4, h5, h6⟩ := h s hs
  have := size_walk (rt 64 s) 32 (rt 32 s) (rt 32 s) (cls (rt 32 s) 32) (lss (rt 64 s) 0 64) w (fun u => by have := convert32x (rt 64 s) _ _ rfl h3 u; rw [h4] at this; exact this) (fun u => by have := canon_any (rt 32 s) 32 u; rw [h5] at this; exact this) (fun u => class_any _ _ u) (fun u => less_any _ 0 64 h1 h2 (by decide) (by decide) u)
  rw [h6] at this
  exact this
theorem size_0 (n : Int) (hn : n = 64 ∨ n = 32) (w : World) : Calls Try.prog 21 #[.int .i64 0, .int .i64 n] w fun e w' => e = .returned (.tuple #[.int .i64 0, .bool true]) ∧ Kept w w' := by
  rcases hn with rfl | rfl
  · have := size_64 0 (by decide) (by decide) w
    rw [show can (cln 0 64) 64 = 0 by decide +kernel, show (decide (cls 0 64 < 3) && !(lss 0 0 64)) = true by decide +kernel] at this
    exact this
  · have := size_walk 0 32 0 0 (cls 0 32) (lss 0 0 64) w (fun u => by have := convert32x 0 0 0 (by decide +kernel) (by decide +kernel) u; rw [show of32 0 = 0 by decide +kernel] at this; exact this) (fun u => by have := canon_any 0 32 u; rw [show can 0 32 = 0 by decide +kernel] at this; exact this) (fun u => class_any _ _ u) (fun u => less_any _ 0 64 (by decide) (by decide) (by decide) (by decide) u)
    rw [show (decide (cls 0 32 < 3) && !(lss 0 0 64)) = true by decide +kernel] at this
    exact this
theorem check_z (n : Int) (hn : n = 64 ∨ n = 32) (w : World) : Calls Try.prog 40 #[z7, .int .i64 n] w fun e w' => e = .returned (.int .i64 0) ∧ Kept w w' := by
  refine check_0 n hn w (fun u => ?_)
  rcases hn with rfl | rfl
  · refine checkNumbers_0 64 4607182418800017408 (.inl rfl) u (fun m v hm => size_0 m hm v) (fun v => ?_) (fun v => ?_)
    · refine (fromInt64 1 v).mono ?_
      rintro e w' ⟨rfl, rfl⟩
      exact ⟨by rw [show of64 (floatOfInt .f64 1) = 4607182418800017408 by decide +kernel], Kept.refl _⟩
    · have := less_any 0 4607182418800017408 64 (by decide) (by decide) (by decide) (by decide) v
      rw [show lss 0 4607182418800017408 64 = true by decide +kernel] at this
      exact this
  · refine checkNumbers_0 32 1065353216 (.inr rfl) u (fun m v hm => size_0 m hm v) (fun v => ?_) (fun v => ?_)
    · refine (fromInt32 1 v).mono ?_
      rintro e w' ⟨rfl, rfl⟩
      exact ⟨by rw [show of32 (floatOfInt .f32 1) = 1065353216 by decide +kernel], Kept.refl _⟩
    · have := less_any 0 1065353216 32 (by decide) (by decide) (by decide) (by decide) v
      rw [show lss 0 1065353216 32 = true by decide +kernel] at this
      exact this
theorem stp_all (n : Int) (L : List Int) (h : ∀ i, i < L.length → cls (L.getD i 0) n < 3) : stp n L 0 = (0, 0) := by
  have key : ∀ d k, d + k = L.length → stp n (L.drop k) k = (0, 0) := by
    intro d
    induction d with
    | zero => intro k hk; rw [Nat.zero_add] at hk; rw [hk]; exact stp_end n L
    | succ d ih =>
      intro k hk
      rw [stp_fin n L k (by omega) (h k (by omega))]
      exact ih (k + 1) (by omega)
  have := key L.length 0 (by omega)
  simpa using this
theorem ckM_all (l : Nat) (n : Int) (hn : n = 64 ∨ n = 32) (h1 : 1 ≤ l) (h2 : l ≤ 4096) (L : List Int) (hL : L.length = l) (hv : ∀ i, i < L.length → val (L.getD i 0) n = true) : ckM ((1 : Nat) : Int) (l : Int) n L = 0 := by
  have hs : ckS ((1 : Nat) : Int) (l : Int) n = 0 := ckS_one hn (by omega) (by omega) (by omega)
  unfold ckM
  rw [if_neg (fun k => k hs), if_neg (by omega), if_pos]
  rw [List.all_eq_true]
  intro x hx
  obtain ⟨i, hi, rfl⟩ := List.getElem_of_mem hx
  have := hv i hi
  rw [List.getD_eq_getElem?_getD, List.getElem?_eq_getElem hi] at this
  simpa using this
end Go.Proofs.Ytojhhimmfnccjaa
