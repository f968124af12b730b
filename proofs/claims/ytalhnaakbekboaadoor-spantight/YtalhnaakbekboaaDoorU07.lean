/- Package span: floats of patterns and back, the tests of infinity and of no number. -/
import Derived.Test.YtalhnaakbekboaaDoorU06
namespace Go.Proofs.YtalhnaakbekboaaDoor
open Go.ChangeShapes Go.WideShapes Go.ChangeAt Go.RowKit Ieee
set_option linter.unusedVariables false
set_option linter.unusedSimpArgs false

/-- what span's float tells of any int and any width -/
def flv (b n : Int) : Nat := if isnum b n = true then fl b n else if n = 64 ∨ n = 32 then 9221120237041090561 else 0
def cv64 (b n : Int) : Int := if n = 64 then cln b 64 else if n = 32 then cvw b else 0

set_option maxHeartbeats 400000 in
theorem convert_0 (b n m : Int) (h1 : (n == 32) = false) (h2 : (n == 64) = false) (w : World) : Calls Tryd.prog 82 #[.int .i64 b, .int .i64 n, .int .i64 m] w fun e w' => e = .returned (.int .i64 0) ∧ Kept w w' := by
  have KL : Hid (∀ u, Calls Tryd.prog 43 #[.int .i64 n] u fun e w' => e = .returned (.tuple #[.agg #[.int .i64 0, .int .i64 0, .int .i64 0, .int .i64 0, .int .i64 0], .bool false]) ∧ Kept u w') := fun u => layoutOf_0 n h1 h2 u
  go_enter Tryd.func82, Tryd.ntmps82
  go_wp2_with (first | (go_at_call 43; refine (KL.out _).mono ?_; rintro e w1 ⟨rfl, k1⟩))
  go_ret
  exact ⟨rfl, k1.alloc _ _⟩
theorem conv_to64 (b n : Int) (hb1 : -9223372036854775808 ≤ b) (hb2 : b ≤ 9223372036854775807) (w : World) : Calls Tryd.prog 82 #[.int .i64 b, .int .i64 n, .int .i64 64] w fun e w' => e = .returned (.int .i64 (cv64 b n)) ∧ Kept w w' := by
  unfold cv64
  by_cases h64 : n = 64
  · subst h64
    rw [if_pos rfl]
    exact convert_6464 b hb1 hb2 w
  · by_cases h32 : n = 32
    · subst h32
      rw [if_neg (by decide), if_pos rfl]
      exact convert_3264 b w
    · rw [if_neg h64, if_neg h32]
      exact convert_0 b n 64 (by simpa using h32) (by simpa using h64) w
theorem cv64_flv (b n : Int) : pat64 (cv64 b n) = flv b n := by
  unfold cv64 flv fl
  by_cases h64 : n = 64
  · subst h64
    rw [if_pos rfl, isnum_64]
    by_cases hc : cls b 64 = 4
    · rw [if_neg (by simp [hc]), if_pos (.inl rfl)]
      unfold cln
      rw [if_pos hc, if_pos rfl]
      decide
    · rw [if_pos (by simp [hc]), if_pos rfl]
      unfold cln
      rw [if_neg hc]
  · by_cases h32 : n = 32
    · subst h32
      rw [if_neg (by decide), if_pos rfl, isnum_32]
      by_cases hc : cls b 32 = 4
      · rw [if_neg (by simp [hc]), if_pos (.inr rfl)]
        unfold cvw
        rw [if_pos hc]
        decide
      · rw [if_pos (by simp [hc]), if_neg (by decide)]
        exact (cvw_pat b hc).1
    · rw [if_neg h64, if_neg h32, if_neg (by simp [isnum_0 b n h64 h32]), if_neg (by simp [h64, h32])]
      decide
set_option maxHeartbeats 400000 in
theorem sfloat_any (b n : Int) (hb1 : -9223372036854775808 ≤ b) (hb2 : b ≤ 9223372036854775807) (w : World) : Calls Tryd.prog 68 #[.int .i64 b, .int .i64 n] w fun e w' => e = .returned (.float .f64 (flv b n)) ∧ Kept w w' := by
  have KC : Hid (∀ u, Calls Tryd.prog 82 #[.int .i64 b, .int .i64 n, .int .i64 64] u fun e w' => e = .returned (.int .i64 (cv64 b n)) ∧ Kept u w') := fun u => conv_to64 b n hb1 hb2 u
  have KF : Hid (∀ u, Calls Tryd.prog 75 #[.int .i64 (cv64 b n)] u fun e w' => e = .returned (.float .f64 (flv b n)) ∧ u = w') := fun u => by
    rw [← cv64_flv]
    exact float_any (cv64 b n) u
  generalize cv64 b n = c at *
  generalize flv b n = x at *
  go_enter Tryd.func68, Tryd.ntmps68
  go_wp2_with (first | (go_at_call 82; refine (KC.out _).mono ?_; rintro e w1 ⟨rfl, k1⟩) | (go_at_call 75; refine (KF.out _).mono ?_; rintro e w2 ⟨rfl, rfl⟩))
  go_ret
  exact ⟨rfl, k1⟩
theorem Fl.flv {b n : Int} (h : isnum b n = true) (h1 : -9223372036854775808 ≤ b) (h2 : b ≤ 9223372036854775807) : Fl n (flv b n) (keyOf b n) := by
  unfold Go.Proofs.YtalhnaakbekboaaDoor.flv
  rw [if_pos h]
  exact Fl.of b n h h1 h2
set_option maxHeartbeats 400000 in
theorem pattern_any {n : Int} {x : Nat} {k : Int} (h : Fl n x k) (w : World) : Calls Tryd.prog 61 #[.float .f64 x, .int .i64 n] w fun e w' => e = .returned (.int .i64 (pz n k)) ∧ Kept w w' := by
  have hh := h
  obtain ⟨q, -, -, o1, o2, o3, o4, o5, o6⟩ := hh.wide
  obtain ⟨b, b1, b2, rfl, rfl⟩ := h
  have KO : Hid (∀ u, Calls Tryd.prog 83 #[.float .f64 (fl b n)] u fun e w' => e = .returned (.int .i64 (of64 (fl b n))) ∧ u = w') := fun u => of64_any _ u
  have KC : Hid (∀ u, Calls Tryd.prog 82 #[.int .i64 (of64 (fl b n)), .int .i64 64, .int .i64 n] u fun e w' => e = .returned (.int .i64 b) ∧ Kept u w') := fun u => by
    rcases isnum_inv b n b1 with ⟨rfl, c⟩ | ⟨rfl, c⟩
    · have e : of64 (fl b 64) = b := by
        have := of64_pat b b2.1 b2.2
        rw [if_neg c] at this
        simpa [fl] using this
      have hc : cln b 64 = b := by unfold cln; rw [if_neg c]
      have := convert_6464 b b2.1 b2.2 u
      rw [hc] at this
      rw [e]
      exact this
    · have e : of64 (fl b 32) = cvw b := by
        rw [o1]
        unfold cvw
        rw [if_neg c]
        simp [fl]
      have hc : cln b 32 = b := by unfold cln; rw [if_neg c]
      have := convert_6432 b u
      rw [hc] at this
      rw [e]
      exact this
  have KN : Hid (∀ u, Calls Tryd.prog 37 #[.int .i64 b, .int .i64 n] u fun e w' => e = .returned (.int .i64 (pz n (keyOf b n))) ∧ Kept u w') := fun u => by
    rw [← can_pz b n b1 b2.1 b2.2]
    exact canon_any b n u
  clear o1 o2 o3 o4 o5 o6 hh
  generalize of64 (fl b n) = c at *
  generalize fl b n = x at *
  generalize pz n (keyOf b n) = d at *
  go_enter Tryd.func61, Tryd.ntmps61
  go_wp2_with (first | (go_at_call 83; refine (KO.out _).mono ?_; rintro e w1 ⟨rfl, rfl⟩) | (go_at_call 82; refine (KC.out _).mono ?_; rintro e w2 ⟨rfl, k2⟩) | (go_at_call 37; refine (KN.out _).mono ?_; rintro e w3 ⟨rfl, k3⟩))
  go_ret
  exact ⟨rfl, k2.trans k3⟩
/- infinity -/
theorem gt_max (x : Nat) (h : rung FloatKind.f64.format x ≤ FloatKind.f64.format.infRung) : (FloatKind.f64.format.order x 9218868437227405311 == some .gt) = decide (key FloatKind.f64.format x = (ifn 64 : Int)) := by
  have hm : rung FloatKind.f64.format 9218868437227405311 ≤ FloatKind.f64.format.infRung := by decide +kernel
  have hk : key FloatKind.f64.format 9218868437227405311 = 9218868437227405311 := by decide +kernel
  rw [order_num _ _ _ hb64 h hm, hk, cmp_is_gt]
  have hi : (ifn 64 : Int) = 9218868437227405312 := by decide
  rw [hi]
  rw [inf64] at h
  have : key FloatKind.f64.format x ≤ 9218868437227405312 := by unfold key; split <;> omega
  rw [Bool.eq_iff_iff, decide_eq_true_eq, decide_eq_true_eq]
  omega
theorem Fl.gt {n : Int} {x : Nat} {k : Int} (h : Fl n x k) : (FloatKind.f64.format.order x 9218868437227405311 == some .gt) = decide (k = (ifn n : Int)) := by
  obtain ⟨q, hq, hK, o1, o2, o3, o4, o5, o6⟩ := h.wide
  rw [gt_max x h.le, Bool.eq_iff_iff, decide_eq_true_eq, decide_eq_true_eq, hK.top]
  rw [← o3, ← key_64 _ o4 o5, o6]
set_option maxHeartbeats 400000 in
theorem isInf_up {n : Int} {x : Nat} {k : Int} (h : Fl n x k) (w : World) : Calls Tryd.prog 66 #[.float .f64 x, .int .i64 1] w fun e w' => e = .returned (.bool (decide (k = (ifn n : Int)))) ∧ w = w' := by
  have hg := h.gt
  clear h
  generalize decide (k = (ifn n : Int)) = t at *
  go_enter Tryd.func66, Tryd.ntmps66
  go_wp2
  go_ret
  exact ⟨rfl, rfl⟩
set_option maxHeartbeats 400000 in
theorem isInf_down {n : Int} {x : Nat} {k : Int} (h : Fl n x k) (w : World) : Calls Tryd.prog 66 #[.float .f64 x, .int .i64 (-1)] w fun e w' => e = .returned (.bool (decide (k = -(ifn n : Int)))) ∧ w = w' := by
  have hg := h.neg.gt
  have e : decide (-k = (ifn n : Int)) = decide (k = -(ifn n : Int)) := by rw [Bool.eq_iff_iff, decide_eq_true_eq, decide_eq_true_eq]; omega
  rw [e] at hg
  have hN : ∀ (wx : World), (Op.unary .neg (.float .f64 x)).run Tryd.prog wx = .ok (.float .f64 (Op.negFloat .f64 x)) wx := fun _ => rfl
  clear h e
  generalize decide (k = -(ifn n : Int)) = t at *
  generalize Op.negFloat .f64 x = y at *
  go_enter Tryd.func66, Tryd.ntmps66
  go_wp2
  go_ret
  exact ⟨rfl, rfl⟩
/- the size of a float -/
theorem abs_word (x : Nat) (h : x < 18446744073709551616) : bits .andNot .u64 (x : Int) 9223372036854775808 = ((x % 9223372036854775808 : Nat) : Int) := by
  have e : (~~~ BitVec.ofInt 64 9223372036854775808 : BitVec 64).toNat = 2 ^ 63 - 1 := by decide
  have h1 : (BitVec.ofInt 64 (x : Int)).toNat = x := by
    rw [BitVec.ofInt_natCast, BitVec.toNat_ofNat]; exact Nat.mod_eq_of_lt (by omega)
  show IntKind.u64.wrap ((BitVec.ofInt 64 (x : Int) &&& ~~~ BitVec.ofInt 64 9223372036854775808).toNat : Int) = _
  rw [BitVec.toNat_and, e, h1, Nat.and_two_pow_sub_one_eq_mod, IntKind.wrap_u64]
  omega
theorem Fl.abs {n : Int} {x : Nat} {k : Int} (h : Fl n x k) : Fl n (x % 9223372036854775808) (k.natAbs : Int) := by
  have hlt := h.lt
  have hle := h.le
  obtain ⟨q, hq, hK, o1, o2, o3, o4, o5, o6⟩ := h.wide
  have hs := (key_sv64 x hle hlt).2
  rw [← o1, o3] at hs
  have hn := hK.neg
  have hp := hK.pos
  by_cases hx : x < 9223372036854775808
  · have hb : below FloatKind.f64.format x = false := by
      unfold below
      rw [sw64, show x / 9223372036854775808 = 0 by omega]
      rfl
    rw [hb, sv_f] at hs
    rw [Nat.mod_eq_of_lt hx, show ((k.natAbs : Nat) : Int) = k by omega]
    exact h
  · have hb : below FloatKind.f64.format x = true := by
      unfold below
      rw [sw64, show x / 9223372036854775808 = 1 by omega]
      rfl
    rw [hb, sv_t] at hs
    have := h.neg
    rw [neg_word x hlt] at this
    rw [show x % 9223372036854775808 = (x + 9223372036854775808) % 18446744073709551616 by omega, show ((k.natAbs : Nat) : Int) = -k by omega]
    exact this
set_option maxHeartbeats 400000 in
theorem abs_any (x : Nat) (h : x < 18446744073709551616) (w : World) : Calls Tryd.prog 85 #[.float .f64 x] w fun e w' => e = .returned (.float .f64 (x % 9223372036854775808)) ∧ w = w' := by
  have h1 := abs_word x h
  have c1 := call_bits64 x
  have c2 : ∀ wx : World, (callFunc 93 #[.int .u64 ((x % 9223372036854775808 : Nat) : Int)]).run Tryd.prog wx = .ok (.value (.float .f64 (x % 9223372036854775808))) wx := fun wx => by
    have := call_frombits64 ((x % 9223372036854775808 : Nat) : Int) wx
    rw [Int.toNat_natCast] at this
    exact this
  clear h
  generalize x % 9223372036854775808 = y at *
  go_enter Tryd.func85, Tryd.ntmps85
  go_wp2_with (simp only [c1, c2, h1])
  go_ret
  exact ⟨rfl, rfl⟩
set_option maxHeartbeats 400000 in
theorem isInf_0 {n : Int} {x : Nat} {k : Int} (h : Fl n x k) (w : World) : Calls Tryd.prog 66 #[.float .f64 x, .int .i64 0] w fun e w' => e = .returned (.bool (decide (k = (ifn n : Int) ∨ k = -(ifn n : Int)))) ∧ w = w' := by
  have hg := h.abs.gt
  have e : decide ((k.natAbs : Int) = (ifn n : Int)) = decide (k = (ifn n : Int) ∨ k = -(ifn n : Int)) := by
    have := ifn_p n
    rw [Bool.eq_iff_iff, decide_eq_true_eq, decide_eq_true_eq]
    omega
  rw [e] at hg
  have KA : Hid (∀ u, Calls Tryd.prog 85 #[.float .f64 x] u fun e w' => e = .returned (.float .f64 (x % 9223372036854775808)) ∧ u = w') := fun u => abs_any x h.lt u
  clear h e
  generalize decide (k = (ifn n : Int) ∨ k = -(ifn n : Int)) = t at *
  generalize x % 9223372036854775808 = y at *
  go_enter Tryd.func66, Tryd.ntmps66
  go_wp2_with (first | (go_at_call 85; refine (KA.out _).mono ?_; rintro e w1 ⟨rfl, rfl⟩))
  go_ret
  exact ⟨rfl, rfl⟩
set_option maxHeartbeats 400000 in
theorem isNaN_any (x : Nat) (w : World) : Calls Tryd.prog 73 #[.float .f64 x] w fun e w' => e = .returned (.bool (decide (FloatKind.f64.format.infRung < rung FloatKind.f64.format x))) ∧ w = w' := by
  have hs := self_64 x
  generalize decide (FloatKind.f64.format.infRung < rung FloatKind.f64.format x) = t at *
  go_enter Tryd.func73, Tryd.ntmps73
  go_wp2
  go_ret
  exact ⟨rfl, rfl⟩
end Go.Proofs.YtalhnaakbekboaaDoor
