/- Converted to binary64, a float's value is the same number; the walk of bits.Convert there. -/
import Derived.Test.YtaoedaojpajbaaaDoorR7
import Derived.Test.YtaoedaojpajbaaaDoorWiden2
import Derived.Test.YtaoedaojpajbaaaDoorTurns2
namespace Go.Proofs.YtaoedaojpajbaaaDoor
open Go.ChangeShapes Go.WideShapes Go.ChangeAt Go.RowKit Ieee
set_option linter.unusedVariables false
set_option linter.unusedSimpArgs false

theorem val_64 (c : Int) (hc : cls c 64 < 3) : rungVal FloatKind.f64.format (rung FloatKind.f64.format (pat64 c)) = (pmag c 64).toNat * 2 ^ (pexp c 64 + 1074).toNat := by
  have hf := fin_of c 64 (.inl rfl) hc
  have hr := rung_pat64 c
  have hs : c % 9223372036854775808 < 9218868437227405312 := by
    unfold cls clsOf at hc
    simp only [if_true] at hc
    (repeat' split at hc) <;> omega
  generalize rung FloatKind.f64.format (pat64 c) = r at *
  unfold rungVal pmag pexp
  simp only [bin64, hf, if_true]
  rw [← hr]
  by_cases h : r < 4503599627370496
  · rw [if_pos h, if_pos (by omega), if_pos (by omega)]
    simp
  · rw [if_neg h, if_neg (by omega), if_neg (by omega)]
    congr 1
    · omega
    · congr 1
      omega
theorem val_32 (b : Int) (hc : cls b 32 < 3) : rungVal FloatKind.f32.format (rung FloatKind.f32.format (pat32 b)) = (pmag b 32).toNat * 2 ^ (pexp b 32 + 149).toNat ∧ rung FloatKind.f32.format (pat32 b) < FloatKind.f32.format.infRung ∧ (0 ≤ b ∧ b < 4294967296) := by
  have hf := fin_of b 32 (.inr rfl) hc
  have hv : 0 ≤ b ∧ b < 4294967296 := by
    unfold cls at hc
    rw [if_neg (by decide), if_pos rfl] at hc
    split at hc
    · assumption
    · omega
  have hr := rung_pat32 b hv
  have hs : b % 2147483648 < 2139095040 := by
    unfold cls clsOf at hc
    rw [if_neg (by decide), if_pos rfl] at hc
    (repeat' split at hc) <;> omega
  generalize rung FloatKind.f32.format (pat32 b) = r at *
  refine ⟨?_, by rw [inf32]; omega, hv⟩
  unfold rungVal pmag pexp
  simp only [bin32, hf, if_true, show ¬ ((32 : Int) = 64) by decide, if_false]
  rw [← hr]
  by_cases h : r < 8388608
  · rw [if_pos h, if_pos (by omega), if_pos (by omega)]
    simp
  · rw [if_neg h, if_neg (by omega), if_neg (by omega)]
    congr 1
    · omega
    · congr 1
      omega

theorem pat64_wrap (y : Nat) (h : y < 18446744073709551616) : pat64 (wrap64 (y : Int)) = y := by
  have := pat64_eq (wrap64 (y : Int))
  unfold wrap64 at this ⊢
  omega
theorem wrap64_rng (y : Nat) (h : y < 18446744073709551616) : -9223372036854775808 ≤ wrap64 (y : Int) ∧ wrap64 (y : Int) ≤ 9223372036854775807 := by
  unfold wrap64
  omega
theorem cls_of_rung (c : Int) (r : Nat) (h : (r : Int) = c % 9223372036854775808) (hr : r < 9218868437227405312) : cls c 64 < 3 := by
  have : c % 9223372036854775808 < 9218868437227405312 := by omega
  unfold cls clsOf
  simp only [if_true]
  (repeat' split) <;> omega
theorem frm_same (ng : Bool) (va vb : Nat) (ea eb : Int) (s : Nat) (hs : s = 925) (a1 : -1074 ≤ ea) (a2 : ea ≤ 971) (b1 : -149 ≤ eb) (b2 : eb ≤ 104) (t1 : bl va ≤ 53) (t2 : bl vb ≤ 53) (h : vb * 2 ^ ((eb + 149).toNat + s) = va * 2 ^ (ea + 1074).toNat) : frm ng va ea = frm ng vb eb := by
  have H : Hid (vb * 2 ^ ((eb + 149).toNat + s) = va * 2 ^ (ea + 1074).toNat) := h
  clear h
  by_cases h0 : vb = 0
  · subst h0
    have v64 := H.out
    rw [Nat.zero_mul] at v64
    have : va = 0 := by
      rcases Nat.mul_eq_zero.1 v64.symm with h | h
      · exact h
      · exact absurd h (Nat.ne_of_gt (Nat.two_pow_pos _))
    clear v64
    subst this
    simp [frm]
  · have hva : va ≠ 0 := fun h => by
      subst h
      have v64 := H.out
      rw [Nat.zero_mul] at v64
      rcases Nat.mul_eq_zero.1 v64 with h | h
      · exact h0 h
      · exact absurd h (Nat.ne_of_gt (Nat.two_pow_pos _))
    have z1 := tzn_le_bl va hva
    have z2 := tzn_le_bl vb h0
    have x1 : (-1074 : Int) + ((((eb + 149).toNat + s : Nat)) : Int) = eb := by omega
    have x2 : (-1074 : Int) + (((ea + 1074).toNat : Nat) : Int) = ea := by omega
    have f1 := frm_mul ng va (ea + 1074).toNat (-1074) hva (by omega) (by omega) (by omega) (by omega)
    have f2 := frm_mul ng vb ((eb + 149).toNat + s) (-1074) h0 (by omega) (by omega) (by omega) (by omega)
    rw [← H.out, f2, x1, x2] at f1
    exact f1.symm
def conv (b n : Int) : Int := if n = 64 then b else wrap64 ((wide b : Nat) : Int)
theorem conv_facts (b n : Int) (hb1 : -9223372036854775808 ≤ b) (hb2 : b ≤ 9223372036854775807) (hn : n = 64 ∨ n = 32) (hc : cls b n < 3) : -9223372036854775808 ≤ conv b n ∧ conv b n ≤ 9223372036854775807 ∧ cls (conv b n) 64 < 3 ∧ ofN (conv b n) 64 = ofN b n ∧ (n = 32 → pat64 (conv b n) = wide b) := by
  rcases hn with rfl | rfl
  · exact ⟨hb1, hb2, hc, rfl, fun h => by cases h⟩
  · obtain ⟨v32, hlt, hv⟩ := val_32 b hc
    obtain ⟨w1, w2, w3⟩ := W_num (pat32 b) hlt
    have V32 : Hid _ := v32
    have W2 : Hid _ := w2
    clear v32 w2
    obtain ⟨r, e, h1, -, -⟩ := wide_num (pat32 b) hlt
    have hy : wide b < 18446744073709551616 := by
      unfold wide
      rw [e]
      have := inf64
      have := sw64
      unfold Format.word
      split <;> omega
    have hcv : conv b 32 = wrap64 ((wide b : Nat) : Int) := by unfold conv; rw [if_neg (by decide)]
    have hr1 : -9223372036854775808 ≤ conv b 32 ∧ conv b 32 ≤ 9223372036854775807 := by rw [hcv]; exact wrap64_rng _ hy
    have hp : pat64 (conv b 32) = wide b := by rw [hcv]; exact pat64_wrap _ hy
    have hrg := rung_pat64 (conv b 32)
    have hbl := below_pat64 (conv b 32) hr1.1 hr1.2
    have hw : wide b = W (pat32 b) := rfl
    rw [hp, hw] at hrg hbl
    have hcl : cls (conv b 32) 64 < 3 := by
      rw [inf64] at w1
      exact cls_of_rung _ _ hrg w1
    have v64 := val_64 (conv b 32) hcl
    rw [hp, hw, W2.out, V32.out] at v64
    have HV : Hid _ := v64
    clear v64
    have hneg : pneg (conv b 32) 64 = pneg b 32 := by
      unfold pneg
      rw [fin_of _ 64 (.inl rfl) hcl, fin_of b 32 (.inr rfl) hc]
      unfold sgn
      rw [if_pos rfl, if_neg (by decide)]
      have := below_pat32 b hv
      rw [w3] at hbl
      rw [← hbl, this]
    clear e h1 hlt w1 w3 hrg hbl hy hw hcv
    obtain ⟨p1, p2, p3, p4, p5⟩ := fl_64 _ hcl
    obtain ⟨q1, q2, q3, q4, q5⟩ := fl_32 b hc
    refine ⟨hr1.1, hr1.2, hcl, ?_, fun _ => hp⟩
    unfold ofN
    rw [hneg]
    refine congrArg (fun z : Option Nm => z.getD ⟨false, [], 0⟩) ?_
    refine frm_same _ _ _ _ _ shiftE rfl p3 p4 q3 q4 (bl_mag (conv b 32) 64 (.inl rfl) hcl).2 (bl_mag b 32 (.inr rfl) hc).2 ?_
    have v64 := HV.out
    rw [Nat.mul_assoc, ← Nat.pow_add] at v64
    exact v64

set_option maxHeartbeats 1000000 in
set_option maxRecDepth 100000 in
theorem convert_gen (b n c : Int) (y : Nat) (hy : of64 y = c) (l0 l1 l2 l3 l4 : Int) (w : World) (KL : Hid (∀ u, Calls Tryd.prog 70 #[.int .i64 n] u fun e w' => e = .returned (.tuple #[.agg #[.int .i64 l0, .int .i64 l1, .int .i64 l2, .int .i64 l3, .int .i64 l4], .bool true]) ∧ Kept u w')) (KW : Hid (∀ u, Calls Tryd.prog 72 #[.int .i64 b, .int .i64 n] u fun e w' => e = .returned (.float .f64 y) ∧ u = w')) :
    Calls Tryd.prog 26 #[.int .i64 b, .int .i64 n, .int .i64 64] w fun e w' => e = .returned (.int .i64 c) ∧ Kept w w' := by
  have KO : Hid (∀ u, Calls Tryd.prog 73 #[.float .f64 y] u fun e w' => e = .returned (.int .i64 c) ∧ u = w') := fun u => by
    have := of64_any y u
    rw [hy] at this
    exact this
  go_enter Tryd.func26, Tryd.ntmps26
  go_wp2_with (first | (go_at_call 70; refine (KL.out _).mono ?_; rintro e w1 ⟨rfl, k1⟩) | (go_at_call 72; refine (KW.out _).mono ?_; rintro e w2 ⟨rfl, rfl⟩) | (go_at_call 73; refine (KO.out _).mono ?_; rintro e w3 ⟨rfl, rfl⟩))
  go_ret
  exact ⟨rfl, k1.alloc _ _⟩
theorem convert_64 (b n : Int) (hb1 : -9223372036854775808 ≤ b) (hb2 : b ≤ 9223372036854775807) (hn : n = 64 ∨ n = 32) (hc : cls b n < 3) (w : World) : Calls Tryd.prog 26 #[.int .i64 b, .int .i64 n, .int .i64 64] w fun e w' => e = .returned (.int .i64 (conv b n)) ∧ Kept w w' := by
  obtain ⟨c1, c2, c3, c4, c5⟩ := conv_facts b n hb1 hb2 hn hc
  rcases hn with rfl | rfl
  · refine convert_gen b 64 _ (pat64 b) ?_ _ _ _ _ _ w (fun u => layoutOf_64 u) (fun u => widened_64 b u)
    rw [of64_pat b hb1 hb2, if_neg (by omega)]
    unfold conv
    rw [if_pos rfl]
  · obtain ⟨-, hlt, hv⟩ := val_32 b hc
    refine convert_gen b 32 _ (wide b) ?_ _ _ _ _ _ w (fun u => layoutOf_32 u) (fun u => widened_32_num b (Nat.le_of_lt hlt) u)
    rw [← c5 rfl, of64_pat _ c1 c2, if_neg (by omega)]
end Go.Proofs.YtaoedaojpajbaaaDoor
