/- Converted to binary64, a float's value is the same number; the walk of bits.Convert there. The walk of ExactFloats. -/
import Derived.Test.YtbfjnihjookkjaaDoorR7
import Derived.Test.YtbfjnihjookkjaaDoorWiden2
import Derived.Test.YtbfjnihjookkjaaDoorTurns2
import Derived.Test.YtbfjnihjookkjaaDoorQ9
namespace Go.Proofs.YtbfjnihjookkjaaDoor
open Go.ChangeShapes Go.WideShapes Go.ChangeAt Go.RowKit Ieee
set_option linter.unusedVariables false
set_option linter.unusedSimpArgs false

theorem val_64 (c : Int) (hc : cls c 64 < 3) : rungVal FloatKind.f64.format (rung FloatKind.f64.format (pat64 c)) = (pmag c 64).toNat * 2 ^ (pexp c 64 + 1074).toNat := by
  have hf := fin_of c 64 (.inl rfl) hc
  have hr := rung_pat64 c
  have hs : c % 9223372036854775808 < 9218868437227405312 := by
    unfold cls clsOf at hc
    simp only [if_true] at hc
    (repeat' split at hc) <;> omega
  generalize rung FloatKind.f64.format (pat64 c) = r at *
  unfold rungVal pmag pexp
  simp only [bin64, hf, if_true]
  rw [← hr]
  by_cases h : r < 4503599627370496
  · rw [if_pos h, if_pos (by omega), if_pos (by omega)]
    simp
  · rw [if_neg h, if_neg (by omega), if_neg (by omega)]
    congr 1
    · omega
    · congr 1
      omega
theorem val_32 (b : Int) (hc : cls b 32 < 3) : rungVal FloatKind.f32.format (rung FloatKind.f32.format (pat32 b)) = (pmag b 32).toNat * 2 ^ (pexp b 32 + 149).toNat ∧ rung FloatKind.f32.format (pat32 b) < FloatKind.f32.format.infRung ∧ (0 ≤ b ∧ b < 4294967296) := by
  have hf := fin_of b 32 (.inr rfl) hc
  have hv : 0 ≤ b ∧ b < 4294967296 := by
    unfold cls at hc
    rw [if_neg (by decide), if_pos rfl] at hc
    split at hc
    · assumption
    · omega
  have hr := rung_pat32 b hv
  have hs : b % 2147483648 < 2139095040 := by
    unfold cls clsOf at hc
    rw [if_neg (by decide), if_pos rfl] at hc
    (repeat' split at hc) <;> omega
  generalize rung FloatKind.f32.format (pat32 b) = r at *
  refine ⟨?_, by rw [inf32]; omega, hv⟩
  unfold rungVal pmag pexp
  simp only [bin32, hf, if_true, show ¬ ((32 : Int) = 64) by decide, if_false]
  rw [← hr]
  by_cases h : r < 8388608
  · rw [if_pos h, if_pos (by omega), if_pos (by omega)]
    simp
  · rw [if_neg h, if_neg (by omega), if_neg (by omega)]
    congr 1
    · omega
    · congr 1
      omega

theorem pat64_wrap (y : Nat) (h : y < 18446744073709551616) : pat64 (wrap64 (y : Int)) = y := by
  have := pat64_eq (wrap64 (y : Int))
  unfold wrap64 at this ⊢
  omega
theorem wrap64_rng (y : Nat) (h : y < 18446744073709551616) : -9223372036854775808 ≤ wrap64 (y : Int) ∧ wrap64 (y : Int) ≤ 9223372036854775807 := by
  unfold wrap64
  omega
theorem cls_of_rung (c : Int) (r : Nat) (h : (r : Int) = c % 9223372036854775808) (hr : r < 9218868437227405312) : cls c 64 < 3 := by
  have : c % 9223372036854775808 < 9218868437227405312 := by omega
  unfold cls clsOf
  simp only [if_true]
  (repeat' split) <;> omega
theorem frm_same (ng : Bool) (va vb : Nat) (ea eb : Int) (s : Nat) (hs : s = 925) (a1 : -1074 ≤ ea) (a2 : ea ≤ 971) (b1 : -149 ≤ eb) (b2 : eb ≤ 104) (t1 : bl va ≤ 53) (t2 : bl vb ≤ 53) (h : vb * 2 ^ ((eb + 149).toNat + s) = va * 2 ^ (ea + 1074).toNat) : frm ng va ea = frm ng vb eb := by
  have H : Hid (vb * 2 ^ ((eb + 149).toNat + s) = va * 2 ^ (ea + 1074).toNat) := h
  clear h
  by_cases h0 : vb = 0
  · subst h0
    have v64 := H.out
    rw [Nat.zero_mul] at v64
    have : va = 0 := by
      rcases Nat.mul_eq_zero.1 v64.symm with h | h
      · exact h
      · exact absurd h (Nat.ne_of_gt (Nat.two_pow_pos _))
    clear v64
    subst this
    simp [frm]
  · have hva : va ≠ 0 := fun h => by
      subst h
      have v64 := H.out
      rw [Nat.zero_mul] at v64
      rcases Nat.mul_eq_zero.1 v64 with h | h
      · exact h0 h
      · exact absurd h (Nat.ne_of_gt (Nat.two_pow_pos _))
    have z1 := tzn_le_bl va hva
    have z2 := tzn_le_bl vb h0
    have x1 : (-1074 : Int) + ((((eb + 149).toNat + s : Nat)) : Int) = eb := by omega
    have x2 : (-1074 : Int) + (((ea + 1074).toNat : Nat) : Int) = ea := by omega
    have f1 := frm_mul ng va (ea + 1074).toNat (-1074) hva (by omega) (by omega) (by omega) (by omega)
    have f2 := frm_mul ng vb ((eb + 149).toNat + s) (-1074) h0 (by omega) (by omega) (by omega) (by omega)
    rw [← H.out, f2, x1, x2] at f1
    exact f1.symm
def conv (b n : Int) : Int := if n = 64 then b else wrap64 ((wide b : Nat) : Int)
theorem conv_facts (b n : Int) (hb1 : -9223372036854775808 ≤ b) (hb2 : b ≤ 9223372036854775807) (hn : n = 64 ∨ n = 32) (hc : cls b n < 3) : -9223372036854775808 ≤ conv b n ∧ conv b n ≤ 9223372036854775807 ∧ cls (conv b n) 64 < 3 ∧ ofN (conv b n) 64 = ofN b n ∧ (n = 32 → pat64 (conv b n) = wide b) := by
  rcases hn with rfl | rfl
  · exact ⟨hb1, hb2, hc, rfl, fun h => by cases h⟩
  · obtain ⟨v32, hlt, hv⟩ := val_32 b hc
    obtain ⟨w1, w2, w3⟩ := W_num (pat32 b) hlt
    have V32 : Hid _ := v32
    have W2 : Hid _ := w2
    clear v32 w2
    obtain ⟨r, e, h1, -, -⟩ := wide_num (pat32 b) hlt
    have hy : wide b < 18446744073709551616 := by
      unfold wide
      rw [e]
      have := inf64
      have := sw64
      unfold Format.word
      split <;> omega
    have hcv : conv b 32 = wrap64 ((wide b : Nat) : Int) := by unfold conv; rw [if_neg (by decide)]
    have hr1 : -9223372036854775808 ≤ conv b 32 ∧ conv b 32 ≤ 9223372036854775807 := by rw [hcv]; exact wrap64_rng _ hy
    have hp : pat64 (conv b 32) = wide b := by rw [hcv]; exact pat64_wrap _ hy
    have hrg := rung_pat64 (conv b 32)
    have hbl := below_pat64 (conv b 32) hr1.1 hr1.2
    have hw : wide b = W (pat32 b) := rfl
    rw [hp, hw] at hrg hbl
    have hcl : cls (conv b 32) 64 < 3 := by
      rw [inf64] at w1
      exact cls_of_rung _ _ hrg w1
    have v64 := val_64 (conv b 32) hcl
    rw [hp, hw, W2.out, V32.out] at v64
    have HV : Hid _ := v64
    clear v64
    have hneg : pneg (conv b 32) 64 = pneg b 32 := by
      unfold pneg
      rw [fin_of _ 64 (.inl rfl) hcl, fin_of b 32 (.inr rfl) hc]
      unfold sgn
      rw [if_pos rfl, if_neg (by decide)]
      have := below_pat32 b hv
      rw [w3] at hbl
      rw [← hbl, this]
    clear e h1 hlt w1 w3 hrg hbl hy hw hcv
    obtain ⟨p1, p2, p3, p4, p5⟩ := fl_64 _ hcl
    obtain ⟨q1, q2, q3, q4, q5⟩ := fl_32 b hc
    refine ⟨hr1.1, hr1.2, hcl, ?_, fun _ => hp⟩
    unfold ofN
    rw [hneg]
    refine congrArg (fun z : Option Nm => z.getD ⟨false, [], 0⟩) ?_
    refine frm_same _ _ _ _ _ shiftE rfl p3 p4 q3 q4 (bl_mag (conv b 32) 64 (.inl rfl) hcl).2 (bl_mag b 32 (.inr rfl) hc).2 ?_
    have v64 := HV.out
    rw [Nat.mul_assoc, ← Nat.pow_add] at v64
    exact v64

set_option maxHeartbeats 1000000 in
set_option maxRecDepth 100000 in
theorem convert_gen (b n c : Int) (y : Nat) (hy : of64 y = c) (l0 l1 l2 l3 l4 : Int) (w : World) (KL : Hid (∀ u, Calls Tryd.prog 70 #[.int .i64 n] u fun e w' => e = .returned (.tuple #[.agg #[.int .i64 l0, .int .i64 l1, .int .i64 l2, .int .i64 l3, .int .i64 l4], .bool true]) ∧ Kept u w')) (KW : Hid (∀ u, Calls Tryd.prog 72 #[.int .i64 b, .int .i64 n] u fun e w' => e = .returned (.float .f64 y) ∧ u = w')) :
    Calls Tryd.prog 26 #[.int .i64 b, .int .i64 n, .int .i64 64] w fun e w' => e = .returned (.int .i64 c) ∧ Kept w w' := by
  have KO : Hid (∀ u, Calls Tryd.prog 73 #[.float .f64 y] u fun e w' => e = .returned (.int .i64 c) ∧ u = w') := fun u => by
    have := of64_any y u
    rw [hy] at this
    exact this
  go_enter Tryd.func26, Tryd.ntmps26
  go_wp2_with (first | (go_at_call 70; refine (KL.out _).mono ?_; rintro e w1 ⟨rfl, k1⟩) | (go_at_call 72; refine (KW.out _).mono ?_; rintro e w2 ⟨rfl, rfl⟩) | (go_at_call 73; refine (KO.out _).mono ?_; rintro e w3 ⟨rfl, rfl⟩))
  go_ret
  exact ⟨rfl, k1.alloc _ _⟩
theorem convert_64 (b n : Int) (hb1 : -9223372036854775808 ≤ b) (hb2 : b ≤ 9223372036854775807) (hn : n = 64 ∨ n = 32) (hc : cls b n < 3) (w : World) : Calls Tryd.prog 26 #[.int .i64 b, .int .i64 n, .int .i64 64] w fun e w' => e = .returned (.int .i64 (conv b n)) ∧ Kept w w' := by
  obtain ⟨c1, c2, c3, c4, c5⟩ := conv_facts b n hb1 hb2 hn hc
  rcases hn with rfl | rfl
  · refine convert_gen b 64 _ (pat64 b) ?_ _ _ _ _ _ w (fun u => layoutOf_64 u) (fun u => widened_64 b u)
    rw [of64_pat b hb1 hb2, if_neg (by omega)]
    unfold conv
    rw [if_pos rfl]
  · obtain ⟨-, hlt, hv⟩ := val_32 b hc
    refine convert_gen b 32 _ (wide b) ?_ _ _ _ _ _ w (fun u => layoutOf_32 u) (fun u => widened_32_num b (Nat.le_of_lt hlt) u)
    rw [← c5 rfl, of64_pat _ c1 c2, if_neg (by omega)]
end Go.Proofs.YtbfjnihjookkjaaDoor

namespace Go.Proofs.YtbfjnihjookkjaaDoor
open Go.ChangeShapes Go.WideShapes Go.ChangeAt Go.RowKit
set_option linter.unusedVariables false
set_option linter.unusedSimpArgs false

theorem laid3f {w : World} {a b c : Value} {t : TypeId} {u : World} (k : Kept (w.alloc (.cells #[a, b, c] t)) u) : u.cell? ⟨w.heap.size, 0, none⟩ = some a ∧ u.cell? ⟨w.heap.size, 1, none⟩ = some b ∧ u.cell? ⟨w.heap.size, 2, none⟩ = some c :=
  ⟨(laid_cell k 0).trans (by simp [go_sem]), (laid_cell k 1).trans (by simp [go_sem]), (laid_cell k 2).trans (by simp [go_sem])⟩
theorem zero_at (w : World) : NumAt w zeroNum ⟨false, [], 0⟩ := ⟨_, rfl, none, 0, rfl, Nat.le_refl _, by simp [maxLen], fun h => absurd rfl h⟩

set_option maxHeartbeats 1000000 in
set_option maxRecDepth 100000 in
theorem floats_no (b n er : Int) (her : er = 3 ∨ er = 6) (w : World) (hT : Tab w) (KO : Hid (Calls Tryd.prog 23 #[.int .i64 b, .int .i64 n] w fun e w' => e = .returned (.tuple #[zeroNum, .int .i64 er]) ∧ Kept w w')) : Calls Tryd.prog 7 #[.int .i64 b, .int .i64 n] w fun e w' => e = .returned (.bool true) ∧ Kept w w' := by
  have KA : Hid (∀ u, Kept w u → Calls Tryd.prog 9 #[] u fun e w' => e = .returned (.bool true) ∧ Kept u w') := fun u k => alive_true u (hT.kept k)
  have KS : Hid (∀ u, Calls Tryd.prog 21 #[zeroNum, zeroNum] u fun e w' => e = .returned (.bool true) ∧ Kept u w') := fun u => sameNum_true ⟨false, [], 0⟩ (by simp) _ _ u (zero_at u) (zero_at u)
  rcases her with rfl | rfl
  all_goals
    go_enter Tryd.func7, Tryd.ntmps7
    go_wp2_with fail
    refine KO.out.mono ?_
    rintro e w1 ⟨rfl, k1⟩
    have k1' := k1.alloc #[.bool false, .slice none 0 0, .int .i64 0] 31
    go_wp2_with fail
    refine (KA.out _ k1').mono ?_
    rintro e w2 ⟨rfl, k2⟩
    obtain ⟨a0, a1, a2⟩ := laid3f k2
    go_wp2_with fail
    refine (KS.out _).mono ?_
    rintro e w3 ⟨rfl, k3⟩
    go_wp2_with fail
    go_ret
    exact ⟨rfl, k1'.trans (k2.trans k3)⟩

set_option maxHeartbeats 2000000 in
set_option maxRecDepth 100000 in
theorem floats_yes (b n cb cc cd : Int) (ng : Bool) (l : Nat) (L : List Int) (x : Int) (w : World) (hT : Tab w)
    (KO : Hid (Calls Tryd.prog 23 #[.int .i64 b, .int .i64 n] w fun e w' => ∃ ao c, e = .returned (.tuple #[.agg #[.bool ng, .slice ao l c, .int .i64 x], .int .i64 0]) ∧ Sl w' (.slice ao l c) L ∧ Kept w w'))
    (K0 : Hid (∀ u (ao : Option Addr) (c : Nat), Kept w u → Sl u (.slice ao l c) L → Calls Tryd.prog 24 #[.agg #[.bool ng, .slice ao l c, .int .i64 x], .int .i64 n, .int .i64 0] u fun e w' => e = .returned (.tuple #[.int .i64 cb, .bool false, .int .i64 0]) ∧ Kept u w'))
    (K1 : Hid (∀ u (ao : Option Addr) (c : Nat), Kept w u → Sl u (.slice ao l c) L → Calls Tryd.prog 24 #[.agg #[.bool ng, .slice ao l c, .int .i64 x], .int .i64 n, .int .i64 1] u fun e w' => e = .returned (.tuple #[.int .i64 cb, .bool false, .int .i64 0]) ∧ Kept u w'))
    (K2 : Hid (∀ u (ao : Option Addr) (c : Nat), Kept w u → Sl u (.slice ao l c) L → Calls Tryd.prog 24 #[.agg #[.bool ng, .slice ao l c, .int .i64 x], .int .i64 n, .int .i64 2] u fun e w' => e = .returned (.tuple #[.int .i64 cb, .bool false, .int .i64 0]) ∧ Kept u w'))
    (K4 : Hid (∀ u (ao : Option Addr) (c : Nat), Kept w u → Sl u (.slice ao l c) L → Calls Tryd.prog 24 #[.agg #[.bool ng, .slice ao l c, .int .i64 x], .int .i64 64, .int .i64 0] u fun e w' => e = .returned (.tuple #[.int .i64 cd, .bool false, .int .i64 0]) ∧ Kept u w'))
    (KC : Hid (∀ u, Calls Tryd.prog 25 #[.int .i64 b, .int .i64 n] u fun e w' => e = .returned (.int .i64 cb) ∧ Kept u w'))
    (KV : Hid (∀ u, Calls Tryd.prog 26 #[.int .i64 b, .int .i64 n, .int .i64 64] u fun e w' => e = .returned (.int .i64 cc) ∧ Kept u w'))
    (KD : Hid (∀ u, Calls Tryd.prog 25 #[.int .i64 cc, .int .i64 64] u fun e w' => e = .returned (.int .i64 cd) ∧ Kept u w')) :
    Calls Tryd.prog 7 #[.int .i64 b, .int .i64 n] w fun e w' => e = .returned (.bool true) ∧ Kept w w' := by
  have KA : Hid (∀ u, Kept w u → Calls Tryd.prog 9 #[] u fun e w' => e = .returned (.bool true) ∧ Kept u w') := fun u k => alive_true u (hT.kept k)
  have hcb : (cb != cb) = false := by simp
  have hcd : (cd == cd) = true := by simp
  go_enter Tryd.func7, Tryd.ntmps7
  go_wp2_with fail
  refine KO.out.mono ?_
  rintro e w1' ⟨ao, c, rfl, hS, k1⟩
  have HS : Hid (∀ u, Kept w1' u → Sl u (.slice ao l c) L) := fun u k => hS.kept k
  clear hS
  have kB : Kept w1' (w1'.alloc (.cells #[.bool ng, .slice ao l c, .int .i64 x] 31)) := (Kept.refl _).alloc _ _
  go_wp2_with fail
  refine (KA.out _ (k1.trans kB)).mono ?_
  rintro e w2 ⟨rfl, k2⟩
  obtain ⟨a0, a1, a2⟩ := laid3f k2
  go_wp2_with fail
  refine wp_loop_rounds 4 ?_
  rw [rounds_succ]
  go_wp2_with fail
  refine (K0.out _ ao c (k1.trans (kB.trans k2)) (HS.out _ (kB.trans k2))).mono ?_
  rintro e w3 ⟨rfl, k3⟩
  go_wp2_with fail
  refine (KC.out _).mono ?_
  rintro e w4 ⟨rfl, k4⟩
  have q4 := k2.trans (k3.trans k4)
  clear a0 a1 a2
  obtain ⟨a0, a1, a2⟩ := laid3f q4
  go_wp2_with fail
  rw [rounds_succ]
  go_wp2_with fail
  refine (K1.out _ ao c (k1.trans (kB.trans q4)) (HS.out _ (kB.trans q4))).mono ?_
  rintro e w5 ⟨rfl, k5⟩
  go_wp2_with fail
  refine (KC.out _).mono ?_
  rintro e w6 ⟨rfl, k6⟩
  have q6 := q4.trans (k5.trans k6)
  clear a0 a1 a2
  obtain ⟨a0, a1, a2⟩ := laid3f q6
  go_wp2_with fail
  rw [rounds_succ]
  go_wp2_with fail
  refine (K2.out _ ao c (k1.trans (kB.trans q6)) (HS.out _ (kB.trans q6))).mono ?_
  rintro e w7 ⟨rfl, k7⟩
  go_wp2_with fail
  refine (KC.out _).mono ?_
  rintro e w8 ⟨rfl, k8⟩
  have q8 := q6.trans (k7.trans k8)
  clear a0 a1 a2
  obtain ⟨a0, a1, a2⟩ := laid3f q8
  go_wp2_with fail
  rw [rounds_succ]
  go_wp2_with fail
  refine (K4.out _ ao c (k1.trans (kB.trans q8)) (HS.out _ (kB.trans q8))).mono ?_
  rintro e w9 ⟨rfl, k9⟩
  go_wp2_with fail
  refine (KV.out _).mono ?_
  rintro e w10 ⟨rfl, k10⟩
  go_wp2_with fail
  refine (KD.out _).mono ?_
  rintro e w11 ⟨rfl, k11⟩
  go_wp2_with fail
  go_ret
  exact ⟨rfl, k1.trans (kB.trans (q8.trans (k9.trans (k10.trans k11))))⟩

theorem exactFloats_true (b n : Int) (hb1 : -9223372036854775808 ≤ b) (hb2 : b ≤ 9223372036854775807) (w : World) (hT : Tab w) : Calls Tryd.prog 7 #[.int .i64 b, .int .i64 n] w fun e w' => e = .returned (.bool true) ∧ Kept w w' := by
  by_cases hn : n = 64 ∨ n = 32
  · by_cases hc : cls b n < 3
    · obtain ⟨c1, c2, c3, c4, c5⟩ := conv_facts b n hb1 hb2 hn hc
      refine floats_yes b n (can b n) (conv b n) (can (conv b n) 64) (ofN b n).neg (ofN b n).mag.length (ofN b n).mag (ofN b n).exp w hT ?_ (fun u ao c k h => roundF_1 b n hb1 hb2 hn hc ao c u (hT.kept k) h) (fun u ao c k h => roundF_2 b n hb1 hb2 hn hc ao c u (hT.kept k) h) (fun u ao c k h => roundF_3 b n hb1 hb2 hn hc ao c u (hT.kept k) h) (fun u ao c k h => ?_) (fun u => canon_any b n u) (fun u => convert_64 b n hb1 hb2 hn hc u) (fun u => canon_any _ 64 u)
      · refine (of_fin b n hb1 hb2 hn hc w hT).mono ?_
        rintro e w' ⟨v, rfl, hN, k⟩
        obtain ⟨s, rfl, hs⟩ := hN.numAt
        obtain ⟨ao, c, rfl, -⟩ := id hs
        exact ⟨ao, c, rfl, hs, k⟩
      · have := roundF_1 (conv b n) 64 c1 c2 (.inl rfl) c3 ao c u (hT.kept k)
        rw [c4] at this
        exact this h
    · exact floats_no b n 6 (.inr rfl) w hT (of_bits b n hb1 hb2 hn (by omega) w)
  · have h1 : ¬ n = 32 := fun h => hn (.inr h)
    have h2 : ¬ n = 64 := fun h => hn (.inl h)
    exact floats_no b n 3 (.inl rfl) w hT (of_width b n (by simpa using h1) (by simpa using h2) w)
end Go.Proofs.YtbfjnihjookkjaaDoor
