/- The law BitsChain: the order of all is one, walked way by way. -/
import Derived.Test.YtebjkfecijeehabNextMath
import Derived.Test.YtebjkfecijeehabEither
import Derived.Test.YtebjkfecijeehabAlive
namespace Go.Proofs.Ytebjkfecijeehab
open Go.ChangeShapes Go.WideShapes Go.ChangeAt Go.RowKit
set_option linter.unusedVariables false

theorem plc_inj (a b n : Int) (ha1 : -9223372036854775808 ≤ a) (ha2 : a ≤ 9223372036854775807) (hb1 : -9223372036854775808 ≤ b) (hb2 : b ≤ 9223372036854775807) (hn : n = 64 ∨ n = 32) (ia : isnum a n = true) (ib : isnum b n = true) (h : plc a n = plc b n) : a = b := by
  rcases hn with rfl | rfl
  · have p := (num_64 a).1 ia
    have q := (num_64 b).1 ib
    rw [plc_64 a ia, plc_64 b ib] at h
    (repeat' split at h) <;> omega
  · have p := (num_32 a).1 ia
    have q := (num_32 b).1 ib
    rw [plc_32 a ia, plc_32 b ib] at h
    (repeat' split at h) <;> omega

theorem lss_plc (a b n : Int) (ha1 : -9223372036854775808 ≤ a) (ha2 : a ≤ 9223372036854775807) (hb1 : -9223372036854775808 ≤ b) (hb2 : b ≤ 9223372036854775807) (hn : n = 64 ∨ n = 32) (h : lss a b n = true) : plc a n < plc b n := by
  unfold lss at h
  simp only [Bool.and_eq_true, decide_eq_true_eq] at h
  obtain ⟨⟨ia, ib⟩, hk⟩ := h
  rcases hn with rfl | rfl
  · have p := (num_64 a).1 ia
    have q := (num_64 b).1 ib
    rw [keyOf_64, keyOf_64] at hk
    rw [plc_64 a ia, plc_64 b ib]
    (repeat' split at hk) <;> (repeat' split) <;> omega
  · have p := (num_32 a).1 ia
    have q := (num_32 b).1 ib
    rw [keyOf_32, keyOf_32] at hk
    rw [plc_32 a ia, plc_32 b ib]
    (repeat' split at hk) <;> (repeat' split) <;> omega

theorem cmpI_neg (x y : Int) : cmpI x y = -cmpI y x := by
  unfold cmpI
  (repeat' split) <;> omega
theorem cmpI_cases (x y : Int) : (cmpI x y = -1 ∧ x < y) ∨ (cmpI x y = 0 ∧ x = y) ∨ (cmpI x y = 1 ∧ y < x) := by
  unfold cmpI
  (repeat' split) <;> omega

set_option maxHeartbeats 1000000 in
theorem lc_p1_na (p q r v n a b c x y z u lo hi ca cb cl o : Int) (l : Bool) (Ke : Hid (∀ w : World, Calls Try.prog 13 #[.int .i64 v] w fun e w' => e = .returned (.int .i64 n) ∧ w = w')) (Ka : Hid (∀ w : World, Calls Try.prog 14 #[.int .i64 p, .int .i64 n] w fun e w' => e = .returned (.int .i64 a) ∧ w = w')) (Kb : Hid (∀ w : World, Calls Try.prog 14 #[.int .i64 q, .int .i64 n] w fun e w' => e = .returned (.int .i64 b) ∧ w = w')) (Kc : Hid (∀ w : World, Calls Try.prog 14 #[.int .i64 r, .int .i64 n] w fun e w' => e = .returned (.int .i64 c) ∧ w = w')) (Kx : Hid (∀ w : World, Calls Try.prog 20 #[.int .i64 a, .int .i64 b, .int .i64 n] w fun e w' => e = .returned (.int .i64 x) ∧ Kept w w')) (Ky : Hid (∀ w : World, Calls Try.prog 20 #[.int .i64 b, .int .i64 a, .int .i64 n] w fun e w' => e = .returned (.int .i64 y) ∧ Kept w w')) (Kl : Hid (∀ w : World, Calls Try.prog 17 #[.int .i64 a, .int .i64 b, .int .i64 n] w fun e w' => e = .returned (.bool l) ∧ Kept w w')) (Kz : Hid (∀ w : World, Calls Try.prog 20 #[.int .i64 b, .int .i64 c, .int .i64 n] w fun e w' => e = .returned (.int .i64 z) ∧ Kept w w')) (Ku : Hid (∀ w : World, Calls Try.prog 20 #[.int .i64 a, .int .i64 c, .int .i64 n] w fun e w' => e = .returned (.int .i64 u) ∧ Kept w w')) (Klo : Hid (∀ w : World, Calls Try.prog 21 #[.int .i64 a, .int .i64 b, .int .i64 n] w fun e w' => e = .returned (.int .i64 lo) ∧ Kept w w')) (Khi : Hid (∀ w : World, Calls Try.prog 22 #[.int .i64 a, .int .i64 b, .int .i64 n] w fun e w' => e = .returned (.int .i64 hi) ∧ Kept w w')) (Kca : Hid (∀ w : World, Calls Try.prog 16 #[.int .i64 a, .int .i64 n] w fun e w' => e = .returned (.int .i64 ca) ∧ Kept w w')) (Kcb : Hid (∀ w : World, Calls Try.prog 16 #[.int .i64 b, .int .i64 n] w fun e w' => e = .returned (.int .i64 cb) ∧ Kept w w')) (Kcl : Hid (∀ w : World, Calls Try.prog 16 #[.int .i64 lo, .int .i64 n] w fun e w' => e = .returned (.int .i64 cl) ∧ Kept w w')) (Ko : Hid (∀ w : World, Calls Try.prog 20 #[.int .i64 lo, .int .i64 hi, .int .i64 n] w fun e w' => e = .returned (.int .i64 o) ∧ Kept w w')) (hx : x = 1) (hy : y = -1) (hl : l = false) (hca : (ca == 4) = true) (hcl : (cl == 4) = true) (hlh : (lo == hi) = true) (w : World) : Calls Try.prog 5 #[.int .i64 p, .int .i64 q, .int .i64 r, .int .i64 v] w fun e w' => e = .returned (.bool true) ∧ Kept w w' := by
  subst hx hy hl
  go_enter Try.func5, Try.ntmps5
  go_wp2_with fail
  refine (Ke.out _).mono ?_
  rintro e w1 ⟨rfl, rfl⟩
  go_wp2_with fail
  refine (Ka.out _).mono ?_
  rintro e w1 ⟨rfl, rfl⟩
  go_wp2_with fail
  refine (Kb.out _).mono ?_
  rintro e w1 ⟨rfl, rfl⟩
  go_wp2_with fail
  refine (Kc.out _).mono ?_
  rintro e w1 ⟨rfl, rfl⟩
  go_wp2_with fail
  refine (Kx.out _).mono ?_
  rintro e w2 ⟨rfl, hk⟩
  have hK := hk
  clear hk
  go_wp2_with fail
  refine (alive_any _).mono ?_
  rintro e w3 ⟨rfl, hk⟩
  replace hK := hK.trans hk
  clear hk
  go_wp2_with fail
  refine (Ky.out _).mono ?_
  rintro e w4 ⟨rfl, hk⟩
  replace hK := hK.trans hk
  clear hk
  go_wp2_with fail
  refine (Kl.out _).mono ?_
  rintro e w5 ⟨rfl, hk⟩
  replace hK := hK.trans hk
  clear hk
  go_wp2_with fail
  refine (Klo.out _).mono ?_
  rintro e w6 ⟨rfl, hk⟩
  replace hK := hK.trans hk
  clear hk
  go_wp2_with fail
  refine (Khi.out _).mono ?_
  rintro e w7 ⟨rfl, hk⟩
  replace hK := hK.trans hk
  clear hk
  go_wp2_with fail
  refine (Kca.out _).mono ?_
  rintro e w8 ⟨rfl, hk⟩
  replace hK := hK.trans hk
  clear hk
  go_wp2_with fail
  refine (Kcl.out _).mono ?_
  rintro e w9 ⟨rfl, hk⟩
  replace hK := hK.trans hk
  clear hk
  go_wp2
  go_ret
  exact ⟨rfl, hK⟩

set_option maxHeartbeats 1000000 in
theorem lc_p1_nb (p q r v n a b c x y z u lo hi ca cb cl o : Int) (l : Bool) (Ke : Hid (∀ w : World, Calls Try.prog 13 #[.int .i64 v] w fun e w' => e = .returned (.int .i64 n) ∧ w = w')) (Ka : Hid (∀ w : World, Calls Try.prog 14 #[.int .i64 p, .int .i64 n] w fun e w' => e = .returned (.int .i64 a) ∧ w = w')) (Kb : Hid (∀ w : World, Calls Try.prog 14 #[.int .i64 q, .int .i64 n] w fun e w' => e = .returned (.int .i64 b) ∧ w = w')) (Kc : Hid (∀ w : World, Calls Try.prog 14 #[.int .i64 r, .int .i64 n] w fun e w' => e = .returned (.int .i64 c) ∧ w = w')) (Kx : Hid (∀ w : World, Calls Try.prog 20 #[.int .i64 a, .int .i64 b, .int .i64 n] w fun e w' => e = .returned (.int .i64 x) ∧ Kept w w')) (Ky : Hid (∀ w : World, Calls Try.prog 20 #[.int .i64 b, .int .i64 a, .int .i64 n] w fun e w' => e = .returned (.int .i64 y) ∧ Kept w w')) (Kl : Hid (∀ w : World, Calls Try.prog 17 #[.int .i64 a, .int .i64 b, .int .i64 n] w fun e w' => e = .returned (.bool l) ∧ Kept w w')) (Kz : Hid (∀ w : World, Calls Try.prog 20 #[.int .i64 b, .int .i64 c, .int .i64 n] w fun e w' => e = .returned (.int .i64 z) ∧ Kept w w')) (Ku : Hid (∀ w : World, Calls Try.prog 20 #[.int .i64 a, .int .i64 c, .int .i64 n] w fun e w' => e = .returned (.int .i64 u) ∧ Kept w w')) (Klo : Hid (∀ w : World, Calls Try.prog 21 #[.int .i64 a, .int .i64 b, .int .i64 n] w fun e w' => e = .returned (.int .i64 lo) ∧ Kept w w')) (Khi : Hid (∀ w : World, Calls Try.prog 22 #[.int .i64 a, .int .i64 b, .int .i64 n] w fun e w' => e = .returned (.int .i64 hi) ∧ Kept w w')) (Kca : Hid (∀ w : World, Calls Try.prog 16 #[.int .i64 a, .int .i64 n] w fun e w' => e = .returned (.int .i64 ca) ∧ Kept w w')) (Kcb : Hid (∀ w : World, Calls Try.prog 16 #[.int .i64 b, .int .i64 n] w fun e w' => e = .returned (.int .i64 cb) ∧ Kept w w')) (Kcl : Hid (∀ w : World, Calls Try.prog 16 #[.int .i64 lo, .int .i64 n] w fun e w' => e = .returned (.int .i64 cl) ∧ Kept w w')) (Ko : Hid (∀ w : World, Calls Try.prog 20 #[.int .i64 lo, .int .i64 hi, .int .i64 n] w fun e w' => e = .returned (.int .i64 o) ∧ Kept w w')) (hx : x = 1) (hy : y = -1) (hl : l = false) (hca : (ca == 4) = false) (hcb : (cb == 4) = true) (hcl : (cl == 4) = true) (hlh : (lo == hi) = true) (w : World) : Calls Try.prog 5 #[.int .i64 p, .int .i64 q, .int .i64 r, .int .i64 v] w fun e w' => e = .returned (.bool true) ∧ Kept w w' := by
  subst hx hy hl
  go_enter Try.func5, Try.ntmps5
  go_wp2_with fail
  refine (Ke.out _).mono ?_
  rintro e w1 ⟨rfl, rfl⟩
  go_wp2_with fail
  refine (Ka.out _).mono ?_
  rintro e w1 ⟨rfl, rfl⟩
  go_wp2_with fail
  refine (Kb.out _).mono ?_
  rintro e w1 ⟨rfl, rfl⟩
  go_wp2_with fail
  refine (Kc.out _).mono ?_
  rintro e w1 ⟨rfl, rfl⟩
  go_wp2_with fail
  refine (Kx.out _).mono ?_
  rintro e w2 ⟨rfl, hk⟩
  have hK := hk
  clear hk
  go_wp2_with fail
  refine (alive_any _).mono ?_
  rintro e w3 ⟨rfl, hk⟩
  replace hK := hK.trans hk
  clear hk
  go_wp2_with fail
  refine (Ky.out _).mono ?_
  rintro e w4 ⟨rfl, hk⟩
  replace hK := hK.trans hk
  clear hk
  go_wp2_with fail
  refine (Kl.out _).mono ?_
  rintro e w5 ⟨rfl, hk⟩
  replace hK := hK.trans hk
  clear hk
  go_wp2_with fail
  refine (Klo.out _).mono ?_
  rintro e w6 ⟨rfl, hk⟩
  replace hK := hK.trans hk
  clear hk
  go_wp2_with fail
  refine (Khi.out _).mono ?_
  rintro e w7 ⟨rfl, hk⟩
  replace hK := hK.trans hk
  clear hk
  go_wp2_with fail
  refine (Kca.out _).mono ?_
  rintro e w8 ⟨rfl, hk⟩
  replace hK := hK.trans hk
  clear hk
  go_wp2_with fail
  refine (Kcb.out _).mono ?_
  rintro e w9 ⟨rfl, hk⟩
  replace hK := hK.trans hk
  clear hk
  go_wp2_with fail
  refine (Kcl.out _).mono ?_
  rintro e w10 ⟨rfl, hk⟩
  replace hK := hK.trans hk
  clear hk
  go_wp2
  go_ret
  exact ⟨rfl, hK⟩

set_option maxHeartbeats 1000000 in
theorem lc_p1_aa (p q r v n a b c x y z u lo hi ca cb cl o : Int) (l : Bool) (Ke : Hid (∀ w : World, Calls Try.prog 13 #[.int .i64 v] w fun e w' => e = .returned (.int .i64 n) ∧ w = w')) (Ka : Hid (∀ w : World, Calls Try.prog 14 #[.int .i64 p, .int .i64 n] w fun e w' => e = .returned (.int .i64 a) ∧ w = w')) (Kb : Hid (∀ w : World, Calls Try.prog 14 #[.int .i64 q, .int .i64 n] w fun e w' => e = .returned (.int .i64 b) ∧ w = w')) (Kc : Hid (∀ w : World, Calls Try.prog 14 #[.int .i64 r, .int .i64 n] w fun e w' => e = .returned (.int .i64 c) ∧ w = w')) (Kx : Hid (∀ w : World, Calls Try.prog 20 #[.int .i64 a, .int .i64 b, .int .i64 n] w fun e w' => e = .returned (.int .i64 x) ∧ Kept w w')) (Ky : Hid (∀ w : World, Calls Try.prog 20 #[.int .i64 b, .int .i64 a, .int .i64 n] w fun e w' => e = .returned (.int .i64 y) ∧ Kept w w')) (Kl : Hid (∀ w : World, Calls Try.prog 17 #[.int .i64 a, .int .i64 b, .int .i64 n] w fun e w' => e = .returned (.bool l) ∧ Kept w w')) (Kz : Hid (∀ w : World, Calls Try.prog 20 #[.int .i64 b, .int .i64 c, .int .i64 n] w fun e w' => e = .returned (.int .i64 z) ∧ Kept w w')) (Ku : Hid (∀ w : World, Calls Try.prog 20 #[.int .i64 a, .int .i64 c, .int .i64 n] w fun e w' => e = .returned (.int .i64 u) ∧ Kept w w')) (Klo : Hid (∀ w : World, Calls Try.prog 21 #[.int .i64 a, .int .i64 b, .int .i64 n] w fun e w' => e = .returned (.int .i64 lo) ∧ Kept w w')) (Khi : Hid (∀ w : World, Calls Try.prog 22 #[.int .i64 a, .int .i64 b, .int .i64 n] w fun e w' => e = .returned (.int .i64 hi) ∧ Kept w w')) (Kca : Hid (∀ w : World, Calls Try.prog 16 #[.int .i64 a, .int .i64 n] w fun e w' => e = .returned (.int .i64 ca) ∧ Kept w w')) (Kcb : Hid (∀ w : World, Calls Try.prog 16 #[.int .i64 b, .int .i64 n] w fun e w' => e = .returned (.int .i64 cb) ∧ Kept w w')) (Kcl : Hid (∀ w : World, Calls Try.prog 16 #[.int .i64 lo, .int .i64 n] w fun e w' => e = .returned (.int .i64 cl) ∧ Kept w w')) (Ko : Hid (∀ w : World, Calls Try.prog 20 #[.int .i64 lo, .int .i64 hi, .int .i64 n] w fun e w' => e = .returned (.int .i64 o) ∧ Kept w w')) (hx : x = 1) (hy : y = -1) (hl : l = false) (hca : (ca == 4) = false) (hcb : (cb == 4) = false) (h1 : (lo == a) = true) (h2 : (hi == b) = true) (ho : o ≤ 0) (w : World) : Calls Try.prog 5 #[.int .i64 p, .int .i64 q, .int .i64 r, .int .i64 v] w fun e w' => e = .returned (.bool true) ∧ Kept w w' := by
  subst hx hy hl
  go_enter Try.func5, Try.ntmps5
  go_wp2_with fail
  refine (Ke.out _).mono ?_
  rintro e w1 ⟨rfl, rfl⟩
  go_wp2_with fail
  refine (Ka.out _).mono ?_
  rintro e w1 ⟨rfl, rfl⟩
  go_wp2_with fail
  refine (Kb.out _).mono ?_
  rintro e w1 ⟨rfl, rfl⟩
  go_wp2_with fail
  refine (Kc.out _).mono ?_
  rintro e w1 ⟨rfl, rfl⟩
  go_wp2_with fail
  refine (Kx.out _).mono ?_
  rintro e w2 ⟨rfl, hk⟩
  have hK := hk
  clear hk
  go_wp2_with fail
  refine (alive_any _).mono ?_
  rintro e w3 ⟨rfl, hk⟩
  replace hK := hK.trans hk
  clear hk
  go_wp2_with fail
  refine (Ky.out _).mono ?_
  rintro e w4 ⟨rfl, hk⟩
  replace hK := hK.trans hk
  clear hk
  go_wp2_with fail
  refine (Kl.out _).mono ?_
  rintro e w5 ⟨rfl, hk⟩
  replace hK := hK.trans hk
  clear hk
  go_wp2_with fail
  refine (Klo.out _).mono ?_
  rintro e w6 ⟨rfl, hk⟩
  replace hK := hK.trans hk
  clear hk
  go_wp2_with fail
  refine (Khi.out _).mono ?_
  rintro e w7 ⟨rfl, hk⟩
  replace hK := hK.trans hk
  clear hk
  go_wp2_with fail
  refine (Kca.out _).mono ?_
  rintro e w8 ⟨rfl, hk⟩
  replace hK := hK.trans hk
  clear hk
  go_wp2_with fail
  refine (Kcb.out _).mono ?_
  rintro e w9 ⟨rfl, hk⟩
  replace hK := hK.trans hk
  clear hk
  go_wp2_with fail
  refine (Ko.out _).mono ?_
  rintro e w10 ⟨rfl, hk⟩
  replace hK := hK.trans hk
  clear hk
  go_wp2
  go_ret
  exact ⟨rfl, hK⟩

set_option maxHeartbeats 1000000 in
theorem lc_p1_bb (p q r v n a b c x y z u lo hi ca cb cl o : Int) (l : Bool) (Ke : Hid (∀ w : World, Calls Try.prog 13 #[.int .i64 v] w fun e w' => e = .returned (.int .i64 n) ∧ w = w')) (Ka : Hid (∀ w : World, Calls Try.prog 14 #[.int .i64 p, .int .i64 n] w fun e w' => e = .returned (.int .i64 a) ∧ w = w')) (Kb : Hid (∀ w : World, Calls Try.prog 14 #[.int .i64 q, .int .i64 n] w fun e w' => e = .returned (.int .i64 b) ∧ w = w')) (Kc : Hid (∀ w : World, Calls Try.prog 14 #[.int .i64 r, .int .i64 n] w fun e w' => e = .returned (.int .i64 c) ∧ w = w')) (Kx : Hid (∀ w : World, Calls Try.prog 20 #[.int .i64 a, .int .i64 b, .int .i64 n] w fun e w' => e = .returned (.int .i64 x) ∧ Kept w w')) (Ky : Hid (∀ w : World, Calls Try.prog 20 #[.int .i64 b, .int .i64 a, .int .i64 n] w fun e w' => e = .returned (.int .i64 y) ∧ Kept w w')) (Kl : Hid (∀ w : World, Calls Try.prog 17 #[.int .i64 a, .int .i64 b, .int .i64 n] w fun e w' => e = .returned (.bool l) ∧ Kept w w')) (Kz : Hid (∀ w : World, Calls Try.prog 20 #[.int .i64 b, .int .i64 c, .int .i64 n] w fun e w' => e = .returned (.int .i64 z) ∧ Kept w w')) (Ku : Hid (∀ w : World, Calls Try.prog 20 #[.int .i64 a, .int .i64 c, .int .i64 n] w fun e w' => e = .returned (.int .i64 u) ∧ Kept w w')) (Klo : Hid (∀ w : World, Calls Try.prog 21 #[.int .i64 a, .int .i64 b, .int .i64 n] w fun e w' => e = .returned (.int .i64 lo) ∧ Kept w w')) (Khi : Hid (∀ w : World, Calls Try.prog 22 #[.int .i64 a, .int .i64 b, .int .i64 n] w fun e w' => e = .returned (.int .i64 hi) ∧ Kept w w')) (Kca : Hid (∀ w : World, Calls Try.prog 16 #[.int .i64 a, .int .i64 n] w fun e w' => e = .returned (.int .i64 ca) ∧ Kept w w')) (Kcb : Hid (∀ w : World, Calls Try.prog 16 #[.int .i64 b, .int .i64 n] w fun e w' => e = .returned (.int .i64 cb) ∧ Kept w w')) (Kcl : Hid (∀ w : World, Calls Try.prog 16 #[.int .i64 lo, .int .i64 n] w fun e w' => e = .returned (.int .i64 cl) ∧ Kept w w')) (Ko : Hid (∀ w : World, Calls Try.prog 20 #[.int .i64 lo, .int .i64 hi, .int .i64 n] w fun e w' => e = .returned (.int .i64 o) ∧ Kept w w')) (hx : x = 1) (hy : y = -1) (hl : l = false) (hca : (ca == 4) = false) (hcb : (cb == 4) = false) (h1 : (lo == a) = false) (h2 : (lo == b) = true) (h3 : (hi == a) = true) (ho : o ≤ 0) (w : World) : Calls Try.prog 5 #[.int .i64 p, .int .i64 q, .int .i64 r, .int .i64 v] w fun e w' => e = .returned (.bool true) ∧ Kept w w' := by
  subst hx hy hl
  go_enter Try.func5, Try.ntmps5
  go_wp2_with fail
  refine (Ke.out _).mono ?_
  rintro e w1 ⟨rfl, rfl⟩
  go_wp2_with fail
  refine (Ka.out _).mono ?_
  rintro e w1 ⟨rfl, rfl⟩
  go_wp2_with fail
  refine (Kb.out _).mono ?_
  rintro e w1 ⟨rfl, rfl⟩
  go_wp2_with fail
  refine (Kc.out _).mono ?_
  rintro e w1 ⟨rfl, rfl⟩
  go_wp2_with fail
  refine (Kx.out _).mono ?_
  rintro e w2 ⟨rfl, hk⟩
  have hK := hk
  clear hk
  go_wp2_with fail
  refine (alive_any _).mono ?_
  rintro e w3 ⟨rfl, hk⟩
  replace hK := hK.trans hk
  clear hk
  go_wp2_with fail
  refine (Ky.out _).mono ?_
  rintro e w4 ⟨rfl, hk⟩
  replace hK := hK.trans hk
  clear hk
  go_wp2_with fail
  refine (Kl.out _).mono ?_
  rintro e w5 ⟨rfl, hk⟩
  replace hK := hK.trans hk
  clear hk
  go_wp2_with fail
  refine (Klo.out _).mono ?_
  rintro e w6 ⟨rfl, hk⟩
  replace hK := hK.trans hk
  clear hk
  go_wp2_with fail
  refine (Khi.out _).mono ?_
  rintro e w7 ⟨rfl, hk⟩
  replace hK := hK.trans hk
  clear hk
  go_wp2_with fail
  refine (Kca.out _).mono ?_
  rintro e w8 ⟨rfl, hk⟩
  replace hK := hK.trans hk
  clear hk
  go_wp2_with fail
  refine (Kcb.out _).mono ?_
  rintro e w9 ⟨rfl, hk⟩
  replace hK := hK.trans hk
  clear hk
  go_wp2_with fail
  refine (Ko.out _).mono ?_
  rintro e w10 ⟨rfl, hk⟩
  replace hK := hK.trans hk
  clear hk
  go_wp2
  go_ret
  exact ⟨rfl, hK⟩

set_option maxHeartbeats 1000000 in
theorem lc_p0z_na (p q r v n a b c x y z u lo hi ca cb cl o : Int) (l : Bool) (Ke : Hid (∀ w : World, Calls Try.prog 13 #[.int .i64 v] w fun e w' => e = .returned (.int .i64 n) ∧ w = w')) (Ka : Hid (∀ w : World, Calls Try.prog 14 #[.int .i64 p, .int .i64 n] w fun e w' => e = .returned (.int .i64 a) ∧ w = w')) (Kb : Hid (∀ w : World, Calls Try.prog 14 #[.int .i64 q, .int .i64 n] w fun e w' => e = .returned (.int .i64 b) ∧ w = w')) (Kc : Hid (∀ w : World, Calls Try.prog 14 #[.int .i64 r, .int .i64 n] w fun e w' => e = .returned (.int .i64 c) ∧ w = w')) (Kx : Hid (∀ w : World, Calls Try.prog 20 #[.int .i64 a, .int .i64 b, .int .i64 n] w fun e w' => e = .returned (.int .i64 x) ∧ Kept w w')) (Ky : Hid (∀ w : World, Calls Try.prog 20 #[.int .i64 b, .int .i64 a, .int .i64 n] w fun e w' => e = .returned (.int .i64 y) ∧ Kept w w')) (Kl : Hid (∀ w : World, Calls Try.prog 17 #[.int .i64 a, .int .i64 b, .int .i64 n] w fun e w' => e = .returned (.bool l) ∧ Kept w w')) (Kz : Hid (∀ w : World, Calls Try.prog 20 #[.int .i64 b, .int .i64 c, .int .i64 n] w fun e w' => e = .returned (.int .i64 z) ∧ Kept w w')) (Ku : Hid (∀ w : World, Calls Try.prog 20 #[.int .i64 a, .int .i64 c, .int .i64 n] w fun e w' => e = .returned (.int .i64 u) ∧ Kept w w')) (Klo : Hid (∀ w : World, Calls Try.prog 21 #[.int .i64 a, .int .i64 b, .int .i64 n] w fun e w' => e = .returned (.int .i64 lo) ∧ Kept w w')) (Khi : Hid (∀ w : World, Calls Try.prog 22 #[.int .i64 a, .int .i64 b, .int .i64 n] w fun e w' => e = .returned (.int .i64 hi) ∧ Kept w w')) (Kca : Hid (∀ w : World, Calls Try.prog 16 #[.int .i64 a, .int .i64 n] w fun e w' => e = .returned (.int .i64 ca) ∧ Kept w w')) (Kcb : Hid (∀ w : World, Calls Try.prog 16 #[.int .i64 b, .int .i64 n] w fun e w' => e = .returned (.int .i64 cb) ∧ Kept w w')) (Kcl : Hid (∀ w : World, Calls Try.prog 16 #[.int .i64 lo, .int .i64 n] w fun e w' => e = .returned (.int .i64 cl) ∧ Kept w w')) (Ko : Hid (∀ w : World, Calls Try.prog 20 #[.int .i64 lo, .int .i64 hi, .int .i64 n] w fun e w' => e = .returned (.int .i64 o) ∧ Kept w w')) (hx : x = 0) (hy : y = 0) (hl : l = false) (hz : z ≤ 0) (hu : u ≤ 0) (hca : (ca == 4) = true) (hcl : (cl == 4) = true) (hlh : (lo == hi) = true) (w : World) : Calls Try.prog 5 #[.int .i64 p, .int .i64 q, .int .i64 r, .int .i64 v] w fun e w' => e = .returned (.bool true) ∧ Kept w w' := by
  subst hx hy hl
  go_enter Try.func5, Try.ntmps5
  go_wp2_with fail
  refine (Ke.out _).mono ?_
  rintro e w1 ⟨rfl, rfl⟩
  go_wp2_with fail
  refine (Ka.out _).mono ?_
  rintro e w1 ⟨rfl, rfl⟩
  go_wp2_with fail
  refine (Kb.out _).mono ?_
  rintro e w1 ⟨rfl, rfl⟩
  go_wp2_with fail
  refine (Kc.out _).mono ?_
  rintro e w1 ⟨rfl, rfl⟩
  go_wp2_with fail
  refine (Kx.out _).mono ?_
  rintro e w2 ⟨rfl, hk⟩
  have hK := hk
  clear hk
  go_wp2_with fail
  refine (alive_any _).mono ?_
  rintro e w3 ⟨rfl, hk⟩
  replace hK := hK.trans hk
  clear hk
  go_wp2_with fail
  refine (Ky.out _).mono ?_
  rintro e w4 ⟨rfl, hk⟩
  replace hK := hK.trans hk
  clear hk
  go_wp2_with fail
  refine (Kl.out _).mono ?_
  rintro e w5 ⟨rfl, hk⟩
  replace hK := hK.trans hk
  clear hk
  go_wp2_with fail
  refine (Kz.out _).mono ?_
  rintro e w6 ⟨rfl, hk⟩
  replace hK := hK.trans hk
  clear hk
  go_wp2_with fail
  refine (Ku.out _).mono ?_
  rintro e w7 ⟨rfl, hk⟩
  replace hK := hK.trans hk
  clear hk
  go_wp2_with fail
  refine (Klo.out _).mono ?_
  rintro e w8 ⟨rfl, hk⟩
  replace hK := hK.trans hk
  clear hk
  go_wp2_with fail
  refine (Khi.out _).mono ?_
  rintro e w9 ⟨rfl, hk⟩
  replace hK := hK.trans hk
  clear hk
  go_wp2_with fail
  refine (Kca.out _).mono ?_
  rintro e w10 ⟨rfl, hk⟩
  replace hK := hK.trans hk
  clear hk
  go_wp2_with fail
  refine (Kcl.out _).mono ?_
  rintro e w11 ⟨rfl, hk⟩
  replace hK := hK.trans hk
  clear hk
  go_wp2
  go_ret
  exact ⟨rfl, hK⟩

set_option maxHeartbeats 1000000 in
theorem lc_p0z_nb (p q r v n a b c x y z u lo hi ca cb cl o : Int) (l : Bool) (Ke : Hid (∀ w : World, Calls Try.prog 13 #[.int .i64 v] w fun e w' => e = .returned (.int .i64 n) ∧ w = w')) (Ka : Hid (∀ w : World, Calls Try.prog 14 #[.int .i64 p, .int .i64 n] w fun e w' => e = .returned (.int .i64 a) ∧ w = w')) (Kb : Hid (∀ w : World, Calls Try.prog 14 #[.int .i64 q, .int .i64 n] w fun e w' => e = .returned (.int .i64 b) ∧ w = w')) (Kc : Hid (∀ w : World, Calls Try.prog 14 #[.int .i64 r, .int .i64 n] w fun e w' => e = .returned (.int .i64 c) ∧ w = w')) (Kx : Hid (∀ w : World, Calls Try.prog 20 #[.int .i64 a, .int .i64 b, .int .i64 n] w fun e w' => e = .returned (.int .i64 x) ∧ Kept w w')) (Ky : Hid (∀ w : World, Calls Try.prog 20 #[.int .i64 b, .int .i64 a, .int .i64 n] w fun e w' => e = .returned (.int .i64 y) ∧ Kept w w')) (Kl : Hid (∀ w : World, Calls Try.prog 17 #[.int .i64 a, .int .i64 b, .int .i64 n] w fun e w' => e = .returned (.bool l) ∧ Kept w w')) (Kz : Hid (∀ w : World, Calls Try.prog 20 #[.int .i64 b, .int .i64 c, .int .i64 n] w fun e w' => e = .returned (.int .i64 z) ∧ Kept w w')) (Ku : Hid (∀ w : World, Calls Try.prog 20 #[.int .i64 a, .int .i64 c, .int .i64 n] w fun e w' => e = .returned (.int .i64 u) ∧ Kept w w')) (Klo : Hid (∀ w : World, Calls Try.prog 21 #[.int .i64 a, .int .i64 b, .int .i64 n] w fun e w' => e = .returned (.int .i64 lo) ∧ Kept w w')) (Khi : Hid (∀ w : World, Calls Try.prog 22 #[.int .i64 a, .int .i64 b, .int .i64 n] w fun e w' => e = .returned (.int .i64 hi) ∧ Kept w w')) (Kca : Hid (∀ w : World, Calls Try.prog 16 #[.int .i64 a, .int .i64 n] w fun e w' => e = .returned (.int .i64 ca) ∧ Kept w w')) (Kcb : Hid (∀ w : World, Calls Try.prog 16 #[.int .i64 b, .int .i64 n] w fun e w' => e = .returned (.int .i64 cb) ∧ Kept w w')) (Kcl : Hid (∀ w : World, Calls Try.prog 16 #[.int .i64 lo, .int .i64 n] w fun e w' => e = .returned (.int .i64 cl) ∧ Kept w w')) (Ko : Hid (∀ w : World, Calls Try.prog 20 #[.int .i64 lo, .int .i64 hi, .int .i64 n] w fun e w' => e = .returned (.int .i64 o) ∧ Kept w w')) (hx : x = 0) (hy : y = 0) (hl : l = false) (hz : z ≤ 0) (hu : u ≤ 0) (hca : (ca == 4) = false) (hcb : (cb == 4) = true) (hcl : (cl == 4) = true) (hlh : (lo == hi) = true) (w : World) : Calls Try.prog 5 #[.int .i64 p, .int .i64 q, .int .i64 r, .int .i64 v] w fun e w' => e = .returned (.bool true) ∧ Kept w w' := by
  subst hx hy hl
  go_enter Try.func5, Try.ntmps5
  go_wp2_with fail
  refine (Ke.out _).mono ?_
  rintro e w1 ⟨rfl, rfl⟩
  go_wp2_with fail
  refine (Ka.out _).mono ?_
  rintro e w1 ⟨rfl, rfl⟩
  go_wp2_with fail
  refine (Kb.out _).mono ?_
  rintro e w1 ⟨rfl, rfl⟩
  go_wp2_with fail
  refine (Kc.out _).mono ?_
  rintro e w1 ⟨rfl, rfl⟩
  go_wp2_with fail
  refine (Kx.out _).mono ?_
  rintro e w2 ⟨rfl, hk⟩
  have hK := hk
  clear hk
  go_wp2_with fail
  refine (alive_any _).mono ?_
  rintro e w3 ⟨rfl, hk⟩
  replace hK := hK.trans hk
  clear hk
  go_wp2_with fail
  refine (Ky.out _).mono ?_
  rintro e w4 ⟨rfl, hk⟩
  replace hK := hK.trans hk
  clear hk
  go_wp2_with fail
  refine (Kl.out _).mono ?_
  rintro e w5 ⟨rfl, hk⟩
  replace hK := hK.trans hk
  clear hk
  go_wp2_with fail
  refine (Kz.out _).mono ?_
  rintro e w6 ⟨rfl, hk⟩
  replace hK := hK.trans hk
  clear hk
  go_wp2_with fail
  refine (Ku.out _).mono ?_
  rintro e w7 ⟨rfl, hk⟩
  replace hK := hK.trans hk
  clear hk
  go_wp2_with fail
  refine (Klo.out _).mono ?_
  rintro e w8 ⟨rfl, hk⟩
  replace hK := hK.trans hk
  clear hk
  go_wp2_with fail
  refine (Khi.out _).mono ?_
  rintro e w9 ⟨rfl, hk⟩
  replace hK := hK.trans hk
  clear hk
  go_wp2_with fail
  refine (Kca.out _).mono ?_
  rintro e w10 ⟨rfl, hk⟩
  replace hK := hK.trans hk
  clear hk
  go_wp2_with fail
  refine (Kcb.out _).mono ?_
  rintro e w11 ⟨rfl, hk⟩
  replace hK := hK.trans hk
  clear hk
  go_wp2_with fail
  refine (Kcl.out _).mono ?_
  rintro e w12 ⟨rfl, hk⟩
  replace hK := hK.trans hk
  clear hk
  go_wp2
  go_ret
  exact ⟨rfl, hK⟩

set_option maxHeartbeats 1000000 in
theorem lc_p0z_aa (p q r v n a b c x y z u lo hi ca cb cl o : Int) (l : Bool) (Ke : Hid (∀ w : World, Calls Try.prog 13 #[.int .i64 v] w fun e w' => e = .returned (.int .i64 n) ∧ w = w')) (Ka : Hid (∀ w : World, Calls Try.prog 14 #[.int .i64 p, .int .i64 n] w fun e w' => e = .returned (.int .i64 a) ∧ w = w')) (Kb : Hid (∀ w : World, Calls Try.prog 14 #[.int .i64 q, .int .i64 n] w fun e w' => e = .returned (.int .i64 b) ∧ w = w')) (Kc : Hid (∀ w : World, Calls Try.prog 14 #[.int .i64 r, .int .i64 n] w fun e w' => e = .returned (.int .i64 c) ∧ w = w')) (Kx : Hid (∀ w : World, Calls Try.prog 20 #[.int .i64 a, .int .i64 b, .int .i64 n] w fun e w' => e = .returned (.int .i64 x) ∧ Kept w w')) (Ky : Hid (∀ w : World, Calls Try.prog 20 #[.int .i64 b, .int .i64 a, .int .i64 n] w fun e w' => e = .returned (.int .i64 y) ∧ Kept w w')) (Kl : Hid (∀ w : World, Calls Try.prog 17 #[.int .i64 a, .int .i64 b, .int .i64 n] w fun e w' => e = .returned (.bool l) ∧ Kept w w')) (Kz : Hid (∀ w : World, Calls Try.prog 20 #[.int .i64 b, .int .i64 c, .int .i64 n] w fun e w' => e = .returned (.int .i64 z) ∧ Kept w w')) (Ku : Hid (∀ w : World, Calls Try.prog 20 #[.int .i64 a, .int .i64 c, .int .i64 n] w fun e w' => e = .returned (.int .i64 u) ∧ Kept w w')) (Klo : Hid (∀ w : World, Calls Try.prog 21 #[.int .i64 a, .int .i64 b, .int .i64 n] w fun e w' => e = .returned (.int .i64 lo) ∧ Kept w w')) (Khi : Hid (∀ w : World, Calls Try.prog 22 #[.int .i64 a, .int .i64 b, .int .i64 n] w fun e w' => e = .returned (.int .i64 hi) ∧ Kept w w')) (Kca : Hid (∀ w : World, Calls Try.prog 16 #[.int .i64 a, .int .i64 n] w fun e w' => e = .returned (.int .i64 ca) ∧ Kept w w')) (Kcb : Hid (∀ w : World, Calls Try.prog 16 #[.int .i64 b, .int .i64 n] w fun e w' => e = .returned (.int .i64 cb) ∧ Kept w w')) (Kcl : Hid (∀ w : World, Calls Try.prog 16 #[.int .i64 lo, .int .i64 n] w fun e w' => e = .returned (.int .i64 cl) ∧ Kept w w')) (Ko : Hid (∀ w : World, Calls Try.prog 20 #[.int .i64 lo, .int .i64 hi, .int .i64 n] w fun e w' => e = .returned (.int .i64 o) ∧ Kept w w')) (hx : x = 0) (hy : y = 0) (hl : l = false) (hz : z ≤ 0) (hu : u ≤ 0) (hca : (ca == 4) = false) (hcb : (cb == 4) = false) (h1 : (lo == a) = true) (h2 : (hi == b) = true) (ho : o ≤ 0) (w : World) : Calls Try.prog 5 #[.int .i64 p, .int .i64 q, .int .i64 r, .int .i64 v] w fun e w' => e = .returned (.bool true) ∧ Kept w w' := by
  subst hx hy hl
  go_enter Try.func5, Try.ntmps5
  go_wp2_with fail
  refine (Ke.out _).mono ?_
  rintro e w1 ⟨rfl, rfl⟩
  go_wp2_with fail
  refine (Ka.out _).mono ?_
  rintro e w1 ⟨rfl, rfl⟩
  go_wp2_with fail
  refine (Kb.out _).mono ?_
  rintro e w1 ⟨rfl, rfl⟩
  go_wp2_with fail
  refine (Kc.out _).mono ?_
  rintro e w1 ⟨rfl, rfl⟩
  go_wp2_with fail
  refine (Kx.out _).mono ?_
  rintro e w2 ⟨rfl, hk⟩
  have hK := hk
  clear hk
  go_wp2_with fail
  refine (alive_any _).mono ?_
  rintro e w3 ⟨rfl, hk⟩
  replace hK := hK.trans hk
  clear hk
  go_wp2_with fail
  refine (Ky.out _).mono ?_
  rintro e w4 ⟨rfl, hk⟩
  replace hK := hK.trans hk
  clear hk
  go_wp2_with fail
  refine (Kl.out _).mono ?_
  rintro e w5 ⟨rfl, hk⟩
  replace hK := hK.trans hk
  clear hk
  go_wp2_with fail
  refine (Kz.out _).mono ?_
  rintro e w6 ⟨rfl, hk⟩
  replace hK := hK.trans hk
  clear hk
  go_wp2_with fail
  refine (Ku.out _).mono ?_
  rintro e w7 ⟨rfl, hk⟩
  replace hK := hK.trans hk
  clear hk
  go_wp2_with fail
  refine (Klo.out _).mono ?_
  rintro e w8 ⟨rfl, hk⟩
  replace hK := hK.trans hk
  clear hk
  go_wp2_with fail
  refine (Khi.out _).mono ?_
  rintro e w9 ⟨rfl, hk⟩
  replace hK := hK.trans hk
  clear hk
  go_wp2_with fail
  refine (Kca.out _).mono ?_
  rintro e w10 ⟨rfl, hk⟩
  replace hK := hK.trans hk
  clear hk
  go_wp2_with fail
  refine (Kcb.out _).mono ?_
  rintro e w11 ⟨rfl, hk⟩
  replace hK := hK.trans hk
  clear hk
  go_wp2_with fail
  refine (Ko.out _).mono ?_
  rintro e w12 ⟨rfl, hk⟩
  replace hK := hK.trans hk
  clear hk
  go_wp2
  go_ret
  exact ⟨rfl, hK⟩

set_option maxHeartbeats 1000000 in
theorem lc_p0z_bb (p q r v n a b c x y z u lo hi ca cb cl o : Int) (l : Bool) (Ke : Hid (∀ w : World, Calls Try.prog 13 #[.int .i64 v] w fun e w' => e = .returned (.int .i64 n) ∧ w = w')) (Ka : Hid (∀ w : World, Calls Try.prog 14 #[.int .i64 p, .int .i64 n] w fun e w' => e = .returned (.int .i64 a) ∧ w = w')) (Kb : Hid (∀ w : World, Calls Try.prog 14 #[.int .i64 q, .int .i64 n] w fun e w' => e = .returned (.int .i64 b) ∧ w = w')) (Kc : Hid (∀ w : World, Calls Try.prog 14 #[.int .i64 r, .int .i64 n] w fun e w' => e = .returned (.int .i64 c) ∧ w = w')) (Kx : Hid (∀ w : World, Calls Try.prog 20 #[.int .i64 a, .int .i64 b, .int .i64 n] w fun e w' => e = .returned (.int .i64 x) ∧ Kept w w')) (Ky : Hid (∀ w : World, Calls Try.prog 20 #[.int .i64 b, .int .i64 a, .int .i64 n] w fun e w' => e = .returned (.int .i64 y) ∧ Kept w w')) (Kl : Hid (∀ w : World, Calls Try.prog 17 #[.int .i64 a, .int .i64 b, .int .i64 n] w fun e w' => e = .returned (.bool l) ∧ Kept w w')) (Kz : Hid (∀ w : World, Calls Try.prog 20 #[.int .i64 b, .int .i64 c, .int .i64 n] w fun e w' => e = .returned (.int .i64 z) ∧ Kept w w')) (Ku : Hid (∀ w : World, Calls Try.prog 20 #[.int .i64 a, .int .i64 c, .int .i64 n] w fun e w' => e = .returned (.int .i64 u) ∧ Kept w w')) (Klo : Hid (∀ w : World, Calls Try.prog 21 #[.int .i64 a, .int .i64 b, .int .i64 n] w fun e w' => e = .returned (.int .i64 lo) ∧ Kept w w')) (Khi : Hid (∀ w : World, Calls Try.prog 22 #[.int .i64 a, .int .i64 b, .int .i64 n] w fun e w' => e = .returned (.int .i64 hi) ∧ Kept w w')) (Kca : Hid (∀ w : World, Calls Try.prog 16 #[.int .i64 a, .int .i64 n] w fun e w' => e = .returned (.int .i64 ca) ∧ Kept w w')) (Kcb : Hid (∀ w : World, Calls Try.prog 16 #[.int .i64 b, .int .i64 n] w fun e w' => e = .returned (.int .i64 cb) ∧ Kept w w')) (Kcl : Hid (∀ w : World, Calls Try.prog 16 #[.int .i64 lo, .int .i64 n] w fun e w' => e = .returned (.int .i64 cl) ∧ Kept w w')) (Ko : Hid (∀ w : World, Calls Try.prog 20 #[.int .i64 lo, .int .i64 hi, .int .i64 n] w fun e w' => e = .returned (.int .i64 o) ∧ Kept w w')) (hx : x = 0) (hy : y = 0) (hl : l = false) (hz : z ≤ 0) (hu : u ≤ 0) (hca : (ca == 4) = false) (hcb : (cb == 4) = false) (h1 : (lo == a) = false) (h2 : (lo == b) = true) (h3 : (hi == a) = true) (ho : o ≤ 0) (w : World) : Calls Try.prog 5 #[.int .i64 p, .int .i64 q, .int .i64 r, .int .i64 v] w fun e w' => e = .returned (.bool true) ∧ Kept w w' := by
  subst hx hy hl
  go_enter Try.func5, Try.ntmps5
  go_wp2_with fail
  refine (Ke.out _).mono ?_
  rintro e w1 ⟨rfl, rfl⟩
  go_wp2_with fail
  refine (Ka.out _).mono ?_
  rintro e w1 ⟨rfl, rfl⟩
  go_wp2_with fail
  refine (Kb.out _).mono ?_
  rintro e w1 ⟨rfl, rfl⟩
  go_wp2_with fail
  refine (Kc.out _).mono ?_
  rintro e w1 ⟨rfl, rfl⟩
  go_wp2_with fail
  refine (Kx.out _).mono ?_
  rintro e w2 ⟨rfl, hk⟩
  have hK := hk
  clear hk
  go_wp2_with fail
  refine (alive_any _).mono ?_
  rintro e w3 ⟨rfl, hk⟩
  replace hK := hK.trans hk
  clear hk
  go_wp2_with fail
  refine (Ky.out _).mono ?_
  rintro e w4 ⟨rfl, hk⟩
  replace hK := hK.trans hk
  clear hk
  go_wp2_with fail
  refine (Kl.out _).mono ?_
  rintro e w5 ⟨rfl, hk⟩
  replace hK := hK.trans hk
  clear hk
  go_wp2_with fail
  refine (Kz.out _).mono ?_
  rintro e w6 ⟨rfl, hk⟩
  replace hK := hK.trans hk
  clear hk
  go_wp2_with fail
  refine (Ku.out _).mono ?_
  rintro e w7 ⟨rfl, hk⟩
  replace hK := hK.trans hk
  clear hk
  go_wp2_with fail
  refine (Klo.out _).mono ?_
  rintro e w8 ⟨rfl, hk⟩
  replace hK := hK.trans hk
  clear hk
  go_wp2_with fail
  refine (Khi.out _).mono ?_
  rintro e w9 ⟨rfl, hk⟩
  replace hK := hK.trans hk
  clear hk
  go_wp2_with fail
  refine (Kca.out _).mono ?_
  rintro e w10 ⟨rfl, hk⟩
  replace hK := hK.trans hk
  clear hk
  go_wp2_with fail
  refine (Kcb.out _).mono ?_
  rintro e w11 ⟨rfl, hk⟩
  replace hK := hK.trans hk
  clear hk
  go_wp2_with fail
  refine (Ko.out _).mono ?_
  rintro e w12 ⟨rfl, hk⟩
  replace hK := hK.trans hk
  clear hk
  go_wp2
  go_ret
  exact ⟨rfl, hK⟩

set_option maxHeartbeats 1000000 in
theorem lc_p0n_na (p q r v n a b c x y z u lo hi ca cb cl o : Int) (l : Bool) (Ke : Hid (∀ w : World, Calls Try.prog 13 #[.int .i64 v] w fun e w' => e = .returned (.int .i64 n) ∧ w = w')) (Ka : Hid (∀ w : World, Calls Try.prog 14 #[.int .i64 p, .int .i64 n] w fun e w' => e = .returned (.int .i64 a) ∧ w = w')) (Kb : Hid (∀ w : World, Calls Try.prog 14 #[.int .i64 q, .int .i64 n] w fun e w' => e = .returned (.int .i64 b) ∧ w = w')) (Kc : Hid (∀ w : World, Calls Try.prog 14 #[.int .i64 r, .int .i64 n] w fun e w' => e = .returned (.int .i64 c) ∧ w = w')) (Kx : Hid (∀ w : World, Calls Try.prog 20 #[.int .i64 a, .int .i64 b, .int .i64 n] w fun e w' => e = .returned (.int .i64 x) ∧ Kept w w')) (Ky : Hid (∀ w : World, Calls Try.prog 20 #[.int .i64 b, .int .i64 a, .int .i64 n] w fun e w' => e = .returned (.int .i64 y) ∧ Kept w w')) (Kl : Hid (∀ w : World, Calls Try.prog 17 #[.int .i64 a, .int .i64 b, .int .i64 n] w fun e w' => e = .returned (.bool l) ∧ Kept w w')) (Kz : Hid (∀ w : World, Calls Try.prog 20 #[.int .i64 b, .int .i64 c, .int .i64 n] w fun e w' => e = .returned (.int .i64 z) ∧ Kept w w')) (Ku : Hid (∀ w : World, Calls Try.prog 20 #[.int .i64 a, .int .i64 c, .int .i64 n] w fun e w' => e = .returned (.int .i64 u) ∧ Kept w w')) (Klo : Hid (∀ w : World, Calls Try.prog 21 #[.int .i64 a, .int .i64 b, .int .i64 n] w fun e w' => e = .returned (.int .i64 lo) ∧ Kept w w')) (Khi : Hid (∀ w : World, Calls Try.prog 22 #[.int .i64 a, .int .i64 b, .int .i64 n] w fun e w' => e = .returned (.int .i64 hi) ∧ Kept w w')) (Kca : Hid (∀ w : World, Calls Try.prog 16 #[.int .i64 a, .int .i64 n] w fun e w' => e = .returned (.int .i64 ca) ∧ Kept w w')) (Kcb : Hid (∀ w : World, Calls Try.prog 16 #[.int .i64 b, .int .i64 n] w fun e w' => e = .returned (.int .i64 cb) ∧ Kept w w')) (Kcl : Hid (∀ w : World, Calls Try.prog 16 #[.int .i64 lo, .int .i64 n] w fun e w' => e = .returned (.int .i64 cl) ∧ Kept w w')) (Ko : Hid (∀ w : World, Calls Try.prog 20 #[.int .i64 lo, .int .i64 hi, .int .i64 n] w fun e w' => e = .returned (.int .i64 o) ∧ Kept w w')) (hx : x = 0) (hy : y = 0) (hl : l = false) (hz : 0 < z) (hca : (ca == 4) = true) (hcl : (cl == 4) = true) (hlh : (lo == hi) = true) (w : World) : Calls Try.prog 5 #[.int .i64 p, .int .i64 q, .int .i64 r, .int .i64 v] w fun e w' => e = .returned (.bool true) ∧ Kept w w' := by
  subst hx hy hl
  go_enter Try.func5, Try.ntmps5
  go_wp2_with fail
  refine (Ke.out _).mono ?_
  rintro e w1 ⟨rfl, rfl⟩
  go_wp2_with fail
  refine (Ka.out _).mono ?_
  rintro e w1 ⟨rfl, rfl⟩
  go_wp2_with fail
  refine (Kb.out _).mono ?_
  rintro e w1 ⟨rfl, rfl⟩
  go_wp2_with fail
  refine (Kc.out _).mono ?_
  rintro e w1 ⟨rfl, rfl⟩
  go_wp2_with fail
  refine (Kx.out _).mono ?_
  rintro e w2 ⟨rfl, hk⟩
  have hK := hk
  clear hk
  go_wp2_with fail
  refine (alive_any _).mono ?_
  rintro e w3 ⟨rfl, hk⟩
  replace hK := hK.trans hk
  clear hk
  go_wp2_with fail
  refine (Ky.out _).mono ?_
  rintro e w4 ⟨rfl, hk⟩
  replace hK := hK.trans hk
  clear hk
  go_wp2_with fail
  refine (Kl.out _).mono ?_
  rintro e w5 ⟨rfl, hk⟩
  replace hK := hK.trans hk
  clear hk
  go_wp2_with fail
  refine (Kz.out _).mono ?_
  rintro e w6 ⟨rfl, hk⟩
  replace hK := hK.trans hk
  clear hk
  go_wp2_with fail
  refine (Klo.out _).mono ?_
  rintro e w7 ⟨rfl, hk⟩
  replace hK := hK.trans hk
  clear hk
  go_wp2_with fail
  refine (Khi.out _).mono ?_
  rintro e w8 ⟨rfl, hk⟩
  replace hK := hK.trans hk
  clear hk
  go_wp2_with fail
  refine (Kca.out _).mono ?_
  rintro e w9 ⟨rfl, hk⟩
  replace hK := hK.trans hk
  clear hk
  go_wp2_with fail
  refine (Kcl.out _).mono ?_
  rintro e w10 ⟨rfl, hk⟩
  replace hK := hK.trans hk
  clear hk
  go_wp2
  go_ret
  exact ⟨rfl, hK⟩

set_option maxHeartbeats 1000000 in
theorem lc_p0n_nb (p q r v n a b c x y z u lo hi ca cb cl o : Int) (l : Bool) (Ke : Hid (∀ w : World, Calls Try.prog 13 #[.int .i64 v] w fun e w' => e = .returned (.int .i64 n) ∧ w = w')) (Ka : Hid (∀ w : World, Calls Try.prog 14 #[.int .i64 p, .int .i64 n] w fun e w' => e = .returned (.int .i64 a) ∧ w = w')) (Kb : Hid (∀ w : World, Calls Try.prog 14 #[.int .i64 q, .int .i64 n] w fun e w' => e = .returned (.int .i64 b) ∧ w = w')) (Kc : Hid (∀ w : World, Calls Try.prog 14 #[.int .i64 r, .int .i64 n] w fun e w' => e = .returned (.int .i64 c) ∧ w = w')) (Kx : Hid (∀ w : World, Calls Try.prog 20 #[.int .i64 a, .int .i64 b, .int .i64 n] w fun e w' => e = .returned (.int .i64 x) ∧ Kept w w')) (Ky : Hid (∀ w : World, Calls Try.prog 20 #[.int .i64 b, .int .i64 a, .int .i64 n] w fun e w' => e = .returned (.int .i64 y) ∧ Kept w w')) (Kl : Hid (∀ w : World, Calls Try.prog 17 #[.int .i64 a, .int .i64 b, .int .i64 n] w fun e w' => e = .returned (.bool l) ∧ Kept w w')) (Kz : Hid (∀ w : World, Calls Try.prog 20 #[.int .i64 b, .int .i64 c, .int .i64 n] w fun e w' => e = .returned (.int .i64 z) ∧ Kept w w')) (Ku : Hid (∀ w : World, Calls Try.prog 20 #[.int .i64 a, .int .i64 c, .int .i64 n] w fun e w' => e = .returned (.int .i64 u) ∧ Kept w w')) (Klo : Hid (∀ w : World, Calls Try.prog 21 #[.int .i64 a, .int .i64 b, .int .i64 n] w fun e w' => e = .returned (.int .i64 lo) ∧ Kept w w')) (Khi : Hid (∀ w : World, Calls Try.prog 22 #[.int .i64 a, .int .i64 b, .int .i64 n] w fun e w' => e = .returned (.int .i64 hi) ∧ Kept w w')) (Kca : Hid (∀ w : World, Calls Try.prog 16 #[.int .i64 a, .int .i64 n] w fun e w' => e = .returned (.int .i64 ca) ∧ Kept w w')) (Kcb : Hid (∀ w : World, Calls Try.prog 16 #[.int .i64 b, .int .i64 n] w fun e w' => e = .returned (.int .i64 cb) ∧ Kept w w')) (Kcl : Hid (∀ w : World, Calls Try.prog 16 #[.int .i64 lo, .int .i64 n] w fun e w' => e = .returned (.int .i64 cl) ∧ Kept w w')) (Ko : Hid (∀ w : World, Calls Try.prog 20 #[.int .i64 lo, .int .i64 hi, .int .i64 n] w fun e w' => e = .returned (.int .i64 o) ∧ Kept w w')) (hx : x = 0) (hy : y = 0) (hl : l = false) (hz : 0 < z) (hca : (ca == 4) = false) (hcb : (cb == 4) = true) (hcl : (cl == 4) = true) (hlh : (lo == hi) = true) (w : World) : Calls Try.prog 5 #[.int .i64 p, .int .i64 q, .int .i64 r, .int .i64 v] w fun e w' => e = .returned (.bool true) ∧ Kept w w' := by
  subst hx hy hl
  go_enter Try.func5, Try.ntmps5
  go_wp2_with fail
  refine (Ke.out _).mono ?_
  rintro e w1 ⟨rfl, rfl⟩
  go_wp2_with fail
  refine (Ka.out _).mono ?_
  rintro e w1 ⟨rfl, rfl⟩
  go_wp2_with fail
  refine (Kb.out _).mono ?_
  rintro e w1 ⟨rfl, rfl⟩
  go_wp2_with fail
  refine (Kc.out _).mono ?_
  rintro e w1 ⟨rfl, rfl⟩
  go_wp2_with fail
  refine (Kx.out _).mono ?_
  rintro e w2 ⟨rfl, hk⟩
  have hK := hk
  clear hk
  go_wp2_with fail
  refine (alive_any _).mono ?_
  rintro e w3 ⟨rfl, hk⟩
  replace hK := hK.trans hk
  clear hk
  go_wp2_with fail
  refine (Ky.out _).mono ?_
  rintro e w4 ⟨rfl, hk⟩
  replace hK := hK.trans hk
  clear hk
  go_wp2_with fail
  refine (Kl.out _).mono ?_
  rintro e w5 ⟨rfl, hk⟩
  replace hK := hK.trans hk
  clear hk
  go_wp2_with fail
  refine (Kz.out _).mono ?_
  rintro e w6 ⟨rfl, hk⟩
  replace hK := hK.trans hk
  clear hk
  go_wp2_with fail
  refine (Klo.out _).mono ?_
  rintro e w7 ⟨rfl, hk⟩
  replace hK := hK.trans hk
  clear hk
  go_wp2_with fail
  refine (Khi.out _).mono ?_
  rintro e w8 ⟨rfl, hk⟩
  replace hK := hK.trans hk
  clear hk
  go_wp2_with fail
  refine (Kca.out _).mono ?_
  rintro e w9 ⟨rfl, hk⟩
  replace hK := hK.trans hk
  clear hk
  go_wp2_with fail
  refine (Kcb.out _).mono ?_
  rintro e w10 ⟨rfl, hk⟩
  replace hK := hK.trans hk
  clear hk
  go_wp2_with fail
  refine (Kcl.out _).mono ?_
  rintro e w11 ⟨rfl, hk⟩
  replace hK := hK.trans hk
  clear hk
  go_wp2
  go_ret
  exact ⟨rfl, hK⟩

set_option maxHeartbeats 1000000 in
theorem lc_p0n_aa (p q r v n a b c x y z u lo hi ca cb cl o : Int) (l : Bool) (Ke : Hid (∀ w : World, Calls Try.prog 13 #[.int .i64 v] w fun e w' => e = .returned (.int .i64 n) ∧ w = w')) (Ka : Hid (∀ w : World, Calls Try.prog 14 #[.int .i64 p, .int .i64 n] w fun e w' => e = .returned (.int .i64 a) ∧ w = w')) (Kb : Hid (∀ w : World, Calls Try.prog 14 #[.int .i64 q, .int .i64 n] w fun e w' => e = .returned (.int .i64 b) ∧ w = w')) (Kc : Hid (∀ w : World, Calls Try.prog 14 #[.int .i64 r, .int .i64 n] w fun e w' => e = .returned (.int .i64 c) ∧ w = w')) (Kx : Hid (∀ w : World, Calls Try.prog 20 #[.int .i64 a, .int .i64 b, .int .i64 n] w fun e w' => e = .returned (.int .i64 x) ∧ Kept w w')) (Ky : Hid (∀ w : World, Calls Try.prog 20 #[.int .i64 b, .int .i64 a, .int .i64 n] w fun e w' => e = .returned (.int .i64 y) ∧ Kept w w')) (Kl : Hid (∀ w : World, Calls Try.prog 17 #[.int .i64 a, .int .i64 b, .int .i64 n] w fun e w' => e = .returned (.bool l) ∧ Kept w w')) (Kz : Hid (∀ w : World, Calls Try.prog 20 #[.int .i64 b, .int .i64 c, .int .i64 n] w fun e w' => e = .returned (.int .i64 z) ∧ Kept w w')) (Ku : Hid (∀ w : World, Calls Try.prog 20 #[.int .i64 a, .int .i64 c, .int .i64 n] w fun e w' => e = .returned (.int .i64 u) ∧ Kept w w')) (Klo : Hid (∀ w : World, Calls Try.prog 21 #[.int .i64 a, .int .i64 b, .int .i64 n] w fun e w' => e = .returned (.int .i64 lo) ∧ Kept w w')) (Khi : Hid (∀ w : World, Calls Try.prog 22 #[.int .i64 a, .int .i64 b, .int .i64 n] w fun e w' => e = .returned (.int .i64 hi) ∧ Kept w w')) (Kca : Hid (∀ w : World, Calls Try.prog 16 #[.int .i64 a, .int .i64 n] w fun e w' => e = .returned (.int .i64 ca) ∧ Kept w w')) (Kcb : Hid (∀ w : World, Calls Try.prog 16 #[.int .i64 b, .int .i64 n] w fun e w' => e = .returned (.int .i64 cb) ∧ Kept w w')) (Kcl : Hid (∀ w : World, Calls Try.prog 16 #[.int .i64 lo, .int .i64 n] w fun e w' => e = .returned (.int .i64 cl) ∧ Kept w w')) (Ko : Hid (∀ w : World, Calls Try.prog 20 #[.int .i64 lo, .int .i64 hi, .int .i64 n] w fun e w' => e = .returned (.int .i64 o) ∧ Kept w w')) (hx : x = 0) (hy : y = 0) (hl : l = false) (hz : 0 < z) (hca : (ca == 4) = false) (hcb : (cb == 4) = false) (h1 : (lo == a) = true) (h2 : (hi == b) = true) (ho : o ≤ 0) (w : World) : Calls Try.prog 5 #[.int .i64 p, .int .i64 q, .int .i64 r, .int .i64 v] w fun e w' => e = .returned (.bool true) ∧ Kept w w' := by
  subst hx hy hl
  go_enter Try.func5, Try.ntmps5
  go_wp2_with fail
  refine (Ke.out _).mono ?_
  rintro e w1 ⟨rfl, rfl⟩
  go_wp2_with fail
  refine (Ka.out _).mono ?_
  rintro e w1 ⟨rfl, rfl⟩
  go_wp2_with fail
  refine (Kb.out _).mono ?_
  rintro e w1 ⟨rfl, rfl⟩
  go_wp2_with fail
  refine (Kc.out _).mono ?_
  rintro e w1 ⟨rfl, rfl⟩
  go_wp2_with fail
  refine (Kx.out _).mono ?_
  rintro e w2 ⟨rfl, hk⟩
  have hK := hk
  clear hk
  go_wp2_with fail
  refine (alive_any _).mono ?_
  rintro e w3 ⟨rfl, hk⟩
  replace hK := hK.trans hk
  clear hk
  go_wp2_with fail
  refine (Ky.out _).mono ?_
  rintro e w4 ⟨rfl, hk⟩
  replace hK := hK.trans hk
  clear hk
  go_wp2_with fail
  refine (Kl.out _).mono ?_
  rintro e w5 ⟨rfl, hk⟩
  replace hK := hK.trans hk
  clear hk
  go_wp2_with fail
  refine (Kz.out _).mono ?_
  rintro e w6 ⟨rfl, hk⟩
  replace hK := hK.trans hk
  clear hk
  go_wp2_with fail
  refine (Klo.out _).mono ?_
  rintro e w7 ⟨rfl, hk⟩
  replace hK := hK.trans hk
  clear hk
  go_wp2_with fail
  refine (Khi.out _).mono ?_
  rintro e w8 ⟨rfl, hk⟩
  replace hK := hK.trans hk
  clear hk
  go_wp2_with fail
  refine (Kca.out _).mono ?_
  rintro e w9 ⟨rfl, hk⟩
  replace hK := hK.trans hk
  clear hk
  go_wp2_with fail
  refine (Kcb.out _).mono ?_
  rintro e w10 ⟨rfl, hk⟩
  replace hK := hK.trans hk
  clear hk
  go_wp2_with fail
  refine (Ko.out _).mono ?_
  rintro e w11 ⟨rfl, hk⟩
  replace hK := hK.trans hk
  clear hk
  go_wp2
  go_ret
  exact ⟨rfl, hK⟩

set_option maxHeartbeats 1000000 in
theorem lc_p0n_bb (p q r v n a b c x y z u lo hi ca cb cl o : Int) (l : Bool) (Ke : Hid (∀ w : World, Calls Try.prog 13 #[.int .i64 v] w fun e w' => e = .returned (.int .i64 n) ∧ w = w')) (Ka : Hid (∀ w : World, Calls Try.prog 14 #[.int .i64 p, .int .i64 n] w fun e w' => e = .returned (.int .i64 a) ∧ w = w')) (Kb : Hid (∀ w : World, Calls Try.prog 14 #[.int .i64 q, .int .i64 n] w fun e w' => e = .returned (.int .i64 b) ∧ w = w')) (Kc : Hid (∀ w : World, Calls Try.prog 14 #[.int .i64 r, .int .i64 n] w fun e w' => e = .returned (.int .i64 c) ∧ w = w')) (Kx : Hid (∀ w : World, Calls Try.prog 20 #[.int .i64 a, .int .i64 b, .int .i64 n] w fun e w' => e = .returned (.int .i64 x) ∧ Kept w w')) (Ky : Hid (∀ w : World, Calls Try.prog 20 #[.int .i64 b, .int .i64 a, .int .i64 n] w fun e w' => e = .returned (.int .i64 y) ∧ Kept w w')) (Kl : Hid (∀ w : World, Calls Try.prog 17 #[.int .i64 a, .int .i64 b, .int .i64 n] w fun e w' => e = .returned (.bool l) ∧ Kept w w')) (Kz : Hid (∀ w : World, Calls Try.prog 20 #[.int .i64 b, .int .i64 c, .int .i64 n] w fun e w' => e = .returned (.int .i64 z) ∧ Kept w w')) (Ku : Hid (∀ w : World, Calls Try.prog 20 #[.int .i64 a, .int .i64 c, .int .i64 n] w fun e w' => e = .returned (.int .i64 u) ∧ Kept w w')) (Klo : Hid (∀ w : World, Calls Try.prog 21 #[.int .i64 a, .int .i64 b, .int .i64 n] w fun e w' => e = .returned (.int .i64 lo) ∧ Kept w w')) (Khi : Hid (∀ w : World, Calls Try.prog 22 #[.int .i64 a, .int .i64 b, .int .i64 n] w fun e w' => e = .returned (.int .i64 hi) ∧ Kept w w')) (Kca : Hid (∀ w : World, Calls Try.prog 16 #[.int .i64 a, .int .i64 n] w fun e w' => e = .returned (.int .i64 ca) ∧ Kept w w')) (Kcb : Hid (∀ w : World, Calls Try.prog 16 #[.int .i64 b, .int .i64 n] w fun e w' => e = .returned (.int .i64 cb) ∧ Kept w w')) (Kcl : Hid (∀ w : World, Calls Try.prog 16 #[.int .i64 lo, .int .i64 n] w fun e w' => e = .returned (.int .i64 cl) ∧ Kept w w')) (Ko : Hid (∀ w : World, Calls Try.prog 20 #[.int .i64 lo, .int .i64 hi, .int .i64 n] w fun e w' => e = .returned (.int .i64 o) ∧ Kept w w')) (hx : x = 0) (hy : y = 0) (hl : l = false) (hz : 0 < z) (hca : (ca == 4) = false) (hcb : (cb == 4) = false) (h1 : (lo == a) = false) (h2 : (lo == b) = true) (h3 : (hi == a) = true) (ho : o ≤ 0) (w : World) : Calls Try.prog 5 #[.int .i64 p, .int .i64 q, .int .i64 r, .int .i64 v] w fun e w' => e = .returned (.bool true) ∧ Kept w w' := by
  subst hx hy hl
  go_enter Try.func5, Try.ntmps5
  go_wp2_with fail
  refine (Ke.out _).mono ?_
  rintro e w1 ⟨rfl, rfl⟩
  go_wp2_with fail
  refine (Ka.out _).mono ?_
  rintro e w1 ⟨rfl, rfl⟩
  go_wp2_with fail
  refine (Kb.out _).mono ?_
  rintro e w1 ⟨rfl, rfl⟩
  go_wp2_with fail
  refine (Kc.out _).mono ?_
  rintro e w1 ⟨rfl, rfl⟩
  go_wp2_with fail
  refine (Kx.out _).mono ?_
  rintro e w2 ⟨rfl, hk⟩
  have hK := hk
  clear hk
  go_wp2_with fail
  refine (alive_any _).mono ?_
  rintro e w3 ⟨rfl, hk⟩
  replace hK := hK.trans hk
  clear hk
  go_wp2_with fail
  refine (Ky.out _).mono ?_
  rintro e w4 ⟨rfl, hk⟩
  replace hK := hK.trans hk
  clear hk
  go_wp2_with fail
  refine (Kl.out _).mono ?_
  rintro e w5 ⟨rfl, hk⟩
  replace hK := hK.trans hk
  clear hk
  go_wp2_with fail
  refine (Kz.out _).mono ?_
  rintro e w6 ⟨rfl, hk⟩
  replace hK := hK.trans hk
  clear hk
  go_wp2_with fail
  refine (Klo.out _).mono ?_
  rintro e w7 ⟨rfl, hk⟩
  replace hK := hK.trans hk
  clear hk
  go_wp2_with fail
  refine (Khi.out _).mono ?_
  rintro e w8 ⟨rfl, hk⟩
  replace hK := hK.trans hk
  clear hk
  go_wp2_with fail
  refine (Kca.out _).mono ?_
  rintro e w9 ⟨rfl, hk⟩
  replace hK := hK.trans hk
  clear hk
  go_wp2_with fail
  refine (Kcb.out _).mono ?_
  rintro e w10 ⟨rfl, hk⟩
  replace hK := hK.trans hk
  clear hk
  go_wp2_with fail
  refine (Ko.out _).mono ?_
  rintro e w11 ⟨rfl, hk⟩
  replace hK := hK.trans hk
  clear hk
  go_wp2
  go_ret
  exact ⟨rfl, hK⟩

set_option maxHeartbeats 1000000 in
theorem lc_pmz_na_true (p q r v n a b c x y z u lo hi ca cb cl o : Int) (l : Bool) (Ke : Hid (∀ w : World, Calls Try.prog 13 #[.int .i64 v] w fun e w' => e = .returned (.int .i64 n) ∧ w = w')) (Ka : Hid (∀ w : World, Calls Try.prog 14 #[.int .i64 p, .int .i64 n] w fun e w' => e = .returned (.int .i64 a) ∧ w = w')) (Kb : Hid (∀ w : World, Calls Try.prog 14 #[.int .i64 q, .int .i64 n] w fun e w' => e = .returned (.int .i64 b) ∧ w = w')) (Kc : Hid (∀ w : World, Calls Try.prog 14 #[.int .i64 r, .int .i64 n] w fun e w' => e = .returned (.int .i64 c) ∧ w = w')) (Kx : Hid (∀ w : World, Calls Try.prog 20 #[.int .i64 a, .int .i64 b, .int .i64 n] w fun e w' => e = .returned (.int .i64 x) ∧ Kept w w')) (Ky : Hid (∀ w : World, Calls Try.prog 20 #[.int .i64 b, .int .i64 a, .int .i64 n] w fun e w' => e = .returned (.int .i64 y) ∧ Kept w w')) (Kl : Hid (∀ w : World, Calls Try.prog 17 #[.int .i64 a, .int .i64 b, .int .i64 n] w fun e w' => e = .returned (.bool l) ∧ Kept w w')) (Kz : Hid (∀ w : World, Calls Try.prog 20 #[.int .i64 b, .int .i64 c, .int .i64 n] w fun e w' => e = .returned (.int .i64 z) ∧ Kept w w')) (Ku : Hid (∀ w : World, Calls Try.prog 20 #[.int .i64 a, .int .i64 c, .int .i64 n] w fun e w' => e = .returned (.int .i64 u) ∧ Kept w w')) (Klo : Hid (∀ w : World, Calls Try.prog 21 #[.int .i64 a, .int .i64 b, .int .i64 n] w fun e w' => e = .returned (.int .i64 lo) ∧ Kept w w')) (Khi : Hid (∀ w : World, Calls Try.prog 22 #[.int .i64 a, .int .i64 b, .int .i64 n] w fun e w' => e = .returned (.int .i64 hi) ∧ Kept w w')) (Kca : Hid (∀ w : World, Calls Try.prog 16 #[.int .i64 a, .int .i64 n] w fun e w' => e = .returned (.int .i64 ca) ∧ Kept w w')) (Kcb : Hid (∀ w : World, Calls Try.prog 16 #[.int .i64 b, .int .i64 n] w fun e w' => e = .returned (.int .i64 cb) ∧ Kept w w')) (Kcl : Hid (∀ w : World, Calls Try.prog 16 #[.int .i64 lo, .int .i64 n] w fun e w' => e = .returned (.int .i64 cl) ∧ Kept w w')) (Ko : Hid (∀ w : World, Calls Try.prog 20 #[.int .i64 lo, .int .i64 hi, .int .i64 n] w fun e w' => e = .returned (.int .i64 o) ∧ Kept w w')) (hx : x = -1) (hy : y = 1) (hl : l = true) (hz : z ≤ 0) (hu : u ≤ 0) (hca : (ca == 4) = true) (hcl : (cl == 4) = true) (hlh : (lo == hi) = true) (w : World) : Calls Try.prog 5 #[.int .i64 p, .int .i64 q, .int .i64 r, .int .i64 v] w fun e w' => e = .returned (.bool true) ∧ Kept w w' := by
  subst hx hy hl
  go_enter Try.func5, Try.ntmps5
  go_wp2_with fail
  refine (Ke.out _).mono ?_
  rintro e w1 ⟨rfl, rfl⟩
  go_wp2_with fail
  refine (Ka.out _).mono ?_
  rintro e w1 ⟨rfl, rfl⟩
  go_wp2_with fail
  refine (Kb.out _).mono ?_
  rintro e w1 ⟨rfl, rfl⟩
  go_wp2_with fail
  refine (Kc.out _).mono ?_
  rintro e w1 ⟨rfl, rfl⟩
  go_wp2_with fail
  refine (Kx.out _).mono ?_
  rintro e w2 ⟨rfl, hk⟩
  have hK := hk
  clear hk
  go_wp2_with fail
  refine (alive_any _).mono ?_
  rintro e w3 ⟨rfl, hk⟩
  replace hK := hK.trans hk
  clear hk
  go_wp2_with fail
  refine (Ky.out _).mono ?_
  rintro e w4 ⟨rfl, hk⟩
  replace hK := hK.trans hk
  clear hk
  go_wp2_with fail
  refine (Kl.out _).mono ?_
  rintro e w5 ⟨rfl, hk⟩
  replace hK := hK.trans hk
  clear hk
  go_wp2_with fail
  refine (Kz.out _).mono ?_
  rintro e w6 ⟨rfl, hk⟩
  replace hK := hK.trans hk
  clear hk
  go_wp2_with fail
  refine (Ku.out _).mono ?_
  rintro e w7 ⟨rfl, hk⟩
  replace hK := hK.trans hk
  clear hk
  go_wp2_with fail
  refine (Klo.out _).mono ?_
  rintro e w8 ⟨rfl, hk⟩
  replace hK := hK.trans hk
  clear hk
  go_wp2_with fail
  refine (Khi.out _).mono ?_
  rintro e w9 ⟨rfl, hk⟩
  replace hK := hK.trans hk
  clear hk
  go_wp2_with fail
  refine (Kca.out _).mono ?_
  rintro e w10 ⟨rfl, hk⟩
  replace hK := hK.trans hk
  clear hk
  go_wp2_with fail
  refine (Kcl.out _).mono ?_
  rintro e w11 ⟨rfl, hk⟩
  replace hK := hK.trans hk
  clear hk
  go_wp2
  go_ret
  exact ⟨rfl, hK⟩

set_option maxHeartbeats 1000000 in
theorem lc_pmz_na_false (p q r v n a b c x y z u lo hi ca cb cl o : Int) (l : Bool) (Ke : Hid (∀ w : World, Calls Try.prog 13 #[.int .i64 v] w fun e w' => e = .returned (.int .i64 n) ∧ w = w')) (Ka : Hid (∀ w : World, Calls Try.prog 14 #[.int .i64 p, .int .i64 n] w fun e w' => e = .returned (.int .i64 a) ∧ w = w')) (Kb : Hid (∀ w : World, Calls Try.prog 14 #[.int .i64 q, .int .i64 n] w fun e w' => e = .returned (.int .i64 b) ∧ w = w')) (Kc : Hid (∀ w : World, Calls Try.prog 14 #[.int .i64 r, .int .i64 n] w fun e w' => e = .returned (.int .i64 c) ∧ w = w')) (Kx : Hid (∀ w : World, Calls Try.prog 20 #[.int .i64 a, .int .i64 b, .int .i64 n] w fun e w' => e = .returned (.int .i64 x) ∧ Kept w w')) (Ky : Hid (∀ w : World, Calls Try.prog 20 #[.int .i64 b, .int .i64 a, .int .i64 n] w fun e w' => e = .returned (.int .i64 y) ∧ Kept w w')) (Kl : Hid (∀ w : World, Calls Try.prog 17 #[.int .i64 a, .int .i64 b, .int .i64 n] w fun e w' => e = .returned (.bool l) ∧ Kept w w')) (Kz : Hid (∀ w : World, Calls Try.prog 20 #[.int .i64 b, .int .i64 c, .int .i64 n] w fun e w' => e = .returned (.int .i64 z) ∧ Kept w w')) (Ku : Hid (∀ w : World, Calls Try.prog 20 #[.int .i64 a, .int .i64 c, .int .i64 n] w fun e w' => e = .returned (.int .i64 u) ∧ Kept w w')) (Klo : Hid (∀ w : World, Calls Try.prog 21 #[.int .i64 a, .int .i64 b, .int .i64 n] w fun e w' => e = .returned (.int .i64 lo) ∧ Kept w w')) (Khi : Hid (∀ w : World, Calls Try.prog 22 #[.int .i64 a, .int .i64 b, .int .i64 n] w fun e w' => e = .returned (.int .i64 hi) ∧ Kept w w')) (Kca : Hid (∀ w : World, Calls Try.prog 16 #[.int .i64 a, .int .i64 n] w fun e w' => e = .returned (.int .i64 ca) ∧ Kept w w')) (Kcb : Hid (∀ w : World, Calls Try.prog 16 #[.int .i64 b, .int .i64 n] w fun e w' => e = .returned (.int .i64 cb) ∧ Kept w w')) (Kcl : Hid (∀ w : World, Calls Try.prog 16 #[.int .i64 lo, .int .i64 n] w fun e w' => e = .returned (.int .i64 cl) ∧ Kept w w')) (Ko : Hid (∀ w : World, Calls Try.prog 20 #[.int .i64 lo, .int .i64 hi, .int .i64 n] w fun e w' => e = .returned (.int .i64 o) ∧ Kept w w')) (hx : x = -1) (hy : y = 1) (hl : l = false) (hz : z ≤ 0) (hu : u ≤ 0) (hca : (ca == 4) = true) (hcl : (cl == 4) = true) (hlh : (lo == hi) = true) (w : World) : Calls Try.prog 5 #[.int .i64 p, .int .i64 q, .int .i64 r, .int .i64 v] w fun e w' => e = .returned (.bool true) ∧ Kept w w' := by
  subst hx hy hl
  go_enter Try.func5, Try.ntmps5
  go_wp2_with fail
  refine (Ke.out _).mono ?_
  rintro e w1 ⟨rfl, rfl⟩
  go_wp2_with fail
  refine (Ka.out _).mono ?_
  rintro e w1 ⟨rfl, rfl⟩
  go_wp2_with fail
  refine (Kb.out _).mono ?_
  rintro e w1 ⟨rfl, rfl⟩
  go_wp2_with fail
  refine (Kc.out _).mono ?_
  rintro e w1 ⟨rfl, rfl⟩
  go_wp2_with fail
  refine (Kx.out _).mono ?_
  rintro e w2 ⟨rfl, hk⟩
  have hK := hk
  clear hk
  go_wp2_with fail
  refine (alive_any _).mono ?_
  rintro e w3 ⟨rfl, hk⟩
  replace hK := hK.trans hk
  clear hk
  go_wp2_with fail
  refine (Ky.out _).mono ?_
  rintro e w4 ⟨rfl, hk⟩
  replace hK := hK.trans hk
  clear hk
  go_wp2_with fail
  refine (Kl.out _).mono ?_
  rintro e w5 ⟨rfl, hk⟩
  replace hK := hK.trans hk
  clear hk
  go_wp2_with fail
  refine (Kz.out _).mono ?_
  rintro e w6 ⟨rfl, hk⟩
  replace hK := hK.trans hk
  clear hk
  go_wp2_with fail
  refine (Ku.out _).mono ?_
  rintro e w7 ⟨rfl, hk⟩
  replace hK := hK.trans hk
  clear hk
  go_wp2_with fail
  refine (Klo.out _).mono ?_
  rintro e w8 ⟨rfl, hk⟩
  replace hK := hK.trans hk
  clear hk
  go_wp2_with fail
  refine (Khi.out _).mono ?_
  rintro e w9 ⟨rfl, hk⟩
  replace hK := hK.trans hk
  clear hk
  go_wp2_with fail
  refine (Kca.out _).mono ?_
  rintro e w10 ⟨rfl, hk⟩
  replace hK := hK.trans hk
  clear hk
  go_wp2_with fail
  refine (Kcl.out _).mono ?_
  rintro e w11 ⟨rfl, hk⟩
  replace hK := hK.trans hk
  clear hk
  go_wp2
  go_ret
  exact ⟨rfl, hK⟩

set_option maxHeartbeats 1000000 in
theorem lc_pmz_nb_true (p q r v n a b c x y z u lo hi ca cb cl o : Int) (l : Bool) (Ke : Hid (∀ w : World, Calls Try.prog 13 #[.int .i64 v] w fun e w' => e = .returned (.int .i64 n) ∧ w = w')) (Ka : Hid (∀ w : World, Calls Try.prog 14 #[.int .i64 p, .int .i64 n] w fun e w' => e = .returned (.int .i64 a) ∧ w = w')) (Kb : Hid (∀ w : World, Calls Try.prog 14 #[.int .i64 q, .int .i64 n] w fun e w' => e = .returned (.int .i64 b) ∧ w = w')) (Kc : Hid (∀ w : World, Calls Try.prog 14 #[.int .i64 r, .int .i64 n] w fun e w' => e = .returned (.int .i64 c) ∧ w = w')) (Kx : Hid (∀ w : World, Calls Try.prog 20 #[.int .i64 a, .int .i64 b, .int .i64 n] w fun e w' => e = .returned (.int .i64 x) ∧ Kept w w')) (Ky : Hid (∀ w : World, Calls Try.prog 20 #[.int .i64 b, .int .i64 a, .int .i64 n] w fun e w' => e = .returned (.int .i64 y) ∧ Kept w w')) (Kl : Hid (∀ w : World, Calls Try.prog 17 #[.int .i64 a, .int .i64 b, .int .i64 n] w fun e w' => e = .returned (.bool l) ∧ Kept w w')) (Kz : Hid (∀ w : World, Calls Try.prog 20 #[.int .i64 b, .int .i64 c, .int .i64 n] w fun e w' => e = .returned (.int .i64 z) ∧ Kept w w')) (Ku : Hid (∀ w : World, Calls Try.prog 20 #[.int .i64 a, .int .i64 c, .int .i64 n] w fun e w' => e = .returned (.int .i64 u) ∧ Kept w w')) (Klo : Hid (∀ w : World, Calls Try.prog 21 #[.int .i64 a, .int .i64 b, .int .i64 n] w fun e w' => e = .returned (.int .i64 lo) ∧ Kept w w')) (Khi : Hid (∀ w : World, Calls Try.prog 22 #[.int .i64 a, .int .i64 b, .int .i64 n] w fun e w' => e = .returned (.int .i64 hi) ∧ Kept w w')) (Kca : Hid (∀ w : World, Calls Try.prog 16 #[.int .i64 a, .int .i64 n] w fun e w' => e = .returned (.int .i64 ca) ∧ Kept w w')) (Kcb : Hid (∀ w : World, Calls Try.prog 16 #[.int .i64 b, .int .i64 n] w fun e w' => e = .returned (.int .i64 cb) ∧ Kept w w')) (Kcl : Hid (∀ w : World, Calls Try.prog 16 #[.int .i64 lo, .int .i64 n] w fun e w' => e = .returned (.int .i64 cl) ∧ Kept w w')) (Ko : Hid (∀ w : World, Calls Try.prog 20 #[.int .i64 lo, .int .i64 hi, .int .i64 n] w fun e w' => e = .returned (.int .i64 o) ∧ Kept w w')) (hx : x = -1) (hy : y = 1) (hl : l = true) (hz : z ≤ 0) (hu : u ≤ 0) (hca : (ca == 4) = false) (hcb : (cb == 4) = true) (hcl : (cl == 4) = true) (hlh : (lo == hi) = true) (w : World) : Calls Try.prog 5 #[.int .i64 p, .int .i64 q, .int .i64 r, .int .i64 v] w fun e w' => e = .returned (.bool true) ∧ Kept w w' := by
  subst hx hy hl
  go_enter Try.func5, Try.ntmps5
  go_wp2_with fail
  refine (Ke.out _).mono ?_
  rintro e w1 ⟨rfl, rfl⟩
  go_wp2_with fail
  refine (Ka.out _).mono ?_
  rintro e w1 ⟨rfl, rfl⟩
  go_wp2_with fail
  refine (Kb.out _).mono ?_
  rintro e w1 ⟨rfl, rfl⟩
  go_wp2_with fail
  refine (Kc.out _).mono ?_
  rintro e w1 ⟨rfl, rfl⟩
  go_wp2_with fail
  refine (Kx.out _).mono ?_
  rintro e w2 ⟨rfl, hk⟩
  have hK := hk
  clear hk
  go_wp2_with fail
  refine (alive_any _).mono ?_
  rintro e w3 ⟨rfl, hk⟩
  replace hK := hK.trans hk
  clear hk
  go_wp2_with fail
  refine (Ky.out _).mono ?_
  rintro e w4 ⟨rfl, hk⟩
  replace hK := hK.trans hk
  clear hk
  go_wp2_with fail
  refine (Kl.out _).mono ?_
  rintro e w5 ⟨rfl, hk⟩
  replace hK := hK.trans hk
  clear hk
  go_wp2_with fail
  refine (Kz.out _).mono ?_
  rintro e w6 ⟨rfl, hk⟩
  replace hK := hK.trans hk
  clear hk
  go_wp2_with fail
  refine (Ku.out _).mono ?_
  rintro e w7 ⟨rfl, hk⟩
  replace hK := hK.trans hk
  clear hk
  go_wp2_with fail
  refine (Klo.out _).mono ?_
  rintro e w8 ⟨rfl, hk⟩
  replace hK := hK.trans hk
  clear hk
  go_wp2_with fail
  refine (Khi.out _).mono ?_
  rintro e w9 ⟨rfl, hk⟩
  replace hK := hK.trans hk
  clear hk
  go_wp2_with fail
  refine (Kca.out _).mono ?_
  rintro e w10 ⟨rfl, hk⟩
  replace hK := hK.trans hk
  clear hk
  go_wp2_with fail
  refine (Kcb.out _).mono ?_
  rintro e w11 ⟨rfl, hk⟩
  replace hK := hK.trans hk
  clear hk
  go_wp2_with fail
  refine (Kcl.out _).mono ?_
  rintro e w12 ⟨rfl, hk⟩
  replace hK := hK.trans hk
  clear hk
  go_wp2
  go_ret
  exact ⟨rfl, hK⟩

set_option maxHeartbeats 1000000 in
theorem lc_pmz_nb_false (p q r v n a b c x y z u lo hi ca cb cl o : Int) (l : Bool) (Ke : Hid (∀ w : World, Calls Try.prog 13 #[.int .i64 v] w fun e w' => e = .returned (.int .i64 n) ∧ w = w')) (Ka : Hid (∀ w : World, Calls Try.prog 14 #[.int .i64 p, .int .i64 n] w fun e w' => e = .returned (.int .i64 a) ∧ w = w')) (Kb : Hid (∀ w : World, Calls Try.prog 14 #[.int .i64 q, .int .i64 n] w fun e w' => e = .returned (.int .i64 b) ∧ w = w')) (Kc : Hid (∀ w : World, Calls Try.prog 14 #[.int .i64 r, .int .i64 n] w fun e w' => e = .returned (.int .i64 c) ∧ w = w')) (Kx : Hid (∀ w : World, Calls Try.prog 20 #[.int .i64 a, .int .i64 b, .int .i64 n] w fun e w' => e = .returned (.int .i64 x) ∧ Kept w w')) (Ky : Hid (∀ w : World, Calls Try.prog 20 #[.int .i64 b, .int .i64 a, .int .i64 n] w fun e w' => e = .returned (.int .i64 y) ∧ Kept w w')) (Kl : Hid (∀ w : World, Calls Try.prog 17 #[.int .i64 a, .int .i64 b, .int .i64 n] w fun e w' => e = .returned (.bool l) ∧ Kept w w')) (Kz : Hid (∀ w : World, Calls Try.prog 20 #[.int .i64 b, .int .i64 c, .int .i64 n] w fun e w' => e = .returned (.int .i64 z) ∧ Kept w w')) (Ku : Hid (∀ w : World, Calls Try.prog 20 #[.int .i64 a, .int .i64 c, .int .i64 n] w fun e w' => e = .returned (.int .i64 u) ∧ Kept w w')) (Klo : Hid (∀ w : World, Calls Try.prog 21 #[.int .i64 a, .int .i64 b, .int .i64 n] w fun e w' => e = .returned (.int .i64 lo) ∧ Kept w w')) (Khi : Hid (∀ w : World, Calls Try.prog 22 #[.int .i64 a, .int .i64 b, .int .i64 n] w fun e w' => e = .returned (.int .i64 hi) ∧ Kept w w')) (Kca : Hid (∀ w : World, Calls Try.prog 16 #[.int .i64 a, .int .i64 n] w fun e w' => e = .returned (.int .i64 ca) ∧ Kept w w')) (Kcb : Hid (∀ w : World, Calls Try.prog 16 #[.int .i64 b, .int .i64 n] w fun e w' => e = .returned (.int .i64 cb) ∧ Kept w w')) (Kcl : Hid (∀ w : World, Calls Try.prog 16 #[.int .i64 lo, .int .i64 n] w fun e w' => e = .returned (.int .i64 cl) ∧ Kept w w')) (Ko : Hid (∀ w : World, Calls Try.prog 20 #[.int .i64 lo, .int .i64 hi, .int .i64 n] w fun e w' => e = .returned (.int .i64 o) ∧ Kept w w')) (hx : x = -1) (hy : y = 1) (hl : l = false) (hz : z ≤ 0) (hu : u ≤ 0) (hca : (ca == 4) = false) (hcb : (cb == 4) = true) (hcl : (cl == 4) = true) (hlh : (lo == hi) = true) (w : World) : Calls Try.prog 5 #[.int .i64 p, .int .i64 q, .int .i64 r, .int .i64 v] w fun e w' => e = .returned (.bool true) ∧ Kept w w' := by
  subst hx hy hl
  go_enter Try.func5, Try.ntmps5
  go_wp2_with fail
  refine (Ke.out _).mono ?_
  rintro e w1 ⟨rfl, rfl⟩
  go_wp2_with fail
  refine (Ka.out _).mono ?_
  rintro e w1 ⟨rfl, rfl⟩
  go_wp2_with fail
  refine (Kb.out _).mono ?_
  rintro e w1 ⟨rfl, rfl⟩
  go_wp2_with fail
  refine (Kc.out _).mono ?_
  rintro e w1 ⟨rfl, rfl⟩
  go_wp2_with fail
  refine (Kx.out _).mono ?_
  rintro e w2 ⟨rfl, hk⟩
  have hK := hk
  clear hk
  go_wp2_with fail
  refine (alive_any _).mono ?_
  rintro e w3 ⟨rfl, hk⟩
  replace hK := hK.trans hk
  clear hk
  go_wp2_with fail
  refine (Ky.out _).mono ?_
  rintro e w4 ⟨rfl, hk⟩
  replace hK := hK.trans hk
  clear hk
  go_wp2_with fail
  refine (Kl.out _).mono ?_
  rintro e w5 ⟨rfl, hk⟩
  replace hK := hK.trans hk
  clear hk
  go_wp2_with fail
  refine (Kz.out _).mono ?_
  rintro e w6 ⟨rfl, hk⟩
  replace hK := hK.trans hk
  clear hk
  go_wp2_with fail
  refine (Ku.out _).mono ?_
  rintro e w7 ⟨rfl, hk⟩
  replace hK := hK.trans hk
  clear hk
  go_wp2_with fail
  refine (Klo.out _).mono ?_
  rintro e w8 ⟨rfl, hk⟩
  replace hK := hK.trans hk
  clear hk
  go_wp2_with fail
  refine (Khi.out _).mono ?_
  rintro e w9 ⟨rfl, hk⟩
  replace hK := hK.trans hk
  clear hk
  go_wp2_with fail
  refine (Kca.out _).mono ?_
  rintro e w10 ⟨rfl, hk⟩
  replace hK := hK.trans hk
  clear hk
  go_wp2_with fail
  refine (Kcb.out _).mono ?_
  rintro e w11 ⟨rfl, hk⟩
  replace hK := hK.trans hk
  clear hk
  go_wp2_with fail
  refine (Kcl.out _).mono ?_
  rintro e w12 ⟨rfl, hk⟩
  replace hK := hK.trans hk
  clear hk
  go_wp2
  go_ret
  exact ⟨rfl, hK⟩

set_option maxHeartbeats 1000000 in
theorem lc_pmz_aa_true (p q r v n a b c x y z u lo hi ca cb cl o : Int) (l : Bool) (Ke : Hid (∀ w : World, Calls Try.prog 13 #[.int .i64 v] w fun e w' => e = .returned (.int .i64 n) ∧ w = w')) (Ka : Hid (∀ w : World, Calls Try.prog 14 #[.int .i64 p, .int .i64 n] w fun e w' => e = .returned (.int .i64 a) ∧ w = w')) (Kb : Hid (∀ w : World, Calls Try.prog 14 #[.int .i64 q, .int .i64 n] w fun e w' => e = .returned (.int .i64 b) ∧ w = w')) (Kc : Hid (∀ w : World, Calls Try.prog 14 #[.int .i64 r, .int .i64 n] w fun e w' => e = .returned (.int .i64 c) ∧ w = w')) (Kx : Hid (∀ w : World, Calls Try.prog 20 #[.int .i64 a, .int .i64 b, .int .i64 n] w fun e w' => e = .returned (.int .i64 x) ∧ Kept w w')) (Ky : Hid (∀ w : World, Calls Try.prog 20 #[.int .i64 b, .int .i64 a, .int .i64 n] w fun e w' => e = .returned (.int .i64 y) ∧ Kept w w')) (Kl : Hid (∀ w : World, Calls Try.prog 17 #[.int .i64 a, .int .i64 b, .int .i64 n] w fun e w' => e = .returned (.bool l) ∧ Kept w w')) (Kz : Hid (∀ w : World, Calls Try.prog 20 #[.int .i64 b, .int .i64 c, .int .i64 n] w fun e w' => e = .returned (.int .i64 z) ∧ Kept w w')) (Ku : Hid (∀ w : World, Calls Try.prog 20 #[.int .i64 a, .int .i64 c, .int .i64 n] w fun e w' => e = .returned (.int .i64 u) ∧ Kept w w')) (Klo : Hid (∀ w : World, Calls Try.prog 21 #[.int .i64 a, .int .i64 b, .int .i64 n] w fun e w' => e = .returned (.int .i64 lo) ∧ Kept w w')) (Khi : Hid (∀ w : World, Calls Try.prog 22 #[.int .i64 a, .int .i64 b, .int .i64 n] w fun e w' => e = .returned (.int .i64 hi) ∧ Kept w w')) (Kca : Hid (∀ w : World, Calls Try.prog 16 #[.int .i64 a, .int .i64 n] w fun e w' => e = .returned (.int .i64 ca) ∧ Kept w w')) (Kcb : Hid (∀ w : World, Calls Try.prog 16 #[.int .i64 b, .int .i64 n] w fun e w' => e = .returned (.int .i64 cb) ∧ Kept w w')) (Kcl : Hid (∀ w : World, Calls Try.prog 16 #[.int .i64 lo, .int .i64 n] w fun e w' => e = .returned (.int .i64 cl) ∧ Kept w w')) (Ko : Hid (∀ w : World, Calls Try.prog 20 #[.int .i64 lo, .int .i64 hi, .int .i64 n] w fun e w' => e = .returned (.int .i64 o) ∧ Kept w w')) (hx : x = -1) (hy : y = 1) (hl : l = true) (hz : z ≤ 0) (hu : u ≤ 0) (hca : (ca == 4) = false) (hcb : (cb == 4) = false) (h1 : (lo == a) = true) (h2 : (hi == b) = true) (ho : o ≤ 0) (w : World) : Calls Try.prog 5 #[.int .i64 p, .int .i64 q, .int .i64 r, .int .i64 v] w fun e w' => e = .returned (.bool true) ∧ Kept w w' := by
  subst hx hy hl
  go_enter Try.func5, Try.ntmps5
  go_wp2_with fail
  refine (Ke.out _).mono ?_
  rintro e w1 ⟨rfl, rfl⟩
  go_wp2_with fail
  refine (Ka.out _).mono ?_
  rintro e w1 ⟨rfl, rfl⟩
  go_wp2_with fail
  refine (Kb.out _).mono ?_
  rintro e w1 ⟨rfl, rfl⟩
  go_wp2_with fail
  refine (Kc.out _).mono ?_
  rintro e w1 ⟨rfl, rfl⟩
  go_wp2_with fail
  refine (Kx.out _).mono ?_
  rintro e w2 ⟨rfl, hk⟩
  have hK := hk
  clear hk
  go_wp2_with fail
  refine (alive_any _).mono ?_
  rintro e w3 ⟨rfl, hk⟩
  replace hK := hK.trans hk
  clear hk
  go_wp2_with fail
  refine (Ky.out _).mono ?_
  rintro e w4 ⟨rfl, hk⟩
  replace hK := hK.trans hk
  clear hk
  go_wp2_with fail
  refine (Kl.out _).mono ?_
  rintro e w5 ⟨rfl, hk⟩
  replace hK := hK.trans hk
  clear hk
  go_wp2_with fail
  refine (Kz.out _).mono ?_
  rintro e w6 ⟨rfl, hk⟩
  replace hK := hK.trans hk
  clear hk
  go_wp2_with fail
  refine (Ku.out _).mono ?_
  rintro e w7 ⟨rfl, hk⟩
  replace hK := hK.trans hk
  clear hk
  go_wp2_with fail
  refine (Klo.out _).mono ?_
  rintro e w8 ⟨rfl, hk⟩
  replace hK := hK.trans hk
  clear hk
  go_wp2_with fail
  refine (Khi.out _).mono ?_
  rintro e w9 ⟨rfl, hk⟩
  replace hK := hK.trans hk
  clear hk
  go_wp2_with fail
  refine (Kca.out _).mono ?_
  rintro e w10 ⟨rfl, hk⟩
  replace hK := hK.trans hk
  clear hk
  go_wp2_with fail
  refine (Kcb.out _).mono ?_
  rintro e w11 ⟨rfl, hk⟩
  replace hK := hK.trans hk
  clear hk
  go_wp2_with fail
  refine (Ko.out _).mono ?_
  rintro e w12 ⟨rfl, hk⟩
  replace hK := hK.trans hk
  clear hk
  go_wp2
  go_ret
  exact ⟨rfl, hK⟩

set_option maxHeartbeats 1000000 in
theorem lc_pmz_aa_false (p q r v n a b c x y z u lo hi ca cb cl o : Int) (l : Bool) (Ke : Hid (∀ w : World, Calls Try.prog 13 #[.int .i64 v] w fun e w' => e = .returned (.int .i64 n) ∧ w = w')) (Ka : Hid (∀ w : World, Calls Try.prog 14 #[.int .i64 p, .int .i64 n] w fun e w' => e = .returned (.int .i64 a) ∧ w = w')) (Kb : Hid (∀ w : World, Calls Try.prog 14 #[.int .i64 q, .int .i64 n] w fun e w' => e = .returned (.int .i64 b) ∧ w = w')) (Kc : Hid (∀ w : World, Calls Try.prog 14 #[.int .i64 r, .int .i64 n] w fun e w' => e = .returned (.int .i64 c) ∧ w = w')) (Kx : Hid (∀ w : World, Calls Try.prog 20 #[.int .i64 a, .int .i64 b, .int .i64 n] w fun e w' => e = .returned (.int .i64 x) ∧ Kept w w')) (Ky : Hid (∀ w : World, Calls Try.prog 20 #[.int .i64 b, .int .i64 a, .int .i64 n] w fun e w' => e = .returned (.int .i64 y) ∧ Kept w w')) (Kl : Hid (∀ w : World, Calls Try.prog 17 #[.int .i64 a, .int .i64 b, .int .i64 n] w fun e w' => e = .returned (.bool l) ∧ Kept w w')) (Kz : Hid (∀ w : World, Calls Try.prog 20 #[.int .i64 b, .int .i64 c, .int .i64 n] w fun e w' => e = .returned (.int .i64 z) ∧ Kept w w')) (Ku : Hid (∀ w : World, Calls Try.prog 20 #[.int .i64 a, .int .i64 c, .int .i64 n] w fun e w' => e = .returned (.int .i64 u) ∧ Kept w w')) (Klo : Hid (∀ w : World, Calls Try.prog 21 #[.int .i64 a, .int .i64 b, .int .i64 n] w fun e w' => e = .returned (.int .i64 lo) ∧ Kept w w')) (Khi : Hid (∀ w : World, Calls Try.prog 22 #[.int .i64 a, .int .i64 b, .int .i64 n] w fun e w' => e = .returned (.int .i64 hi) ∧ Kept w w')) (Kca : Hid (∀ w : World, Calls Try.prog 16 #[.int .i64 a, .int .i64 n] w fun e w' => e = .returned (.int .i64 ca) ∧ Kept w w')) (Kcb : Hid (∀ w : World, Calls Try.prog 16 #[.int .i64 b, .int .i64 n] w fun e w' => e = .returned (.int .i64 cb) ∧ Kept w w')) (Kcl : Hid (∀ w : World, Calls Try.prog 16 #[.int .i64 lo, .int .i64 n] w fun e w' => e = .returned (.int .i64 cl) ∧ Kept w w')) (Ko : Hid (∀ w : World, Calls Try.prog 20 #[.int .i64 lo, .int .i64 hi, .int .i64 n] w fun e w' => e = .returned (.int .i64 o) ∧ Kept w w')) (hx : x = -1) (hy : y = 1) (hl : l = false) (hz : z ≤ 0) (hu : u ≤ 0) (hca : (ca == 4) = false) (hcb : (cb == 4) = false) (h1 : (lo == a) = true) (h2 : (hi == b) = true) (ho : o ≤ 0) (w : World) : Calls Try.prog 5 #[.int .i64 p, .int .i64 q, .int .i64 r, .int .i64 v] w fun e w' => e = .returned (.bool true) ∧ Kept w w' := by
  subst hx hy hl
  go_enter Try.func5, Try.ntmps5
  go_wp2_with fail
  refine (Ke.out _).mono ?_
  rintro e w1 ⟨rfl, rfl⟩
  go_wp2_with fail
  refine (Ka.out _).mono ?_
  rintro e w1 ⟨rfl, rfl⟩
  go_wp2_with fail
  refine (Kb.out _).mono ?_
  rintro e w1 ⟨rfl, rfl⟩
  go_wp2_with fail
  refine (Kc.out _).mono ?_
  rintro e w1 ⟨rfl, rfl⟩
  go_wp2_with fail
  refine (Kx.out _).mono ?_
  rintro e w2 ⟨rfl, hk⟩
  have hK := hk
  clear hk
  go_wp2_with fail
  refine (alive_any _).mono ?_
  rintro e w3 ⟨rfl, hk⟩
  replace hK := hK.trans hk
  clear hk
  go_wp2_with fail
  refine (Ky.out _).mono ?_
  rintro e w4 ⟨rfl, hk⟩
  replace hK := hK.trans hk
  clear hk
  go_wp2_with fail
  refine (Kl.out _).mono ?_
  rintro e w5 ⟨rfl, hk⟩
  replace hK := hK.trans hk
  clear hk
  go_wp2_with fail
  refine (Kz.out _).mono ?_
  rintro e w6 ⟨rfl, hk⟩
  replace hK := hK.trans hk
  clear hk
  go_wp2_with fail
  refine (Ku.out _).mono ?_
  rintro e w7 ⟨rfl, hk⟩
  replace hK := hK.trans hk
  clear hk
  go_wp2_with fail
  refine (Klo.out _).mono ?_
  rintro e w8 ⟨rfl, hk⟩
  replace hK := hK.trans hk
  clear hk
  go_wp2_with fail
  refine (Khi.out _).mono ?_
  rintro e w9 ⟨rfl, hk⟩
  replace hK := hK.trans hk
  clear hk
  go_wp2_with fail
  refine (Kca.out _).mono ?_
  rintro e w10 ⟨rfl, hk⟩
  replace hK := hK.trans hk
  clear hk
  go_wp2_with fail
  refine (Kcb.out _).mono ?_
  rintro e w11 ⟨rfl, hk⟩
  replace hK := hK.trans hk
  clear hk
  go_wp2_with fail
  refine (Ko.out _).mono ?_
  rintro e w12 ⟨rfl, hk⟩
  replace hK := hK.trans hk
  clear hk
  go_wp2
  go_ret
  exact ⟨rfl, hK⟩

set_option maxHeartbeats 1000000 in
theorem lc_pmz_bb_true (p q r v n a b c x y z u lo hi ca cb cl o : Int) (l : Bool) (Ke : Hid (∀ w : World, Calls Try.prog 13 #[.int .i64 v] w fun e w' => e = .returned (.int .i64 n) ∧ w = w')) (Ka : Hid (∀ w : World, Calls Try.prog 14 #[.int .i64 p, .int .i64 n] w fun e w' => e = .returned (.int .i64 a) ∧ w = w')) (Kb : Hid (∀ w : World, Calls Try.prog 14 #[.int .i64 q, .int .i64 n] w fun e w' => e = .returned (.int .i64 b) ∧ w = w')) (Kc : Hid (∀ w : World, Calls Try.prog 14 #[.int .i64 r, .int .i64 n] w fun e w' => e = .returned (.int .i64 c) ∧ w = w')) (Kx : Hid (∀ w : World, Calls Try.prog 20 #[.int .i64 a, .int .i64 b, .int .i64 n] w fun e w' => e = .returned (.int .i64 x) ∧ Kept w w')) (Ky : Hid (∀ w : World, Calls Try.prog 20 #[.int .i64 b, .int .i64 a, .int .i64 n] w fun e w' => e = .returned (.int .i64 y) ∧ Kept w w')) (Kl : Hid (∀ w : World, Calls Try.prog 17 #[.int .i64 a, .int .i64 b, .int .i64 n] w fun e w' => e = .returned (.bool l) ∧ Kept w w')) (Kz : Hid (∀ w : World, Calls Try.prog 20 #[.int .i64 b, .int .i64 c, .int .i64 n] w fun e w' => e = .returned (.int .i64 z) ∧ Kept w w')) (Ku : Hid (∀ w : World, Calls Try.prog 20 #[.int .i64 a, .int .i64 c, .int .i64 n] w fun e w' => e = .returned (.int .i64 u) ∧ Kept w w')) (Klo : Hid (∀ w : World, Calls Try.prog 21 #[.int .i64 a, .int .i64 b, .int .i64 n] w fun e w' => e = .returned (.int .i64 lo) ∧ Kept w w')) (Khi : Hid (∀ w : World, Calls Try.prog 22 #[.int .i64 a, .int .i64 b, .int .i64 n] w fun e w' => e = .returned (.int .i64 hi) ∧ Kept w w')) (Kca : Hid (∀ w : World, Calls Try.prog 16 #[.int .i64 a, .int .i64 n] w fun e w' => e = .returned (.int .i64 ca) ∧ Kept w w')) (Kcb : Hid (∀ w : World, Calls Try.prog 16 #[.int .i64 b, .int .i64 n] w fun e w' => e = .returned (.int .i64 cb) ∧ Kept w w')) (Kcl : Hid (∀ w : World, Calls Try.prog 16 #[.int .i64 lo, .int .i64 n] w fun e w' => e = .returned (.int .i64 cl) ∧ Kept w w')) (Ko : Hid (∀ w : World, Calls Try.prog 20 #[.int .i64 lo, .int .i64 hi, .int .i64 n] w fun e w' => e = .returned (.int .i64 o) ∧ Kept w w')) (hx : x = -1) (hy : y = 1) (hl : l = true) (hz : z ≤ 0) (hu : u ≤ 0) (hca : (ca == 4) = false) (hcb : (cb == 4) = false) (h1 : (lo == a) = false) (h2 : (lo == b) = true) (h3 : (hi == a) = true) (ho : o ≤ 0) (w : World) : Calls Try.prog 5 #[.int .i64 p, .int .i64 q, .int .i64 r, .int .i64 v] w fun e w' => e = .returned (.bool true) ∧ Kept w w' := by
  subst hx hy hl
  go_enter Try.func5, Try.ntmps5
  go_wp2_with fail
  refine (Ke.out _).mono ?_
  rintro e w1 ⟨rfl, rfl⟩
  go_wp2_with fail
  refine (Ka.out _).mono ?_
  rintro e w1 ⟨rfl, rfl⟩
  go_wp2_with fail
  refine (Kb.out _).mono ?_
  rintro e w1 ⟨rfl, rfl⟩
  go_wp2_with fail
  refine (Kc.out _).mono ?_
  rintro e w1 ⟨rfl, rfl⟩
  go_wp2_with fail
  refine (Kx.out _).mono ?_
  rintro e w2 ⟨rfl, hk⟩
  have hK := hk
  clear hk
  go_wp2_with fail
  refine (alive_any _).mono ?_
  rintro e w3 ⟨rfl, hk⟩
  replace hK := hK.trans hk
  clear hk
  go_wp2_with fail
  refine (Ky.out _).mono ?_
  rintro e w4 ⟨rfl, hk⟩
  replace hK := hK.trans hk
  clear hk
  go_wp2_with fail
  refine (Kl.out _).mono ?_
  rintro e w5 ⟨rfl, hk⟩
  replace hK := hK.trans hk
  clear hk
  go_wp2_with fail
  refine (Kz.out _).mono ?_
  rintro e w6 ⟨rfl, hk⟩
  replace hK := hK.trans hk
  clear hk
  go_wp2_with fail
  refine (Ku.out _).mono ?_
  rintro e w7 ⟨rfl, hk⟩
  replace hK := hK.trans hk
  clear hk
  go_wp2_with fail
  refine (Klo.out _).mono ?_
  rintro e w8 ⟨rfl, hk⟩
  replace hK := hK.trans hk
  clear hk
  go_wp2_with fail
  refine (Khi.out _).mono ?_
  rintro e w9 ⟨rfl, hk⟩
  replace hK := hK.trans hk
  clear hk
  go_wp2_with fail
  refine (Kca.out _).mono ?_
  rintro e w10 ⟨rfl, hk⟩
  replace hK := hK.trans hk
  clear hk
  go_wp2_with fail
  refine (Kcb.out _).mono ?_
  rintro e w11 ⟨rfl, hk⟩
  replace hK := hK.trans hk
  clear hk
  go_wp2_with fail
  refine (Ko.out _).mono ?_
  rintro e w12 ⟨rfl, hk⟩
  replace hK := hK.trans hk
  clear hk
  go_wp2
  go_ret
  exact ⟨rfl, hK⟩

set_option maxHeartbeats 1000000 in
theorem lc_pmz_bb_false (p q r v n a b c x y z u lo hi ca cb cl o : Int) (l : Bool) (Ke : Hid (∀ w : World, Calls Try.prog 13 #[.int .i64 v] w fun e w' => e = .returned (.int .i64 n) ∧ w = w')) (Ka : Hid (∀ w : World, Calls Try.prog 14 #[.int .i64 p, .int .i64 n] w fun e w' => e = .returned (.int .i64 a) ∧ w = w')) (Kb : Hid (∀ w : World, Calls Try.prog 14 #[.int .i64 q, .int .i64 n] w fun e w' => e = .returned (.int .i64 b) ∧ w = w')) (Kc : Hid (∀ w : World, Calls Try.prog 14 #[.int .i64 r, .int .i64 n] w fun e w' => e = .returned (.int .i64 c) ∧ w = w')) (Kx : Hid (∀ w : World, Calls Try.prog 20 #[.int .i64 a, .int .i64 b, .int .i64 n] w fun e w' => e = .returned (.int .i64 x) ∧ Kept w w')) (Ky : Hid (∀ w : World, Calls Try.prog 20 #[.int .i64 b, .int .i64 a, .int .i64 n] w fun e w' => e = .returned (.int .i64 y) ∧ Kept w w')) (Kl : Hid (∀ w : World, Calls Try.prog 17 #[.int .i64 a, .int .i64 b, .int .i64 n] w fun e w' => e = .returned (.bool l) ∧ Kept w w')) (Kz : Hid (∀ w : World, Calls Try.prog 20 #[.int .i64 b, .int .i64 c, .int .i64 n] w fun e w' => e = .returned (.int .i64 z) ∧ Kept w w')) (Ku : Hid (∀ w : World, Calls Try.prog 20 #[.int .i64 a, .int .i64 c, .int .i64 n] w fun e w' => e = .returned (.int .i64 u) ∧ Kept w w')) (Klo : Hid (∀ w : World, Calls Try.prog 21 #[.int .i64 a, .int .i64 b, .int .i64 n] w fun e w' => e = .returned (.int .i64 lo) ∧ Kept w w')) (Khi : Hid (∀ w : World, Calls Try.prog 22 #[.int .i64 a, .int .i64 b, .int .i64 n] w fun e w' => e = .returned (.int .i64 hi) ∧ Kept w w')) (Kca : Hid (∀ w : World, Calls Try.prog 16 #[.int .i64 a, .int .i64 n] w fun e w' => e = .returned (.int .i64 ca) ∧ Kept w w')) (Kcb : Hid (∀ w : World, Calls Try.prog 16 #[.int .i64 b, .int .i64 n] w fun e w' => e = .returned (.int .i64 cb) ∧ Kept w w')) (Kcl : Hid (∀ w : World, Calls Try.prog 16 #[.int .i64 lo, .int .i64 n] w fun e w' => e = .returned (.int .i64 cl) ∧ Kept w w')) (Ko : Hid (∀ w : World, Calls Try.prog 20 #[.int .i64 lo, .int .i64 hi, .int .i64 n] w fun e w' => e = .returned (.int .i64 o) ∧ Kept w w')) (hx : x = -1) (hy : y = 1) (hl : l = false) (hz : z ≤ 0) (hu : u ≤ 0) (hca : (ca == 4) = false) (hcb : (cb == 4) = false) (h1 : (lo == a) = false) (h2 : (lo == b) = true) (h3 : (hi == a) = true) (ho : o ≤ 0) (w : World) : Calls Try.prog 5 #[.int .i64 p, .int .i64 q, .int .i64 r, .int .i64 v] w fun e w' => e = .returned (.bool true) ∧ Kept w w' := by
  subst hx hy hl
  go_enter Try.func5, Try.ntmps5
  go_wp2_with fail
  refine (Ke.out _).mono ?_
  rintro e w1 ⟨rfl, rfl⟩
  go_wp2_with fail
  refine (Ka.out _).mono ?_
  rintro e w1 ⟨rfl, rfl⟩
  go_wp2_with fail
  refine (Kb.out _).mono ?_
  rintro e w1 ⟨rfl, rfl⟩
  go_wp2_with fail
  refine (Kc.out _).mono ?_
  rintro e w1 ⟨rfl, rfl⟩
  go_wp2_with fail
  refine (Kx.out _).mono ?_
  rintro e w2 ⟨rfl, hk⟩
  have hK := hk
  clear hk
  go_wp2_with fail
  refine (alive_any _).mono ?_
  rintro e w3 ⟨rfl, hk⟩
  replace hK := hK.trans hk
  clear hk
  go_wp2_with fail
  refine (Ky.out _).mono ?_
  rintro e w4 ⟨rfl, hk⟩
  replace hK := hK.trans hk
  clear hk
  go_wp2_with fail
  refine (Kl.out _).mono ?_
  rintro e w5 ⟨rfl, hk⟩
  replace hK := hK.trans hk
  clear hk
  go_wp2_with fail
  refine (Kz.out _).mono ?_
  rintro e w6 ⟨rfl, hk⟩
  replace hK := hK.trans hk
  clear hk
  go_wp2_with fail
  refine (Ku.out _).mono ?_
  rintro e w7 ⟨rfl, hk⟩
  replace hK := hK.trans hk
  clear hk
  go_wp2_with fail
  refine (Klo.out _).mono ?_
  rintro e w8 ⟨rfl, hk⟩
  replace hK := hK.trans hk
  clear hk
  go_wp2_with fail
  refine (Khi.out _).mono ?_
  rintro e w9 ⟨rfl, hk⟩
  replace hK := hK.trans hk
  clear hk
  go_wp2_with fail
  refine (Kca.out _).mono ?_
  rintro e w10 ⟨rfl, hk⟩
  replace hK := hK.trans hk
  clear hk
  go_wp2_with fail
  refine (Kcb.out _).mono ?_
  rintro e w11 ⟨rfl, hk⟩
  replace hK := hK.trans hk
  clear hk
  go_wp2_with fail
  refine (Ko.out _).mono ?_
  rintro e w12 ⟨rfl, hk⟩
  replace hK := hK.trans hk
  clear hk
  go_wp2
  go_ret
  exact ⟨rfl, hK⟩

set_option maxHeartbeats 1000000 in
theorem lc_pmn_na_true (p q r v n a b c x y z u lo hi ca cb cl o : Int) (l : Bool) (Ke : Hid (∀ w : World, Calls Try.prog 13 #[.int .i64 v] w fun e w' => e = .returned (.int .i64 n) ∧ w = w')) (Ka : Hid (∀ w : World, Calls Try.prog 14 #[.int .i64 p, .int .i64 n] w fun e w' => e = .returned (.int .i64 a) ∧ w = w')) (Kb : Hid (∀ w : World, Calls Try.prog 14 #[.int .i64 q, .int .i64 n] w fun e w' => e = .returned (.int .i64 b) ∧ w = w')) (Kc : Hid (∀ w : World, Calls Try.prog 14 #[.int .i64 r, .int .i64 n] w fun e w' => e = .returned (.int .i64 c) ∧ w = w')) (Kx : Hid (∀ w : World, Calls Try.prog 20 #[.int .i64 a, .int .i64 b, .int .i64 n] w fun e w' => e = .returned (.int .i64 x) ∧ Kept w w')) (Ky : Hid (∀ w : World, Calls Try.prog 20 #[.int .i64 b, .int .i64 a, .int .i64 n] w fun e w' => e = .returned (.int .i64 y) ∧ Kept w w')) (Kl : Hid (∀ w : World, Calls Try.prog 17 #[.int .i64 a, .int .i64 b, .int .i64 n] w fun e w' => e = .returned (.bool l) ∧ Kept w w')) (Kz : Hid (∀ w : World, Calls Try.prog 20 #[.int .i64 b, .int .i64 c, .int .i64 n] w fun e w' => e = .returned (.int .i64 z) ∧ Kept w w')) (Ku : Hid (∀ w : World, Calls Try.prog 20 #[.int .i64 a, .int .i64 c, .int .i64 n] w fun e w' => e = .returned (.int .i64 u) ∧ Kept w w')) (Klo : Hid (∀ w : World, Calls Try.prog 21 #[.int .i64 a, .int .i64 b, .int .i64 n] w fun e w' => e = .returned (.int .i64 lo) ∧ Kept w w')) (Khi : Hid (∀ w : World, Calls Try.prog 22 #[.int .i64 a, .int .i64 b, .int .i64 n] w fun e w' => e = .returned (.int .i64 hi) ∧ Kept w w')) (Kca : Hid (∀ w : World, Calls Try.prog 16 #[.int .i64 a, .int .i64 n] w fun e w' => e = .returned (.int .i64 ca) ∧ Kept w w')) (Kcb : Hid (∀ w : World, Calls Try.prog 16 #[.int .i64 b, .int .i64 n] w fun e w' => e = .returned (.int .i64 cb) ∧ Kept w w')) (Kcl : Hid (∀ w : World, Calls Try.prog 16 #[.int .i64 lo, .int .i64 n] w fun e w' => e = .returned (.int .i64 cl) ∧ Kept w w')) (Ko : Hid (∀ w : World, Calls Try.prog 20 #[.int .i64 lo, .int .i64 hi, .int .i64 n] w fun e w' => e = .returned (.int .i64 o) ∧ Kept w w')) (hx : x = -1) (hy : y = 1) (hl : l = true) (hz : 0 < z) (hca : (ca == 4) = true) (hcl : (cl == 4) = true) (hlh : (lo == hi) = true) (w : World) : Calls Try.prog 5 #[.int .i64 p, .int .i64 q, .int .i64 r, .int .i64 v] w fun e w' => e = .returned (.bool true) ∧ Kept w w' := by
  subst hx hy hl
  go_enter Try.func5, Try.ntmps5
  go_wp2_with fail
  refine (Ke.out _).mono ?_
  rintro e w1 ⟨rfl, rfl⟩
  go_wp2_with fail
  refine (Ka.out _).mono ?_
  rintro e w1 ⟨rfl, rfl⟩
  go_wp2_with fail
  refine (Kb.out _).mono ?_
  rintro e w1 ⟨rfl, rfl⟩
  go_wp2_with fail
  refine (Kc.out _).mono ?_
  rintro e w1 ⟨rfl, rfl⟩
  go_wp2_with fail
  refine (Kx.out _).mono ?_
  rintro e w2 ⟨rfl, hk⟩
  have hK := hk
  clear hk
  go_wp2_with fail
  refine (alive_any _).mono ?_
  rintro e w3 ⟨rfl, hk⟩
  replace hK := hK.trans hk
  clear hk
  go_wp2_with fail
  refine (Ky.out _).mono ?_
  rintro e w4 ⟨rfl, hk⟩
  replace hK := hK.trans hk
  clear hk
  go_wp2_with fail
  refine (Kl.out _).mono ?_
  rintro e w5 ⟨rfl, hk⟩
  replace hK := hK.trans hk
  clear hk
  go_wp2_with fail
  refine (Kz.out _).mono ?_
  rintro e w6 ⟨rfl, hk⟩
  replace hK := hK.trans hk
  clear hk
  go_wp2_with fail
  refine (Klo.out _).mono ?_
  rintro e w7 ⟨rfl, hk⟩
  replace hK := hK.trans hk
  clear hk
  go_wp2_with fail
  refine (Khi.out _).mono ?_
  rintro e w8 ⟨rfl, hk⟩
  replace hK := hK.trans hk
  clear hk
  go_wp2_with fail
  refine (Kca.out _).mono ?_
  rintro e w9 ⟨rfl, hk⟩
  replace hK := hK.trans hk
  clear hk
  go_wp2_with fail
  refine (Kcl.out _).mono ?_
  rintro e w10 ⟨rfl, hk⟩
  replace hK := hK.trans hk
  clear hk
  go_wp2
  go_ret
  exact ⟨rfl, hK⟩

set_option maxHeartbeats 1000000 in
theorem lc_pmn_na_false (p q r v n a b c x y z u lo hi ca cb cl o : Int) (l : Bool) (Ke : Hid (∀ w : World, Calls Try.prog 13 #[.int .i64 v] w fun e w' => e = .returned (.int .i64 n) ∧ w = w')) (Ka : Hid (∀ w : World, Calls Try.prog 14 #[.int .i64 p, .int .i64 n] w fun e w' => e = .returned (.int .i64 a) ∧ w = w')) (Kb : Hid (∀ w : World, Calls Try.prog 14 #[.int .i64 q, .int .i64 n] w fun e w' => e = .returned (.int .i64 b) ∧ w = w')) (Kc : Hid (∀ w : World, Calls Try.prog 14 #[.int .i64 r, .int .i64 n] w fun e w' => e = .returned (.int .i64 c) ∧ w = w')) (Kx : Hid (∀ w : World, Calls Try.prog 20 #[.int .i64 a, .int .i64 b, .int .i64 n] w fun e w' => e = .returned (.int .i64 x) ∧ Kept w w')) (Ky : Hid (∀ w : World, Calls Try.prog 20 #[.int .i64 b, .int .i64 a, .int .i64 n] w fun e w' => e = .returned (.int .i64 y) ∧ Kept w w')) (Kl : Hid (∀ w : World, Calls Try.prog 17 #[.int .i64 a, .int .i64 b, .int .i64 n] w fun e w' => e = .returned (.bool l) ∧ Kept w w')) (Kz : Hid (∀ w : World, Calls Try.prog 20 #[.int .i64 b, .int .i64 c, .int .i64 n] w fun e w' => e = .returned (.int .i64 z) ∧ Kept w w')) (Ku : Hid (∀ w : World, Calls Try.prog 20 #[.int .i64 a, .int .i64 c, .int .i64 n] w fun e w' => e = .returned (.int .i64 u) ∧ Kept w w')) (Klo : Hid (∀ w : World, Calls Try.prog 21 #[.int .i64 a, .int .i64 b, .int .i64 n] w fun e w' => e = .returned (.int .i64 lo) ∧ Kept w w')) (Khi : Hid (∀ w : World, Calls Try.prog 22 #[.int .i64 a, .int .i64 b, .int .i64 n] w fun e w' => e = .returned (.int .i64 hi) ∧ Kept w w')) (Kca : Hid (∀ w : World, Calls Try.prog 16 #[.int .i64 a, .int .i64 n] w fun e w' => e = .returned (.int .i64 ca) ∧ Kept w w')) (Kcb : Hid (∀ w : World, Calls Try.prog 16 #[.int .i64 b, .int .i64 n] w fun e w' => e = .returned (.int .i64 cb) ∧ Kept w w')) (Kcl : Hid (∀ w : World, Calls Try.prog 16 #[.int .i64 lo, .int .i64 n] w fun e w' => e = .returned (.int .i64 cl) ∧ Kept w w')) (Ko : Hid (∀ w : World, Calls Try.prog 20 #[.int .i64 lo, .int .i64 hi, .int .i64 n] w fun e w' => e = .returned (.int .i64 o) ∧ Kept w w')) (hx : x = -1) (hy : y = 1) (hl : l = false) (hz : 0 < z) (hca : (ca == 4) = true) (hcl : (cl == 4) = true) (hlh : (lo == hi) = true) (w : World) : Calls Try.prog 5 #[.int .i64 p, .int .i64 q, .int .i64 r, .int .i64 v] w fun e w' => e = .returned (.bool true) ∧ Kept w w' := by
  subst hx hy hl
  go_enter Try.func5, Try.ntmps5
  go_wp2_with fail
  refine (Ke.out _).mono ?_
  rintro e w1 ⟨rfl, rfl⟩
  go_wp2_with fail
  refine (Ka.out _).mono ?_
  rintro e w1 ⟨rfl, rfl⟩
  go_wp2_with fail
  refine (Kb.out _).mono ?_
  rintro e w1 ⟨rfl, rfl⟩
  go_wp2_with fail
  refine (Kc.out _).mono ?_
  rintro e w1 ⟨rfl, rfl⟩
  go_wp2_with fail
  refine (Kx.out _).mono ?_
  rintro e w2 ⟨rfl, hk⟩
  have hK := hk
  clear hk
  go_wp2_with fail
  refine (alive_any _).mono ?_
  rintro e w3 ⟨rfl, hk⟩
  replace hK := hK.trans hk
  clear hk
  go_wp2_with fail
  refine (Ky.out _).mono ?_
  rintro e w4 ⟨rfl, hk⟩
  replace hK := hK.trans hk
  clear hk
  go_wp2_with fail
  refine (Kl.out _).mono ?_
  rintro e w5 ⟨rfl, hk⟩
  replace hK := hK.trans hk
  clear hk
  go_wp2_with fail
  refine (Kz.out _).mono ?_
  rintro e w6 ⟨rfl, hk⟩
  replace hK := hK.trans hk
  clear hk
  go_wp2_with fail
  refine (Klo.out _).mono ?_
  rintro e w7 ⟨rfl, hk⟩
  replace hK := hK.trans hk
  clear hk
  go_wp2_with fail
  refine (Khi.out _).mono ?_
  rintro e w8 ⟨rfl, hk⟩
  replace hK := hK.trans hk
  clear hk
  go_wp2_with fail
  refine (Kca.out _).mono ?_
  rintro e w9 ⟨rfl, hk⟩
  replace hK := hK.trans hk
  clear hk
  go_wp2_with fail
  refine (Kcl.out _).mono ?_
  rintro e w10 ⟨rfl, hk⟩
  replace hK := hK.trans hk
  clear hk
  go_wp2
  go_ret
  exact ⟨rfl, hK⟩

set_option maxHeartbeats 1000000 in
theorem lc_pmn_nb_true (p q r v n a b c x y z u lo hi ca cb cl o : Int) (l : Bool) (Ke : Hid (∀ w : World, Calls Try.prog 13 #[.int .i64 v] w fun e w' => e = .returned (.int .i64 n) ∧ w = w')) (Ka : Hid (∀ w : World, Calls Try.prog 14 #[.int .i64 p, .int .i64 n] w fun e w' => e = .returned (.int .i64 a) ∧ w = w')) (Kb : Hid (∀ w : World, Calls Try.prog 14 #[.int .i64 q, .int .i64 n] w fun e w' => e = .returned (.int .i64 b) ∧ w = w')) (Kc : Hid (∀ w : World, Calls Try.prog 14 #[.int .i64 r, .int .i64 n] w fun e w' => e = .returned (.int .i64 c) ∧ w = w')) (Kx : Hid (∀ w : World, Calls Try.prog 20 #[.int .i64 a, .int .i64 b, .int .i64 n] w fun e w' => e = .returned (.int .i64 x) ∧ Kept w w')) (Ky : Hid (∀ w : World, Calls Try.prog 20 #[.int .i64 b, .int .i64 a, .int .i64 n] w fun e w' => e = .returned (.int .i64 y) ∧ Kept w w')) (Kl : Hid (∀ w : World, Calls Try.prog 17 #[.int .i64 a, .int .i64 b, .int .i64 n] w fun e w' => e = .returned (.bool l) ∧ Kept w w')) (Kz : Hid (∀ w : World, Calls Try.prog 20 #[.int .i64 b, .int .i64 c, .int .i64 n] w fun e w' => e = .returned (.int .i64 z) ∧ Kept w w')) (Ku : Hid (∀ w : World, Calls Try.prog 20 #[.int .i64 a, .int .i64 c, .int .i64 n] w fun e w' => e = .returned (.int .i64 u) ∧ Kept w w')) (Klo : Hid (∀ w : World, Calls Try.prog 21 #[.int .i64 a, .int .i64 b, .int .i64 n] w fun e w' => e = .returned (.int .i64 lo) ∧ Kept w w')) (Khi : Hid (∀ w : World, Calls Try.prog 22 #[.int .i64 a, .int .i64 b, .int .i64 n] w fun e w' => e = .returned (.int .i64 hi) ∧ Kept w w')) (Kca : Hid (∀ w : World, Calls Try.prog 16 #[.int .i64 a, .int .i64 n] w fun e w' => e = .returned (.int .i64 ca) ∧ Kept w w')) (Kcb : Hid (∀ w : World, Calls Try.prog 16 #[.int .i64 b, .int .i64 n] w fun e w' => e = .returned (.int .i64 cb) ∧ Kept w w')) (Kcl : Hid (∀ w : World, Calls Try.prog 16 #[.int .i64 lo, .int .i64 n] w fun e w' => e = .returned (.int .i64 cl) ∧ Kept w w')) (Ko : Hid (∀ w : World, Calls Try.prog 20 #[.int .i64 lo, .int .i64 hi, .int .i64 n] w fun e w' => e = .returned (.int .i64 o) ∧ Kept w w')) (hx : x = -1) (hy : y = 1) (hl : l = true) (hz : 0 < z) (hca : (ca == 4) = false) (hcb : (cb == 4) = true) (hcl : (cl == 4) = true) (hlh : (lo == hi) = true) (w : World) : Calls Try.prog 5 #[.int .i64 p, .int .i64 q, .int .i64 r, .int .i64 v] w fun e w' => e = .returned (.bool true) ∧ Kept w w' := by
  subst hx hy hl
  go_enter Try.func5, Try.ntmps5
  go_wp2_with fail
  refine (Ke.out _).mono ?_
  rintro e w1 ⟨rfl, rfl⟩
  go_wp2_with fail
  refine (Ka.out _).mono ?_
  rintro e w1 ⟨rfl, rfl⟩
  go_wp2_with fail
  refine (Kb.out _).mono ?_
  rintro e w1 ⟨rfl, rfl⟩
  go_wp2_with fail
  refine (Kc.out _).mono ?_
  rintro e w1 ⟨rfl, rfl⟩
  go_wp2_with fail
  refine (Kx.out _).mono ?_
  rintro e w2 ⟨rfl, hk⟩
  have hK := hk
  clear hk
  go_wp2_with fail
  refine (alive_any _).mono ?_
  rintro e w3 ⟨rfl, hk⟩
  replace hK := hK.trans hk
  clear hk
  go_wp2_with fail
  refine (Ky.out _).mono ?_
  rintro e w4 ⟨rfl, hk⟩
  replace hK := hK.trans hk
  clear hk
  go_wp2_with fail
  refine (Kl.out _).mono ?_
  rintro e w5 ⟨rfl, hk⟩
  replace hK := hK.trans hk
  clear hk
  go_wp2_with fail
  refine (Kz.out _).mono ?_
  rintro e w6 ⟨rfl, hk⟩
  replace hK := hK.trans hk
  clear hk
  go_wp2_with fail
  refine (Klo.out _).mono ?_
  rintro e w7 ⟨rfl, hk⟩
  replace hK := hK.trans hk
  clear hk
  go_wp2_with fail
  refine (Khi.out _).mono ?_
  rintro e w8 ⟨rfl, hk⟩
  replace hK := hK.trans hk
  clear hk
  go_wp2_with fail
  refine (Kca.out _).mono ?_
  rintro e w9 ⟨rfl, hk⟩
  replace hK := hK.trans hk
  clear hk
  go_wp2_with fail
  refine (Kcb.out _).mono ?_
  rintro e w10 ⟨rfl, hk⟩
  replace hK := hK.trans hk
  clear hk
  go_wp2_with fail
  refine (Kcl.out _).mono ?_
  rintro e w11 ⟨rfl, hk⟩
  replace hK := hK.trans hk
  clear hk
  go_wp2
  go_ret
  exact ⟨rfl, hK⟩

set_option maxHeartbeats 1000000 in
theorem lc_pmn_nb_false (p q r v n a b c x y z u lo hi ca cb cl o : Int) (l : Bool) (Ke : Hid (∀ w : World, Calls Try.prog 13 #[.int .i64 v] w fun e w' => e = .returned (.int .i64 n) ∧ w = w')) (Ka : Hid (∀ w : World, Calls Try.prog 14 #[.int .i64 p, .int .i64 n] w fun e w' => e = .returned (.int .i64 a) ∧ w = w')) (Kb : Hid (∀ w : World, Calls Try.prog 14 #[.int .i64 q, .int .i64 n] w fun e w' => e = .returned (.int .i64 b) ∧ w = w')) (Kc : Hid (∀ w : World, Calls Try.prog 14 #[.int .i64 r, .int .i64 n] w fun e w' => e = .returned (.int .i64 c) ∧ w = w')) (Kx : Hid (∀ w : World, Calls Try.prog 20 #[.int .i64 a, .int .i64 b, .int .i64 n] w fun e w' => e = .returned (.int .i64 x) ∧ Kept w w')) (Ky : Hid (∀ w : World, Calls Try.prog 20 #[.int .i64 b, .int .i64 a, .int .i64 n] w fun e w' => e = .returned (.int .i64 y) ∧ Kept w w')) (Kl : Hid (∀ w : World, Calls Try.prog 17 #[.int .i64 a, .int .i64 b, .int .i64 n] w fun e w' => e = .returned (.bool l) ∧ Kept w w')) (Kz : Hid (∀ w : World, Calls Try.prog 20 #[.int .i64 b, .int .i64 c, .int .i64 n] w fun e w' => e = .returned (.int .i64 z) ∧ Kept w w')) (Ku : Hid (∀ w : World, Calls Try.prog 20 #[.int .i64 a, .int .i64 c, .int .i64 n] w fun e w' => e = .returned (.int .i64 u) ∧ Kept w w')) (Klo : Hid (∀ w : World, Calls Try.prog 21 #[.int .i64 a, .int .i64 b, .int .i64 n] w fun e w' => e = .returned (.int .i64 lo) ∧ Kept w w')) (Khi : Hid (∀ w : World, Calls Try.prog 22 #[.int .i64 a, .int .i64 b, .int .i64 n] w fun e w' => e = .returned (.int .i64 hi) ∧ Kept w w')) (Kca : Hid (∀ w : World, Calls Try.prog 16 #[.int .i64 a, .int .i64 n] w fun e w' => e = .returned (.int .i64 ca) ∧ Kept w w')) (Kcb : Hid (∀ w : World, Calls Try.prog 16 #[.int .i64 b, .int .i64 n] w fun e w' => e = .returned (.int .i64 cb) ∧ Kept w w')) (Kcl : Hid (∀ w : World, Calls Try.prog 16 #[.int .i64 lo, .int .i64 n] w fun e w' => e = .returned (.int .i64 cl) ∧ Kept w w')) (Ko : Hid (∀ w : World, Calls Try.prog 20 #[.int .i64 lo, .int .i64 hi, .int .i64 n] w fun e w' => e = .returned (.int .i64 o) ∧ Kept w w')) (hx : x = -1) (hy : y = 1) (hl : l = false) (hz : 0 < z) (hca : (ca == 4) = false) (hcb : (cb == 4) = true) (hcl : (cl == 4) = true) (hlh : (lo == hi) = true) (w : World) : Calls Try.prog 5 #[.int .i64 p, .int .i64 q, .int .i64 r, .int .i64 v] w fun e w' => e = .returned (.bool true) ∧ Kept w w' := by
  subst hx hy hl
  go_enter Try.func5, Try.ntmps5
  go_wp2_with fail
  refine (Ke.out _).mono ?_
  rintro e w1 ⟨rfl, rfl⟩
  go_wp2_with fail
  refine (Ka.out _).mono ?_
  rintro e w1 ⟨rfl, rfl⟩
  go_wp2_with fail
  refine (Kb.out _).mono ?_
  rintro e w1 ⟨rfl, rfl⟩
  go_wp2_with fail
  refine (Kc.out _).mono ?_
  rintro e w1 ⟨rfl, rfl⟩
  go_wp2_with fail
  refine (Kx.out _).mono ?_
  rintro e w2 ⟨rfl, hk⟩
  have hK := hk
  clear hk
  go_wp2_with fail
  refine (alive_any _).mono ?_
  rintro e w3 ⟨rfl, hk⟩
  replace hK := hK.trans hk
  clear hk
  go_wp2_with fail
  refine (Ky.out _).mono ?_
  rintro e w4 ⟨rfl, hk⟩
  replace hK := hK.trans hk
  clear hk
  go_wp2_with fail
  refine (Kl.out _).mono ?_
  rintro e w5 ⟨rfl, hk⟩
  replace hK := hK.trans hk
  clear hk
  go_wp2_with fail
  refine (Kz.out _).mono ?_
  rintro e w6 ⟨rfl, hk⟩
  replace hK := hK.trans hk
  clear hk
  go_wp2_with fail
  refine (Klo.out _).mono ?_
  rintro e w7 ⟨rfl, hk⟩
  replace hK := hK.trans hk
  clear hk
  go_wp2_with fail
  refine (Khi.out _).mono ?_
  rintro e w8 ⟨rfl, hk⟩
  replace hK := hK.trans hk
  clear hk
  go_wp2_with fail
  refine (Kca.out _).mono ?_
  rintro e w9 ⟨rfl, hk⟩
  replace hK := hK.trans hk
  clear hk
  go_wp2_with fail
  refine (Kcb.out _).mono ?_
  rintro e w10 ⟨rfl, hk⟩
  replace hK := hK.trans hk
  clear hk
  go_wp2_with fail
  refine (Kcl.out _).mono ?_
  rintro e w11 ⟨rfl, hk⟩
  replace hK := hK.trans hk
  clear hk
  go_wp2
  go_ret
  exact ⟨rfl, hK⟩

set_option maxHeartbeats 1000000 in
theorem lc_pmn_aa_true (p q r v n a b c x y z u lo hi ca cb cl o : Int) (l : Bool) (Ke : Hid (∀ w : World, Calls Try.prog 13 #[.int .i64 v] w fun e w' => e = .returned (.int .i64 n) ∧ w = w')) (Ka : Hid (∀ w : World, Calls Try.prog 14 #[.int .i64 p, .int .i64 n] w fun e w' => e = .returned (.int .i64 a) ∧ w = w')) (Kb : Hid (∀ w : World, Calls Try.prog 14 #[.int .i64 q, .int .i64 n] w fun e w' => e = .returned (.int .i64 b) ∧ w = w')) (Kc : Hid (∀ w : World, Calls Try.prog 14 #[.int .i64 r, .int .i64 n] w fun e w' => e = .returned (.int .i64 c) ∧ w = w')) (Kx : Hid (∀ w : World, Calls Try.prog 20 #[.int .i64 a, .int .i64 b, .int .i64 n] w fun e w' => e = .returned (.int .i64 x) ∧ Kept w w')) (Ky : Hid (∀ w : World, Calls Try.prog 20 #[.int .i64 b, .int .i64 a, .int .i64 n] w fun e w' => e = .returned (.int .i64 y) ∧ Kept w w')) (Kl : Hid (∀ w : World, Calls Try.prog 17 #[.int .i64 a, .int .i64 b, .int .i64 n] w fun e w' => e = .returned (.bool l) ∧ Kept w w')) (Kz : Hid (∀ w : World, Calls Try.prog 20 #[.int .i64 b, .int .i64 c, .int .i64 n] w fun e w' => e = .returned (.int .i64 z) ∧ Kept w w')) (Ku : Hid (∀ w : World, Calls Try.prog 20 #[.int .i64 a, .int .i64 c, .int .i64 n] w fun e w' => e = .returned (.int .i64 u) ∧ Kept w w')) (Klo : Hid (∀ w : World, Calls Try.prog 21 #[.int .i64 a, .int .i64 b, .int .i64 n] w fun e w' => e = .returned (.int .i64 lo) ∧ Kept w w')) (Khi : Hid (∀ w : World, Calls Try.prog 22 #[.int .i64 a, .int .i64 b, .int .i64 n] w fun e w' => e = .returned (.int .i64 hi) ∧ Kept w w')) (Kca : Hid (∀ w : World, Calls Try.prog 16 #[.int .i64 a, .int .i64 n] w fun e w' => e = .returned (.int .i64 ca) ∧ Kept w w')) (Kcb : Hid (∀ w : World, Calls Try.prog 16 #[.int .i64 b, .int .i64 n] w fun e w' => e = .returned (.int .i64 cb) ∧ Kept w w')) (Kcl : Hid (∀ w : World, Calls Try.prog 16 #[.int .i64 lo, .int .i64 n] w fun e w' => e = .returned (.int .i64 cl) ∧ Kept w w')) (Ko : Hid (∀ w : World, Calls Try.prog 20 #[.int .i64 lo, .int .i64 hi, .int .i64 n] w fun e w' => e = .returned (.int .i64 o) ∧ Kept w w')) (hx : x = -1) (hy : y = 1) (hl : l = true) (hz : 0 < z) (hca : (ca == 4) = false) (hcb : (cb == 4) = false) (h1 : (lo == a) = true) (h2 : (hi == b) = true) (ho : o ≤ 0) (w : World) : Calls Try.prog 5 #[.int .i64 p, .int .i64 q, .int .i64 r, .int .i64 v] w fun e w' => e = .returned (.bool true) ∧ Kept w w' := by
  subst hx hy hl
  go_enter Try.func5, Try.ntmps5
  go_wp2_with fail
  refine (Ke.out _).mono ?_
  rintro e w1 ⟨rfl, rfl⟩
  go_wp2_with fail
  refine (Ka.out _).mono ?_
  rintro e w1 ⟨rfl, rfl⟩
  go_wp2_with fail
  refine (Kb.out _).mono ?_
  rintro e w1 ⟨rfl, rfl⟩
  go_wp2_with fail
  refine (Kc.out _).mono ?_
  rintro e w1 ⟨rfl, rfl⟩
  go_wp2_with fail
  refine (Kx.out _).mono ?_
  rintro e w2 ⟨rfl, hk⟩
  have hK := hk
  clear hk
  go_wp2_with fail
  refine (alive_any _).mono ?_
  rintro e w3 ⟨rfl, hk⟩
  replace hK := hK.trans hk
  clear hk
  go_wp2_with fail
  refine (Ky.out _).mono ?_
  rintro e w4 ⟨rfl, hk⟩
  replace hK := hK.trans hk
  clear hk
  go_wp2_with fail
  refine (Kl.out _).mono ?_
  rintro e w5 ⟨rfl, hk⟩
  replace hK := hK.trans hk
  clear hk
  go_wp2_with fail
  refine (Kz.out _).mono ?_
  rintro e w6 ⟨rfl, hk⟩
  replace hK := hK.trans hk
  clear hk
  go_wp2_with fail
  refine (Klo.out _).mono ?_
  rintro e w7 ⟨rfl, hk⟩
  replace hK := hK.trans hk
  clear hk
  go_wp2_with fail
  refine (Khi.out _).mono ?_
  rintro e w8 ⟨rfl, hk⟩
  replace hK := hK.trans hk
  clear hk
  go_wp2_with fail
  refine (Kca.out _).mono ?_
  rintro e w9 ⟨rfl, hk⟩
  replace hK := hK.trans hk
  clear hk
  go_wp2_with fail
  refine (Kcb.out _).mono ?_
  rintro e w10 ⟨rfl, hk⟩
  replace hK := hK.trans hk
  clear hk
  go_wp2_with fail
  refine (Ko.out _).mono ?_
  rintro e w11 ⟨rfl, hk⟩
  replace hK := hK.trans hk
  clear hk
  go_wp2
  go_ret
  exact ⟨rfl, hK⟩

set_option maxHeartbeats 1000000 in
theorem lc_pmn_aa_false (p q r v n a b c x y z u lo hi ca cb cl o : Int) (l : Bool) (Ke : Hid (∀ w : World, Calls Try.prog 13 #[.int .i64 v] w fun e w' => e = .returned (.int .i64 n) ∧ w = w')) (Ka : Hid (∀ w : World, Calls Try.prog 14 #[.int .i64 p, .int .i64 n] w fun e w' => e = .returned (.int .i64 a) ∧ w = w')) (Kb : Hid (∀ w : World, Calls Try.prog 14 #[.int .i64 q, .int .i64 n] w fun e w' => e = .returned (.int .i64 b) ∧ w = w')) (Kc : Hid (∀ w : World, Calls Try.prog 14 #[.int .i64 r, .int .i64 n] w fun e w' => e = .returned (.int .i64 c) ∧ w = w')) (Kx : Hid (∀ w : World, Calls Try.prog 20 #[.int .i64 a, .int .i64 b, .int .i64 n] w fun e w' => e = .returned (.int .i64 x) ∧ Kept w w')) (Ky : Hid (∀ w : World, Calls Try.prog 20 #[.int .i64 b, .int .i64 a, .int .i64 n] w fun e w' => e = .returned (.int .i64 y) ∧ Kept w w')) (Kl : Hid (∀ w : World, Calls Try.prog 17 #[.int .i64 a, .int .i64 b, .int .i64 n] w fun e w' => e = .returned (.bool l) ∧ Kept w w')) (Kz : Hid (∀ w : World, Calls Try.prog 20 #[.int .i64 b, .int .i64 c, .int .i64 n] w fun e w' => e = .returned (.int .i64 z) ∧ Kept w w')) (Ku : Hid (∀ w : World, Calls Try.prog 20 #[.int .i64 a, .int .i64 c, .int .i64 n] w fun e w' => e = .returned (.int .i64 u) ∧ Kept w w')) (Klo : Hid (∀ w : World, Calls Try.prog 21 #[.int .i64 a, .int .i64 b, .int .i64 n] w fun e w' => e = .returned (.int .i64 lo) ∧ Kept w w')) (Khi : Hid (∀ w : World, Calls Try.prog 22 #[.int .i64 a, .int .i64 b, .int .i64 n] w fun e w' => e = .returned (.int .i64 hi) ∧ Kept w w')) (Kca : Hid (∀ w : World, Calls Try.prog 16 #[.int .i64 a, .int .i64 n] w fun e w' => e = .returned (.int .i64 ca) ∧ Kept w w')) (Kcb : Hid (∀ w : World, Calls Try.prog 16 #[.int .i64 b, .int .i64 n] w fun e w' => e = .returned (.int .i64 cb) ∧ Kept w w')) (Kcl : Hid (∀ w : World, Calls Try.prog 16 #[.int .i64 lo, .int .i64 n] w fun e w' => e = .returned (.int .i64 cl) ∧ Kept w w')) (Ko : Hid (∀ w : World, Calls Try.prog 20 #[.int .i64 lo, .int .i64 hi, .int .i64 n] w fun e w' => e = .returned (.int .i64 o) ∧ Kept w w')) (hx : x = -1) (hy : y = 1) (hl : l = false) (hz : 0 < z) (hca : (ca == 4) = false) (hcb : (cb == 4) = false) (h1 : (lo == a) = true) (h2 : (hi == b) = true) (ho : o ≤ 0) (w : World) : Calls Try.prog 5 #[.int .i64 p, .int .i64 q, .int .i64 r, .int .i64 v] w fun e w' => e = .returned (.bool true) ∧ Kept w w' := by
  subst hx hy hl
  go_enter Try.func5, Try.ntmps5
  go_wp2_with fail
  refine (Ke.out _).mono ?_
  rintro e w1 ⟨rfl, rfl⟩
  go_wp2_with fail
  refine (Ka.out _).mono ?_
  rintro e w1 ⟨rfl, rfl⟩
  go_wp2_with fail
  refine (Kb.out _).mono ?_
  rintro e w1 ⟨rfl, rfl⟩
  go_wp2_with fail
  refine (Kc.out _).mono ?_
  rintro e w1 ⟨rfl, rfl⟩
  go_wp2_with fail
  refine (Kx.out _).mono ?_
  rintro e w2 ⟨rfl, hk⟩
  have hK := hk
  clear hk
  go_wp2_with fail
  refine (alive_any _).mono ?_
  rintro e w3 ⟨rfl, hk⟩
  replace hK := hK.trans hk
  clear hk
  go_wp2_with fail
  refine (Ky.out _).mono ?_
  rintro e w4 ⟨rfl, hk⟩
  replace hK := hK.trans hk
  clear hk
  go_wp2_with fail
  refine (Kl.out _).mono ?_
  rintro e w5 ⟨rfl, hk⟩
  replace hK := hK.trans hk
  clear hk
  go_wp2_with fail
  refine (Kz.out _).mono ?_
  rintro e w6 ⟨rfl, hk⟩
  replace hK := hK.trans hk
  clear hk
  go_wp2_with fail
  refine (Klo.out _).mono ?_
  rintro e w7 ⟨rfl, hk⟩
  replace hK := hK.trans hk
  clear hk
  go_wp2_with fail
  refine (Khi.out _).mono ?_
  rintro e w8 ⟨rfl, hk⟩
  replace hK := hK.trans hk
  clear hk
  go_wp2_with fail
  refine (Kca.out _).mono ?_
  rintro e w9 ⟨rfl, hk⟩
  replace hK := hK.trans hk
  clear hk
  go_wp2_with fail
  refine (Kcb.out _).mono ?_
  rintro e w10 ⟨rfl, hk⟩
  replace hK := hK.trans hk
  clear hk
  go_wp2_with fail
  refine (Ko.out _).mono ?_
  rintro e w11 ⟨rfl, hk⟩
  replace hK := hK.trans hk
  clear hk
  go_wp2
  go_ret
  exact ⟨rfl, hK⟩

set_option maxHeartbeats 1000000 in
theorem lc_pmn_bb_true (p q r v n a b c x y z u lo hi ca cb cl o : Int) (l : Bool) (Ke : Hid (∀ w : World, Calls Try.prog 13 #[.int .i64 v] w fun e w' => e = .returned (.int .i64 n) ∧ w = w')) (Ka : Hid (∀ w : World, Calls Try.prog 14 #[.int .i64 p, .int .i64 n] w fun e w' => e = .returned (.int .i64 a) ∧ w = w')) (Kb : Hid (∀ w : World, Calls Try.prog 14 #[.int .i64 q, .int .i64 n] w fun e w' => e = .returned (.int .i64 b) ∧ w = w')) (Kc : Hid (∀ w : World, Calls Try.prog 14 #[.int .i64 r, .int .i64 n] w fun e w' => e = .returned (.int .i64 c) ∧ w = w')) (Kx : Hid (∀ w : World, Calls Try.prog 20 #[.int .i64 a, .int .i64 b, .int .i64 n] w fun e w' => e = .returned (.int .i64 x) ∧ Kept w w')) (Ky : Hid (∀ w : World, Calls Try.prog 20 #[.int .i64 b, .int .i64 a, .int .i64 n] w fun e w' => e = .returned (.int .i64 y) ∧ Kept w w')) (Kl : Hid (∀ w : World, Calls Try.prog 17 #[.int .i64 a, .int .i64 b, .int .i64 n] w fun e w' => e = .returned (.bool l) ∧ Kept w w')) (Kz : Hid (∀ w : World, Calls Try.prog 20 #[.int .i64 b, .int .i64 c, .int .i64 n] w fun e w' => e = .returned (.int .i64 z) ∧ Kept w w')) (Ku : Hid (∀ w : World, Calls Try.prog 20 #[.int .i64 a, .int .i64 c, .int .i64 n] w fun e w' => e = .returned (.int .i64 u) ∧ Kept w w')) (Klo : Hid (∀ w : World, Calls Try.prog 21 #[.int .i64 a, .int .i64 b, .int .i64 n] w fun e w' => e = .returned (.int .i64 lo) ∧ Kept w w')) (Khi : Hid (∀ w : World, Calls Try.prog 22 #[.int .i64 a, .int .i64 b, .int .i64 n] w fun e w' => e = .returned (.int .i64 hi) ∧ Kept w w')) (Kca : Hid (∀ w : World, Calls Try.prog 16 #[.int .i64 a, .int .i64 n] w fun e w' => e = .returned (.int .i64 ca) ∧ Kept w w')) (Kcb : Hid (∀ w : World, Calls Try.prog 16 #[.int .i64 b, .int .i64 n] w fun e w' => e = .returned (.int .i64 cb) ∧ Kept w w')) (Kcl : Hid (∀ w : World, Calls Try.prog 16 #[.int .i64 lo, .int .i64 n] w fun e w' => e = .returned (.int .i64 cl) ∧ Kept w w')) (Ko : Hid (∀ w : World, Calls Try.prog 20 #[.int .i64 lo, .int .i64 hi, .int .i64 n] w fun e w' => e = .returned (.int .i64 o) ∧ Kept w w')) (hx : x = -1) (hy : y = 1) (hl : l = true) (hz : 0 < z) (hca : (ca == 4) = false) (hcb : (cb == 4) = false) (h1 : (lo == a) = false) (h2 : (lo == b) = true) (h3 : (hi == a) = true) (ho : o ≤ 0) (w : World) : Calls Try.prog 5 #[.int .i64 p, .int .i64 q, .int .i64 r, .int .i64 v] w fun e w' => e = .returned (.bool true) ∧ Kept w w' := by
  subst hx hy hl
  go_enter Try.func5, Try.ntmps5
  go_wp2_with fail
  refine (Ke.out _).mono ?_
  rintro e w1 ⟨rfl, rfl⟩
  go_wp2_with fail
  refine (Ka.out _).mono ?_
  rintro e w1 ⟨rfl, rfl⟩
  go_wp2_with fail
  refine (Kb.out _).mono ?_
  rintro e w1 ⟨rfl, rfl⟩
  go_wp2_with fail
  refine (Kc.out _).mono ?_
  rintro e w1 ⟨rfl, rfl⟩
  go_wp2_with fail
  refine (Kx.out _).mono ?_
  rintro e w2 ⟨rfl, hk⟩
  have hK := hk
  clear hk
  go_wp2_with fail
  refine (alive_any _).mono ?_
  rintro e w3 ⟨rfl, hk⟩
  replace hK := hK.trans hk
  clear hk
  go_wp2_with fail
  refine (Ky.out _).mono ?_
  rintro e w4 ⟨rfl, hk⟩
  replace hK := hK.trans hk
  clear hk
  go_wp2_with fail
  refine (Kl.out _).mono ?_
  rintro e w5 ⟨rfl, hk⟩
  replace hK := hK.trans hk
  clear hk
  go_wp2_with fail
  refine (Kz.out _).mono ?_
  rintro e w6 ⟨rfl, hk⟩
  replace hK := hK.trans hk
  clear hk
  go_wp2_with fail
  refine (Klo.out _).mono ?_
  rintro e w7 ⟨rfl, hk⟩
  replace hK := hK.trans hk
  clear hk
  go_wp2_with fail
  refine (Khi.out _).mono ?_
  rintro e w8 ⟨rfl, hk⟩
  replace hK := hK.trans hk
  clear hk
  go_wp2_with fail
  refine (Kca.out _).mono ?_
  rintro e w9 ⟨rfl, hk⟩
  replace hK := hK.trans hk
  clear hk
  go_wp2_with fail
  refine (Kcb.out _).mono ?_
  rintro e w10 ⟨rfl, hk⟩
  replace hK := hK.trans hk
  clear hk
  go_wp2_with fail
  refine (Ko.out _).mono ?_
  rintro e w11 ⟨rfl, hk⟩
  replace hK := hK.trans hk
  clear hk
  go_wp2
  go_ret
  exact ⟨rfl, hK⟩

set_option maxHeartbeats 1000000 in
theorem lc_pmn_bb_false (p q r v n a b c x y z u lo hi ca cb cl o : Int) (l : Bool) (Ke : Hid (∀ w : World, Calls Try.prog 13 #[.int .i64 v] w fun e w' => e = .returned (.int .i64 n) ∧ w = w')) (Ka : Hid (∀ w : World, Calls Try.prog 14 #[.int .i64 p, .int .i64 n] w fun e w' => e = .returned (.int .i64 a) ∧ w = w')) (Kb : Hid (∀ w : World, Calls Try.prog 14 #[.int .i64 q, .int .i64 n] w fun e w' => e = .returned (.int .i64 b) ∧ w = w')) (Kc : Hid (∀ w : World, Calls Try.prog 14 #[.int .i64 r, .int .i64 n] w fun e w' => e = .returned (.int .i64 c) ∧ w = w')) (Kx : Hid (∀ w : World, Calls Try.prog 20 #[.int .i64 a, .int .i64 b, .int .i64 n] w fun e w' => e = .returned (.int .i64 x) ∧ Kept w w')) (Ky : Hid (∀ w : World, Calls Try.prog 20 #[.int .i64 b, .int .i64 a, .int .i64 n] w fun e w' => e = .returned (.int .i64 y) ∧ Kept w w')) (Kl : Hid (∀ w : World, Calls Try.prog 17 #[.int .i64 a, .int .i64 b, .int .i64 n] w fun e w' => e = .returned (.bool l) ∧ Kept w w')) (Kz : Hid (∀ w : World, Calls Try.prog 20 #[.int .i64 b, .int .i64 c, .int .i64 n] w fun e w' => e = .returned (.int .i64 z) ∧ Kept w w')) (Ku : Hid (∀ w : World, Calls Try.prog 20 #[.int .i64 a, .int .i64 c, .int .i64 n] w fun e w' => e = .returned (.int .i64 u) ∧ Kept w w')) (Klo : Hid (∀ w : World, Calls Try.prog 21 #[.int .i64 a, .int .i64 b, .int .i64 n] w fun e w' => e = .returned (.int .i64 lo) ∧ Kept w w')) (Khi : Hid (∀ w : World, Calls Try.prog 22 #[.int .i64 a, .int .i64 b, .int .i64 n] w fun e w' => e = .returned (.int .i64 hi) ∧ Kept w w')) (Kca : Hid (∀ w : World, Calls Try.prog 16 #[.int .i64 a, .int .i64 n] w fun e w' => e = .returned (.int .i64 ca) ∧ Kept w w')) (Kcb : Hid (∀ w : World, Calls Try.prog 16 #[.int .i64 b, .int .i64 n] w fun e w' => e = .returned (.int .i64 cb) ∧ Kept w w')) (Kcl : Hid (∀ w : World, Calls Try.prog 16 #[.int .i64 lo, .int .i64 n] w fun e w' => e = .returned (.int .i64 cl) ∧ Kept w w')) (Ko : Hid (∀ w : World, Calls Try.prog 20 #[.int .i64 lo, .int .i64 hi, .int .i64 n] w fun e w' => e = .returned (.int .i64 o) ∧ Kept w w')) (hx : x = -1) (hy : y = 1) (hl : l = false) (hz : 0 < z) (hca : (ca == 4) = false) (hcb : (cb == 4) = false) (h1 : (lo == a) = false) (h2 : (lo == b) = true) (h3 : (hi == a) = true) (ho : o ≤ 0) (w : World) : Calls Try.prog 5 #[.int .i64 p, .int .i64 q, .int .i64 r, .int .i64 v] w fun e w' => e = .returned (.bool true) ∧ Kept w w' := by
  subst hx hy hl
  go_enter Try.func5, Try.ntmps5
  go_wp2_with fail
  refine (Ke.out _).mono ?_
  rintro e w1 ⟨rfl, rfl⟩
  go_wp2_with fail
  refine (Ka.out _).mono ?_
  rintro e w1 ⟨rfl, rfl⟩
  go_wp2_with fail
  refine (Kb.out _).mono ?_
  rintro e w1 ⟨rfl, rfl⟩
  go_wp2_with fail
  refine (Kc.out _).mono ?_
  rintro e w1 ⟨rfl, rfl⟩
  go_wp2_with fail
  refine (Kx.out _).mono ?_
  rintro e w2 ⟨rfl, hk⟩
  have hK := hk
  clear hk
  go_wp2_with fail
  refine (alive_any _).mono ?_
  rintro e w3 ⟨rfl, hk⟩
  replace hK := hK.trans hk
  clear hk
  go_wp2_with fail
  refine (Ky.out _).mono ?_
  rintro e w4 ⟨rfl, hk⟩
  replace hK := hK.trans hk
  clear hk
  go_wp2_with fail
  refine (Kl.out _).mono ?_
  rintro e w5 ⟨rfl, hk⟩
  replace hK := hK.trans hk
  clear hk
  go_wp2_with fail
  refine (Kz.out _).mono ?_
  rintro e w6 ⟨rfl, hk⟩
  replace hK := hK.trans hk
  clear hk
  go_wp2_with fail
  refine (Klo.out _).mono ?_
  rintro e w7 ⟨rfl, hk⟩
  replace hK := hK.trans hk
  clear hk
  go_wp2_with fail
  refine (Khi.out _).mono ?_
  rintro e w8 ⟨rfl, hk⟩
  replace hK := hK.trans hk
  clear hk
  go_wp2_with fail
  refine (Kca.out _).mono ?_
  rintro e w9 ⟨rfl, hk⟩
  replace hK := hK.trans hk
  clear hk
  go_wp2_with fail
  refine (Kcb.out _).mono ?_
  rintro e w10 ⟨rfl, hk⟩
  replace hK := hK.trans hk
  clear hk
  go_wp2_with fail
  refine (Ko.out _).mono ?_
  rintro e w11 ⟨rfl, hk⟩
  replace hK := hK.trans hk
  clear hk
  go_wp2
  go_ret
  exact ⟨rfl, hK⟩

end Go.Proofs.Ytebjkfecijeehab
