/- The law BitsNext, walked from the pattern on. -/
import Derived.Test.YtebjkfecijeehabNextMath
import Derived.Test.YtebjkfecijeehabEither
import Derived.Test.YtebjkfecijeehabAlive
namespace Go.Proofs.Ytebjkfecijeehab
open Go.ChangeShapes Go.WideShapes Go.ChangeAt Go.RowKit
set_option linter.unusedVariables false

set_option maxHeartbeats 1000000 in
theorem lnext_nan (a c v n b d N : Int) (qb : -9223372036854775808 ≤ b ∧ b ≤ 9223372036854775807) (qd : -9223372036854775808 ≤ d ∧ d ≤ 9223372036854775807) (qN : -9223372036854775808 ≤ N ∧ N ≤ 9223372036854775807) (qp : -9223372036854775808 ≤ prv N n ∧ prv N n ≤ 9223372036854775807) (Ke : Hid (∀ w : World, Calls Try.prog 13 #[.int .i64 v] w fun e w' => e = .returned (.int .i64 n) ∧ w = w')) (Kb : Hid (∀ w : World, Calls Try.prog 14 #[.int .i64 a, .int .i64 n] w fun e w' => e = .returned (.int .i64 b) ∧ w = w')) (Kd : Hid (∀ w : World, Calls Try.prog 14 #[.int .i64 c, .int .i64 n] w fun e w' => e = .returned (.int .i64 d) ∧ w = w')) (KN : Hid (∀ w : World, Calls Try.prog 15 #[.int .i64 b, .int .i64 n] w fun e w' => e = .returned (.int .i64 N) ∧ Kept w w')) (hcb : (cls b n == 4) = true) (hcN : (cls N n == 4) = true) (w : World) : Calls Try.prog 4 #[.int .i64 a, .int .i64 c, .int .i64 v] w fun e w' => e = .returned (.bool true) ∧ Kept w w' := by
  go_enter Try.func4, Try.ntmps4
  go_wp2_with fail
  refine (Ke.out _).mono ?_
  rintro e w1 ⟨rfl, rfl⟩
  go_wp2_with fail
  refine (Kb.out _).mono ?_
  rintro e w2 ⟨rfl, rfl⟩
  go_wp2_with fail
  refine (Kd.out _).mono ?_
  rintro e w3 ⟨rfl, rfl⟩
  go_wp2_with fail
  refine (KN.out _).mono ?_
  rintro e w4 ⟨rfl, hK⟩
  go_wp2_with fail
  refine (alive_any _).mono ?_
  rintro e w5 ⟨rfl, hk5⟩
  replace hK := hK.trans hk5
  clear hk5
  go_wp2_with fail
  refine (class_any b n _).mono ?_
  rintro e w6 ⟨rfl, hk6⟩
  replace hK := hK.trans hk6
  clear hk6
  go_wp2_with fail
  refine (alive_any _).mono ?_
  rintro e w7 ⟨rfl, hk7⟩
  replace hK := hK.trans hk7
  clear hk7
  go_wp2_with fail
  refine (class_any N n _).mono ?_
  rintro e w8 ⟨rfl, hk8⟩
  replace hK := hK.trans hk8
  clear hk8
  go_wp2
  go_ret
  exact ⟨rfl, hK⟩

set_option maxHeartbeats 1000000 in
theorem lnext_inf (a c v n b d N : Int) (qb : -9223372036854775808 ≤ b ∧ b ≤ 9223372036854775807) (qd : -9223372036854775808 ≤ d ∧ d ≤ 9223372036854775807) (qN : -9223372036854775808 ≤ N ∧ N ≤ 9223372036854775807) (qp : -9223372036854775808 ≤ prv N n ∧ prv N n ≤ 9223372036854775807) (Ke : Hid (∀ w : World, Calls Try.prog 13 #[.int .i64 v] w fun e w' => e = .returned (.int .i64 n) ∧ w = w')) (Kb : Hid (∀ w : World, Calls Try.prog 14 #[.int .i64 a, .int .i64 n] w fun e w' => e = .returned (.int .i64 b) ∧ w = w')) (Kd : Hid (∀ w : World, Calls Try.prog 14 #[.int .i64 c, .int .i64 n] w fun e w' => e = .returned (.int .i64 d) ∧ w = w')) (KN : Hid (∀ w : World, Calls Try.prog 15 #[.int .i64 b, .int .i64 n] w fun e w' => e = .returned (.int .i64 N) ∧ Kept w w')) (hcb : (cls b n == 4) = false) (hc3 : (cls b n == 3) = true) (hl0 : lss b 0 n = false) (hNb : (N == b) = true) (w : World) : Calls Try.prog 4 #[.int .i64 a, .int .i64 c, .int .i64 v] w fun e w' => e = .returned (.bool true) ∧ Kept w w' := by
  go_enter Try.func4, Try.ntmps4
  go_wp2_with fail
  refine (Ke.out _).mono ?_
  rintro e w1 ⟨rfl, rfl⟩
  go_wp2_with fail
  refine (Kb.out _).mono ?_
  rintro e w2 ⟨rfl, rfl⟩
  go_wp2_with fail
  refine (Kd.out _).mono ?_
  rintro e w3 ⟨rfl, rfl⟩
  go_wp2_with fail
  refine (KN.out _).mono ?_
  rintro e w4 ⟨rfl, hK⟩
  go_wp2_with fail
  refine (alive_any _).mono ?_
  rintro e w5 ⟨rfl, hk5⟩
  replace hK := hK.trans hk5
  clear hk5
  go_wp2_with fail
  refine (class_any b n _).mono ?_
  rintro e w6 ⟨rfl, hk6⟩
  replace hK := hK.trans hk6
  clear hk6
  go_wp2_with fail
  refine (class_any b n _).mono ?_
  rintro e w7 ⟨rfl, hk7⟩
  replace hK := hK.trans hk7
  clear hk7
  go_wp2_with fail
  refine (less_any b 0 n qb.1 qb.2 (by decide) (by decide) _).mono ?_
  rintro e w8 ⟨rfl, hk8⟩
  replace hK := hK.trans hk8
  clear hk8
  go_wp2
  go_ret
  exact ⟨rfl, hK⟩

set_option maxHeartbeats 1000000 in
theorem lnext_00 (a c v n b d N : Int) (qb : -9223372036854775808 ≤ b ∧ b ≤ 9223372036854775807) (qd : -9223372036854775808 ≤ d ∧ d ≤ 9223372036854775807) (qN : -9223372036854775808 ≤ N ∧ N ≤ 9223372036854775807) (qp : -9223372036854775808 ≤ prv N n ∧ prv N n ≤ 9223372036854775807) (Ke : Hid (∀ w : World, Calls Try.prog 13 #[.int .i64 v] w fun e w' => e = .returned (.int .i64 n) ∧ w = w')) (Kb : Hid (∀ w : World, Calls Try.prog 14 #[.int .i64 a, .int .i64 n] w fun e w' => e = .returned (.int .i64 b) ∧ w = w')) (Kd : Hid (∀ w : World, Calls Try.prog 14 #[.int .i64 c, .int .i64 n] w fun e w' => e = .returned (.int .i64 d) ∧ w = w')) (KN : Hid (∀ w : World, Calls Try.prog 15 #[.int .i64 b, .int .i64 n] w fun e w' => e = .returned (.int .i64 N) ∧ Kept w w')) (hcb : (cls b n == 4) = false) (l1 : lss b N n = true) (l2 : sam (prv N n) b n = true) (l4 : (ord b N n == -1) = true) (c3 : (cls b n == 3) = false) (cd : lss b d n = false) (w : World) : Calls Try.prog 4 #[.int .i64 a, .int .i64 c, .int .i64 v] w fun e w' => e = .returned (.bool true) ∧ Kept w w' := by
  go_enter Try.func4, Try.ntmps4
  go_wp2_with fail
  refine (Ke.out _).mono ?_
  rintro e w1 ⟨rfl, rfl⟩
  go_wp2_with fail
  refine (Kb.out _).mono ?_
  rintro e w2 ⟨rfl, rfl⟩
  go_wp2_with fail
  refine (Kd.out _).mono ?_
  rintro e w3 ⟨rfl, rfl⟩
  go_wp2_with fail
  refine (KN.out _).mono ?_
  rintro e w4 ⟨rfl, hK⟩
  go_wp2_with fail
  refine (alive_any _).mono ?_
  rintro e w5 ⟨rfl, hk5⟩
  replace hK := hK.trans hk5
  clear hk5
  go_wp2_with fail
  refine (class_any b n _).mono ?_
  rintro e w6 ⟨rfl, hk6⟩
  replace hK := hK.trans hk6
  clear hk6
  go_wp2_with fail
  refine (class_any b n _).mono ?_
  rintro e w7 ⟨rfl, hk7⟩
  replace hK := hK.trans hk7
  clear hk7
  go_wp2_with fail
  refine (less_any b N n qb.1 qb.2 qN.1 qN.2 _).mono ?_
  rintro e w8 ⟨rfl, hk8⟩
  replace hK := hK.trans hk8
  clear hk8
  go_wp2_with fail
  refine (prev_any N n qN.1 qN.2 _).mono ?_
  rintro e w9 ⟨rfl, hk9⟩
  replace hK := hK.trans hk9
  clear hk9
  go_wp2_with fail
  refine (same_any (prv N n) b n qp.1 qp.2 qb.1 qb.2 _).mono ?_
  rintro e w10 ⟨rfl, hk10⟩
  replace hK := hK.trans hk10
  clear hk10
  go_wp2_with fail
  refine (less_any b d n qb.1 qb.2 qd.1 qd.2 _).mono ?_
  rintro e w11 ⟨rfl, hk11⟩
  replace hK := hK.trans hk11
  clear hk11
  go_wp2_with fail
  refine (order_any b N n qb.1 qb.2 qN.1 qN.2 _).mono ?_
  rintro e w12 ⟨rfl, hk12⟩
  replace hK := hK.trans hk12
  clear hk12
  go_wp2
  go_ret
  exact ⟨rfl, hK⟩

set_option maxHeartbeats 1000000 in
theorem lnext_01 (a c v n b d N : Int) (qb : -9223372036854775808 ≤ b ∧ b ≤ 9223372036854775807) (qd : -9223372036854775808 ≤ d ∧ d ≤ 9223372036854775807) (qN : -9223372036854775808 ≤ N ∧ N ≤ 9223372036854775807) (qp : -9223372036854775808 ≤ prv N n ∧ prv N n ≤ 9223372036854775807) (Ke : Hid (∀ w : World, Calls Try.prog 13 #[.int .i64 v] w fun e w' => e = .returned (.int .i64 n) ∧ w = w')) (Kb : Hid (∀ w : World, Calls Try.prog 14 #[.int .i64 a, .int .i64 n] w fun e w' => e = .returned (.int .i64 b) ∧ w = w')) (Kd : Hid (∀ w : World, Calls Try.prog 14 #[.int .i64 c, .int .i64 n] w fun e w' => e = .returned (.int .i64 d) ∧ w = w')) (KN : Hid (∀ w : World, Calls Try.prog 15 #[.int .i64 b, .int .i64 n] w fun e w' => e = .returned (.int .i64 N) ∧ Kept w w')) (hcb : (cls b n == 4) = false) (l1 : lss b N n = true) (l2 : sam (prv N n) b n = true) (l4 : (ord b N n == -1) = true) (c3 : (cls b n == 3) = false) (cd : lss b d n = true) (ce : lss d N n = false) (w : World) : Calls Try.prog 4 #[.int .i64 a, .int .i64 c, .int .i64 v] w fun e w' => e = .returned (.bool true) ∧ Kept w w' := by
  go_enter Try.func4, Try.ntmps4
  go_wp2_with fail
  refine (Ke.out _).mono ?_
  rintro e w1 ⟨rfl, rfl⟩
  go_wp2_with fail
  refine (Kb.out _).mono ?_
  rintro e w2 ⟨rfl, rfl⟩
  go_wp2_with fail
  refine (Kd.out _).mono ?_
  rintro e w3 ⟨rfl, rfl⟩
  go_wp2_with fail
  refine (KN.out _).mono ?_
  rintro e w4 ⟨rfl, hK⟩
  go_wp2_with fail
  refine (alive_any _).mono ?_
  rintro e w5 ⟨rfl, hk5⟩
  replace hK := hK.trans hk5
  clear hk5
  go_wp2_with fail
  refine (class_any b n _).mono ?_
  rintro e w6 ⟨rfl, hk6⟩
  replace hK := hK.trans hk6
  clear hk6
  go_wp2_with fail
  refine (class_any b n _).mono ?_
  rintro e w7 ⟨rfl, hk7⟩
  replace hK := hK.trans hk7
  clear hk7
  go_wp2_with fail
  refine (less_any b N n qb.1 qb.2 qN.1 qN.2 _).mono ?_
  rintro e w8 ⟨rfl, hk8⟩
  replace hK := hK.trans hk8
  clear hk8
  go_wp2_with fail
  refine (prev_any N n qN.1 qN.2 _).mono ?_
  rintro e w9 ⟨rfl, hk9⟩
  replace hK := hK.trans hk9
  clear hk9
  go_wp2_with fail
  refine (same_any (prv N n) b n qp.1 qp.2 qb.1 qb.2 _).mono ?_
  rintro e w10 ⟨rfl, hk10⟩
  replace hK := hK.trans hk10
  clear hk10
  go_wp2_with fail
  refine (less_any b d n qb.1 qb.2 qd.1 qd.2 _).mono ?_
  rintro e w11 ⟨rfl, hk11⟩
  replace hK := hK.trans hk11
  clear hk11
  go_wp2_with fail
  refine (less_any d N n qd.1 qd.2 qN.1 qN.2 _).mono ?_
  rintro e w12 ⟨rfl, hk12⟩
  replace hK := hK.trans hk12
  clear hk12
  go_wp2_with fail
  refine (order_any b N n qb.1 qb.2 qN.1 qN.2 _).mono ?_
  rintro e w13 ⟨rfl, hk13⟩
  replace hK := hK.trans hk13
  clear hk13
  go_wp2
  go_ret
  exact ⟨rfl, hK⟩

set_option maxHeartbeats 1000000 in
theorem lnext_10 (a c v n b d N : Int) (qb : -9223372036854775808 ≤ b ∧ b ≤ 9223372036854775807) (qd : -9223372036854775808 ≤ d ∧ d ≤ 9223372036854775807) (qN : -9223372036854775808 ≤ N ∧ N ≤ 9223372036854775807) (qp : -9223372036854775808 ≤ prv N n ∧ prv N n ≤ 9223372036854775807) (Ke : Hid (∀ w : World, Calls Try.prog 13 #[.int .i64 v] w fun e w' => e = .returned (.int .i64 n) ∧ w = w')) (Kb : Hid (∀ w : World, Calls Try.prog 14 #[.int .i64 a, .int .i64 n] w fun e w' => e = .returned (.int .i64 b) ∧ w = w')) (Kd : Hid (∀ w : World, Calls Try.prog 14 #[.int .i64 c, .int .i64 n] w fun e w' => e = .returned (.int .i64 d) ∧ w = w')) (KN : Hid (∀ w : World, Calls Try.prog 15 #[.int .i64 b, .int .i64 n] w fun e w' => e = .returned (.int .i64 N) ∧ Kept w w')) (hcb : (cls b n == 4) = false) (l1 : lss b N n = true) (l2 : sam (prv N n) b n = true) (l4 : (ord b N n == -1) = true) (c3 : (cls b n == 3) = true) (c0 : lss b 0 n = true) (cd : lss b d n = false) (w : World) : Calls Try.prog 4 #[.int .i64 a, .int .i64 c, .int .i64 v] w fun e w' => e = .returned (.bool true) ∧ Kept w w' := by
  go_enter Try.func4, Try.ntmps4
  go_wp2_with fail
  refine (Ke.out _).mono ?_
  rintro e w1 ⟨rfl, rfl⟩
  go_wp2_with fail
  refine (Kb.out _).mono ?_
  rintro e w2 ⟨rfl, rfl⟩
  go_wp2_with fail
  refine (Kd.out _).mono ?_
  rintro e w3 ⟨rfl, rfl⟩
  go_wp2_with fail
  refine (KN.out _).mono ?_
  rintro e w4 ⟨rfl, hK⟩
  go_wp2_with fail
  refine (alive_any _).mono ?_
  rintro e w5 ⟨rfl, hk5⟩
  replace hK := hK.trans hk5
  clear hk5
  go_wp2_with fail
  refine (class_any b n _).mono ?_
  rintro e w6 ⟨rfl, hk6⟩
  replace hK := hK.trans hk6
  clear hk6
  go_wp2_with fail
  refine (class_any b n _).mono ?_
  rintro e w7 ⟨rfl, hk7⟩
  replace hK := hK.trans hk7
  clear hk7
  go_wp2_with fail
  refine (less_any b 0 n qb.1 qb.2 (by decide) (by decide) _).mono ?_
  rintro e w8 ⟨rfl, hk8⟩
  replace hK := hK.trans hk8
  clear hk8
  go_wp2_with fail
  refine (less_any b N n qb.1 qb.2 qN.1 qN.2 _).mono ?_
  rintro e w9 ⟨rfl, hk9⟩
  replace hK := hK.trans hk9
  clear hk9
  go_wp2_with fail
  refine (prev_any N n qN.1 qN.2 _).mono ?_
  rintro e w10 ⟨rfl, hk10⟩
  replace hK := hK.trans hk10
  clear hk10
  go_wp2_with fail
  refine (same_any (prv N n) b n qp.1 qp.2 qb.1 qb.2 _).mono ?_
  rintro e w11 ⟨rfl, hk11⟩
  replace hK := hK.trans hk11
  clear hk11
  go_wp2_with fail
  refine (less_any b d n qb.1 qb.2 qd.1 qd.2 _).mono ?_
  rintro e w12 ⟨rfl, hk12⟩
  replace hK := hK.trans hk12
  clear hk12
  go_wp2_with fail
  refine (order_any b N n qb.1 qb.2 qN.1 qN.2 _).mono ?_
  rintro e w13 ⟨rfl, hk13⟩
  replace hK := hK.trans hk13
  clear hk13
  go_wp2
  go_ret
  exact ⟨rfl, hK⟩

set_option maxHeartbeats 1000000 in
theorem lnext_11 (a c v n b d N : Int) (qb : -9223372036854775808 ≤ b ∧ b ≤ 9223372036854775807) (qd : -9223372036854775808 ≤ d ∧ d ≤ 9223372036854775807) (qN : -9223372036854775808 ≤ N ∧ N ≤ 9223372036854775807) (qp : -9223372036854775808 ≤ prv N n ∧ prv N n ≤ 9223372036854775807) (Ke : Hid (∀ w : World, Calls Try.prog 13 #[.int .i64 v] w fun e w' => e = .returned (.int .i64 n) ∧ w = w')) (Kb : Hid (∀ w : World, Calls Try.prog 14 #[.int .i64 a, .int .i64 n] w fun e w' => e = .returned (.int .i64 b) ∧ w = w')) (Kd : Hid (∀ w : World, Calls Try.prog 14 #[.int .i64 c, .int .i64 n] w fun e w' => e = .returned (.int .i64 d) ∧ w = w')) (KN : Hid (∀ w : World, Calls Try.prog 15 #[.int .i64 b, .int .i64 n] w fun e w' => e = .returned (.int .i64 N) ∧ Kept w w')) (hcb : (cls b n == 4) = false) (l1 : lss b N n = true) (l2 : sam (prv N n) b n = true) (l4 : (ord b N n == -1) = true) (c3 : (cls b n == 3) = true) (c0 : lss b 0 n = true) (cd : lss b d n = true) (ce : lss d N n = false) (w : World) : Calls Try.prog 4 #[.int .i64 a, .int .i64 c, .int .i64 v] w fun e w' => e = .returned (.bool true) ∧ Kept w w' := by
  go_enter Try.func4, Try.ntmps4
  go_wp2_with fail
  refine (Ke.out _).mono ?_
  rintro e w1 ⟨rfl, rfl⟩
  go_wp2_with fail
  refine (Kb.out _).mono ?_
  rintro e w2 ⟨rfl, rfl⟩
  go_wp2_with fail
  refine (Kd.out _).mono ?_
  rintro e w3 ⟨rfl, rfl⟩
  go_wp2_with fail
  refine (KN.out _).mono ?_
  rintro e w4 ⟨rfl, hK⟩
  go_wp2_with fail
  refine (alive_any _).mono ?_
  rintro e w5 ⟨rfl, hk5⟩
  replace hK := hK.trans hk5
  clear hk5
  go_wp2_with fail
  refine (class_any b n _).mono ?_
  rintro e w6 ⟨rfl, hk6⟩
  replace hK := hK.trans hk6
  clear hk6
  go_wp2_with fail
  refine (class_any b n _).mono ?_
  rintro e w7 ⟨rfl, hk7⟩
  replace hK := hK.trans hk7
  clear hk7
  go_wp2_with fail
  refine (less_any b 0 n qb.1 qb.2 (by decide) (by decide) _).mono ?_
  rintro e w8 ⟨rfl, hk8⟩
  replace hK := hK.trans hk8
  clear hk8
  go_wp2_with fail
  refine (less_any b N n qb.1 qb.2 qN.1 qN.2 _).mono ?_
  rintro e w9 ⟨rfl, hk9⟩
  replace hK := hK.trans hk9
  clear hk9
  go_wp2_with fail
  refine (prev_any N n qN.1 qN.2 _).mono ?_
  rintro e w10 ⟨rfl, hk10⟩
  replace hK := hK.trans hk10
  clear hk10
  go_wp2_with fail
  refine (same_any (prv N n) b n qp.1 qp.2 qb.1 qb.2 _).mono ?_
  rintro e w11 ⟨rfl, hk11⟩
  replace hK := hK.trans hk11
  clear hk11
  go_wp2_with fail
  refine (less_any b d n qb.1 qb.2 qd.1 qd.2 _).mono ?_
  rintro e w12 ⟨rfl, hk12⟩
  replace hK := hK.trans hk12
  clear hk12
  go_wp2_with fail
  refine (less_any d N n qd.1 qd.2 qN.1 qN.2 _).mono ?_
  rintro e w13 ⟨rfl, hk13⟩
  replace hK := hK.trans hk13
  clear hk13
  go_wp2_with fail
  refine (order_any b N n qb.1 qb.2 qN.1 qN.2 _).mono ?_
  rintro e w14 ⟨rfl, hk14⟩
  replace hK := hK.trans hk14
  clear hk14
  go_wp2
  go_ret
  exact ⟨rfl, hK⟩

theorem lnext_any (a c v : Int) (ha1 : -9223372036854775808 ≤ a) (ha2 : a ≤ 9223372036854775807) (hc1 : -9223372036854775808 ≤ c) (hc2 : c ≤ 9223372036854775807) (w : World) : Calls Try.prog 4 #[.int .i64 a, .int .i64 c, .int .i64 v] w fun e w' => e = .returned (.bool true) ∧ Kept w w' := by
  have hno : ei v = 64 ∨ ei v = 32 := ei_or v
  have qb := ptn_bd a (ei v) ha1 ha2
  have qd := ptn_bd c (ei v) hc1 hc2
  have qN := nxt_bd (ptn a (ei v)) (ei v) qb.1 qb.2
  have Ke := either_any v
  have Kb := pattern_any a (ei v)
  have Kd := pattern_any c (ei v)
  have KN := next_any (ptn a (ei v)) (ei v) qb.1 qb.2
  have H0 : nxt (ptn a (ei v)) (ei v) = nxt (ptn a (ei v)) (ei v) := rfl
  generalize ei v = n at *
  generalize ptn a n = b at *
  generalize ptn c n = d at *
  have qp : -9223372036854775808 ≤ prv (nxt b n) n ∧ prv (nxt b n) n ≤ 9223372036854775807 := by
    have p1 := ngt_bd (nxt b n) n qN.1 qN.2
    have p2 := nxt_bd (ngt (nxt b n) n) n p1.1 p1.2
    exact ngt_bd _ n p2.1 p2.2
  by_cases hc : cls b n = 4
  · refine lnext_nan a c v n b d (nxt b n) qb qd qN qp Ke Kb Kd KN (by rw [beq_iff_eq]; exact hc) ?_ w
    have hi : isnum b n = false := by simp [isnum, hc]
    rw [beq_iff_eq]
    unfold nxt
    rw [if_neg (by rw [hi]; decide)]
    exact cls_nan n hno
  · have hcb : (cls b n == 4) = false := by rw [beq_eq_false_iff_ne]; exact hc
    have hi : isnum b n = true := by simp [isnum, hno, hc]
    have hI := inf_class b n qb.1 qb.2 hno hi
    by_cases hinf : b = (if n = 64 then 9218868437227405312 else 2139095040)
    · have h3 := hI.2 hinf
      exact lnext_inf a c v n b d (nxt b n) qb qd qN qp Ke Kb Kd KN hcb (by rw [beq_iff_eq]; exact h3.1) h3.2 (by rw [beq_iff_eq]; exact nxt_inf n hno b hinf) w
    · obtain ⟨l1, l2, l3, l4⟩ := next_law b d n qb.1 qb.2 hno hi hinf
      have hns : ¬ (cls b n = 3 ∧ lss b 0 n = false) := fun g => hinf (hI.1 g)
      have l4' : (ord b (nxt b n) n == -1) = true := by rw [beq_iff_eq]; exact l4
      cases c3 : (cls b n == 3)
      · cases cd : lss b d n
        · exact lnext_00 a c v n b d (nxt b n) qb qd qN qp Ke Kb Kd KN hcb l1 l2 l4' c3 cd w
        · rw [cd, Bool.true_and] at l3
          exact lnext_01 a c v n b d (nxt b n) qb qd qN qp Ke Kb Kd KN hcb l1 l2 l4' c3 cd l3 w
      · have c0 : lss b 0 n = true := by
          cases c0 : lss b 0 n
          · exact absurd ⟨by simpa using c3, c0⟩ hns
          · rfl
        cases cd : lss b d n
        · exact lnext_10 a c v n b d (nxt b n) qb qd qN qp Ke Kb Kd KN hcb l1 l2 l4' c3 c0 cd w
        · rw [cd, Bool.true_and] at l3
          exact lnext_11 a c v n b d (nxt b n) qb qd qN qp Ke Kb Kd KN hcb l1 l2 l4' c3 c0 cd l3 w

end Go.Proofs.Ytebjkfecijeehab
