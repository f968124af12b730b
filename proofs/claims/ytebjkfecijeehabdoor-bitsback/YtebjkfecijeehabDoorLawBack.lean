/- The law BitsBack, walked from the pattern on. -/
import Derived.Test.YtebjkfecijeehabDoorJoinB
import Derived.Test.YtebjkfecijeehabDoorTurns2
import Derived.Test.YtebjkfecijeehabDoorAlive
import Derived.Test.YtebjkfecijeehabDoorEither
namespace Go.Proofs.YtebjkfecijeehabDoor
open Go.ChangeShapes Go.WideShapes Go.ChangeAt Go.RowKit
set_option linter.unusedVariables false

set_option maxHeartbeats 400000 in
theorem lb_fin (a v n b m ex c k d f : Int) (ng ok : Bool) (Ke : Hid (∀ w : World, Calls Tryd.prog 4 #[.int .i64 v] w fun e w' => e = .returned (.int .i64 n) ∧ w = w')) (Ka : Hid (∀ w : World, Calls Tryd.prog 5 #[.int .i64 a, .int .i64 n] w fun e w' => e = .returned (.int .i64 b) ∧ w = w')) (Kp : Hid (∀ w : World, Calls Tryd.prog 6 #[.int .i64 b, .int .i64 n] w fun e w' => e = .returned (.tuple #[.bool ng, .int .i64 m, .int .i64 ex, .bool ok]) ∧ Kept w w')) (Kj : Hid (∀ w : World, Tab w → Calls Tryd.prog 7 #[.bool ng, .int .i64 m, .int .i64 ex, .int .i64 n] w fun e w' => e = .returned (.tuple #[.int .i64 c, .bool true]) ∧ Kept w w')) (Kk : Hid (∀ w : World, Calls Tryd.prog 8 #[.int .i64 b, .int .i64 n] w fun e w' => e = .returned (.int .i64 k) ∧ Kept w w')) (Kd : Hid (∀ w : World, Calls Tryd.prog 10 #[.int .i64 b, .int .i64 n] w fun e w' => e = .returned (.int .i64 d) ∧ Kept w w')) (Kf : Hid (∀ w : World, Calls Tryd.prog 10 #[.int .i64 d, .int .i64 n] w fun e w' => e = .returned (.int .i64 f) ∧ Kept w w')) (hok : ok = true) (hk : k < 3) (hc : (c == b) = true) (h4 : (k == 4) = false) (hf : (f == b) = true) (w : World) (hT : Tab w) : Calls Tryd.prog 3 #[.int .i64 a, .int .i64 v] w fun e w' => e = .returned (.bool true) ∧ Kept w w' := by
  have HT : Hid (Tab w) := hT
  clear hT
  subst hok
  go_enter Tryd.func3, Tryd.ntmps3
  go_wp2_with fail
  refine (Ke.out _).mono ?_
  rintro e' w1 ⟨rfl, rfl⟩
  go_wp2_with fail
  refine (Ka.out _).mono ?_
  rintro e' w2 ⟨rfl, rfl⟩
  go_wp2_with fail
  refine (Kp.out _).mono ?_
  rintro e' w3 ⟨rfl, hk3⟩
  have hK := hk3
  go_wp2_with fail
  refine (Kj.out _ (HT.out.kept hK)).mono ?_
  rintro e' w4 ⟨rfl, hk4⟩
  replace hK := hK.trans hk4
  go_wp2_with fail
  refine (Kk.out _).mono ?_
  rintro e' w5 ⟨rfl, hk5⟩
  replace hK := hK.trans hk5
  go_wp2_with fail
  refine (alive_any _).mono ?_
  rintro e' w6 ⟨rfl, hk6⟩
  replace hK := hK.trans hk6
  go_wp2_with fail
  refine (Kd.out _).mono ?_
  rintro e' w7 ⟨rfl, hk7⟩
  replace hK := hK.trans hk7
  go_wp2_with fail
  refine (Kf.out _).mono ?_
  rintro e' w8 ⟨rfl, hk8⟩
  replace hK := hK.trans hk8
  go_wp2
  go_ret
  exact ⟨rfl, hK⟩

set_option maxHeartbeats 400000 in
theorem lb_inf (a v n b m ex c k d f : Int) (ng ok : Bool) (Ke : Hid (∀ w : World, Calls Tryd.prog 4 #[.int .i64 v] w fun e w' => e = .returned (.int .i64 n) ∧ w = w')) (Ka : Hid (∀ w : World, Calls Tryd.prog 5 #[.int .i64 a, .int .i64 n] w fun e w' => e = .returned (.int .i64 b) ∧ w = w')) (Kp : Hid (∀ w : World, Calls Tryd.prog 6 #[.int .i64 b, .int .i64 n] w fun e w' => e = .returned (.tuple #[.bool ng, .int .i64 m, .int .i64 ex, .bool ok]) ∧ Kept w w')) (Kj : Hid (∀ w : World, Tab w → Calls Tryd.prog 7 #[.bool ng, .int .i64 m, .int .i64 ex, .int .i64 n] w fun e w' => e = .returned (.tuple #[.int .i64 c, .bool true]) ∧ Kept w w')) (Kk : Hid (∀ w : World, Calls Tryd.prog 8 #[.int .i64 b, .int .i64 n] w fun e w' => e = .returned (.int .i64 k) ∧ Kept w w')) (Kd : Hid (∀ w : World, Calls Tryd.prog 10 #[.int .i64 b, .int .i64 n] w fun e w' => e = .returned (.int .i64 d) ∧ Kept w w')) (Kf : Hid (∀ w : World, Calls Tryd.prog 10 #[.int .i64 d, .int .i64 n] w fun e w' => e = .returned (.int .i64 f) ∧ Kept w w')) (hok : ok = false) (hng : ng = false) (hm : m = 0) (he : ex = 0) (hk : ¬ k < 3) (h4 : (k == 4) = false) (hf : (f == b) = true) (w : World) (hT : Tab w) : Calls Tryd.prog 3 #[.int .i64 a, .int .i64 v] w fun e w' => e = .returned (.bool true) ∧ Kept w w' := by
  have HT : Hid (Tab w) := hT
  clear hT
  subst hok hng hm he; have hkd : decide (k < 3) = false := decide_eq_false hk
  go_enter Tryd.func3, Tryd.ntmps3
  go_wp2_with fail
  refine (Ke.out _).mono ?_
  rintro e' w1 ⟨rfl, rfl⟩
  go_wp2_with fail
  refine (Ka.out _).mono ?_
  rintro e' w2 ⟨rfl, rfl⟩
  go_wp2_with fail
  refine (Kp.out _).mono ?_
  rintro e' w3 ⟨rfl, hk3⟩
  have hK := hk3
  go_wp2_with fail
  refine (Kj.out _ (HT.out.kept hK)).mono ?_
  rintro e' w4 ⟨rfl, hk4⟩
  replace hK := hK.trans hk4
  go_wp2_with fail
  refine (Kk.out _).mono ?_
  rintro e' w5 ⟨rfl, hk5⟩
  replace hK := hK.trans hk5
  go_wp2_with fail
  refine (alive_any _).mono ?_
  rintro e' w6 ⟨rfl, hk6⟩
  replace hK := hK.trans hk6
  go_wp2_with fail
  refine (Kd.out _).mono ?_
  rintro e' w7 ⟨rfl, hk7⟩
  replace hK := hK.trans hk7
  go_wp2_with fail
  refine (Kf.out _).mono ?_
  rintro e' w8 ⟨rfl, hk8⟩
  replace hK := hK.trans hk8
  go_wp2
  go_ret
  exact ⟨rfl, hK⟩

set_option maxHeartbeats 400000 in
theorem lb_nan (a v n b m ex c k d f : Int) (ng ok : Bool) (Ke : Hid (∀ w : World, Calls Tryd.prog 4 #[.int .i64 v] w fun e w' => e = .returned (.int .i64 n) ∧ w = w')) (Ka : Hid (∀ w : World, Calls Tryd.prog 5 #[.int .i64 a, .int .i64 n] w fun e w' => e = .returned (.int .i64 b) ∧ w = w')) (Kp : Hid (∀ w : World, Calls Tryd.prog 6 #[.int .i64 b, .int .i64 n] w fun e w' => e = .returned (.tuple #[.bool ng, .int .i64 m, .int .i64 ex, .bool ok]) ∧ Kept w w')) (Kj : Hid (∀ w : World, Tab w → Calls Tryd.prog 7 #[.bool ng, .int .i64 m, .int .i64 ex, .int .i64 n] w fun e w' => e = .returned (.tuple #[.int .i64 c, .bool true]) ∧ Kept w w')) (Kk : Hid (∀ w : World, Calls Tryd.prog 8 #[.int .i64 b, .int .i64 n] w fun e w' => e = .returned (.int .i64 k) ∧ Kept w w')) (Kd : Hid (∀ w : World, Calls Tryd.prog 10 #[.int .i64 b, .int .i64 n] w fun e w' => e = .returned (.int .i64 d) ∧ Kept w w')) (Kf : Hid (∀ w : World, Calls Tryd.prog 10 #[.int .i64 d, .int .i64 n] w fun e w' => e = .returned (.int .i64 f) ∧ Kept w w')) (hok : ok = false) (hng : ng = false) (hm : m = 0) (he : ex = 0) (hk : ¬ k < 3) (h4 : (k == 4) = true) (w : World) (hT : Tab w) : Calls Tryd.prog 3 #[.int .i64 a, .int .i64 v] w fun e w' => e = .returned (.bool true) ∧ Kept w w' := by
  have HT : Hid (Tab w) := hT
  clear hT
  subst hok hng hm he; have hkd : decide (k < 3) = false := decide_eq_false hk
  go_enter Tryd.func3, Tryd.ntmps3
  go_wp2_with fail
  refine (Ke.out _).mono ?_
  rintro e' w1 ⟨rfl, rfl⟩
  go_wp2_with fail
  refine (Ka.out _).mono ?_
  rintro e' w2 ⟨rfl, rfl⟩
  go_wp2_with fail
  refine (Kp.out _).mono ?_
  rintro e' w3 ⟨rfl, hk3⟩
  have hK := hk3
  go_wp2_with fail
  refine (Kj.out _ (HT.out.kept hK)).mono ?_
  rintro e' w4 ⟨rfl, hk4⟩
  replace hK := hK.trans hk4
  go_wp2_with fail
  refine (Kk.out _).mono ?_
  rintro e' w5 ⟨rfl, hk5⟩
  replace hK := hK.trans hk5
  go_wp2_with fail
  refine (alive_any _).mono ?_
  rintro e' w6 ⟨rfl, hk6⟩
  replace hK := hK.trans hk6
  go_wp2
  go_ret
  exact ⟨rfl, hK⟩

theorem num_64 (b : Int) : isnum b 64 = true ↔ b % 9223372036854775808 ≤ 9218868437227405312 := by
  rw [isnum_64, decide_eq_true_eq, ne_eq]
  unfold cls clsOf
  rw [if_pos rfl]
  (repeat' split) <;> omega

theorem num_32 (b : Int) : isnum b 32 = true ↔ (0 ≤ b ∧ b < 4294967296) ∧ b % 2147483648 ≤ 2139095040 := by
  rw [isnum_32, decide_eq_true_eq, ne_eq]
  unfold cls clsOf
  rw [if_neg (by decide), if_pos rfl]
  (repeat' split) <;> omega

theorem ngt_64 (b : Int) (h : isnum b 64 = true) : ngt b 64 = if b < 0 then b + 9223372036854775808 else b - 9223372036854775808 := by
  unfold ngt
  rw [if_pos h, if_pos rfl]
theorem ngt_32 (b : Int) (h : isnum b 32 = true) : ngt b 32 = if b < 2147483648 then b + 2147483648 else b - 2147483648 := by
  unfold ngt
  rw [if_pos h, if_neg (by decide)]

theorem ngt_ngt (b n : Int) (hb1 : -9223372036854775808 ≤ b) (hb2 : b ≤ 9223372036854775807) (hn : n = 64 ∨ n = 32) (h : isnum b n = true) : ngt (ngt b n) n = b := by
  rcases hn with rfl | rfl
  · have h' := (num_64 b).1 h
    have e := ngt_64 b h
    have hN : isnum (ngt b 64) 64 = true := by rw [num_64, e]; split <;> omega
    rw [ngt_64 _ hN, e]
    (repeat' split) <;> omega
  · have h' := (num_32 b).1 h
    have e := ngt_32 b h
    have hN : isnum (ngt b 32) 32 = true := by rw [num_32, e]; split <;> omega
    rw [ngt_32 _ hN, e]
    (repeat' split) <;> omega

theorem cls_le (b n : Int) : cls b n ≤ 4 := by
  unfold cls clsOf
  (repeat' split) <;> omega

theorem jzero (n e : Int) (hn : n = 64 ∨ n = 32) (w : World) : Calls Tryd.prog 7 #[.bool false, .int .i64 0, .int .i64 e, .int .i64 n] w fun e w' => e = .returned (.tuple #[.int .i64 0, .bool true]) ∧ Kept w w' := by
  rcases hn with rfl | rfl
  · exact join_zero_64 false e w
  · exact join_zero_32 false e w

theorem lback_any (a v : Int) (ha1 : -9223372036854775808 ≤ a) (ha2 : a ≤ 9223372036854775807) (w : World) (hT : Tab w) : Calls Tryd.prog 3 #[.int .i64 a, .int .i64 v] w fun e w' => e = .returned (.bool true) ∧ Kept w w' := by
  have hn : ei v = 64 ∨ ei v = 32 := ei_or v
  have qb := ptn_bd a (ei v) ha1 ha2
  have Ke := either_any v
  have Ka := pattern_any a (ei v)
  generalize ei v = n at *
  generalize ptn a n = b at *
  have Kp := parts_any b n qb.1 qb.2
  have Kk := class_any b n
  have qd := ngt_bd b n qb.1 qb.2
  have Kd := neg_any b n qb.1 qb.2
  have Kf := neg_any (ngt b n) n qd.1 qd.2
  by_cases hc : cls b n < 3
  · have hi : isnum b n = true := by simp [isnum, hn]; omega
    have hf : fin b n = true := by simp [fin, hn, hc]
    have Kj : ∀ w : World, Tab w → Calls Tryd.prog 7 #[.bool (pneg b n), .int .i64 (pmag b n), .int .i64 (pexp b n), .int .i64 n] w fun e w' => e = .returned (.tuple #[.int .i64 b, .bool true]) ∧ Kept w w' := by
      rcases hn with rfl | rfl
      · exact fun w hT => back_64 b qb.1 qb.2 hc w hT
      · exact fun w hT => back_32 b hc w hT
    exact lb_fin a v n b (pmag b n) (pexp b n) b (cls b n) (ngt b n) (ngt (ngt b n) n) (pneg b n) (fin b n) Ke Ka Kp Kj Kk Kd Kf hf hc (by simp) (by rw [beq_eq_false_iff_ne]; omega) (by rw [beq_iff_eq]; exact ngt_ngt b n qb.1 qb.2 hn hi) w hT
  · have hf : fin b n = false := by simp [fin]; omega
    have e1 : pneg b n = false := by simp [pneg, hf]
    have e2 : pmag b n = 0 := by simp [pmag, hf]
    have e3 : pexp b n = 0 := by simp [pexp, hf]
    have Kj : ∀ w : World, Tab w → Calls Tryd.prog 7 #[.bool (pneg b n), .int .i64 (pmag b n), .int .i64 (pexp b n), .int .i64 n] w fun e w' => e = .returned (.tuple #[.int .i64 0, .bool true]) ∧ Kept w w' := by
      rw [e1, e2]
      exact fun w _ => jzero n _ hn w
    by_cases h4 : cls b n = 4
    · exact lb_nan a v n b (pmag b n) (pexp b n) 0 (cls b n) (ngt b n) (ngt (ngt b n) n) (pneg b n) (fin b n) Ke Ka Kp Kj Kk Kd Kf hf e1 e2 e3 hc (by rw [beq_iff_eq]; exact h4) w hT
    · have hi : isnum b n = true := by simp [isnum, hn, h4]
      exact lb_inf a v n b (pmag b n) (pexp b n) 0 (cls b n) (ngt b n) (ngt (ngt b n) n) (pneg b n) (fin b n) Ke Ka Kp Kj Kk Kd Kf hf e1 e2 e3 hc (by rw [beq_eq_false_iff_ne]; exact h4) (by rw [beq_iff_eq]; exact ngt_ngt b n qb.1 qb.2 hn hi) w hT

end Go.Proofs.YtebjkfecijeehabDoor
