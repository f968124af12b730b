/- The walks of the document's own Join, way by way; and the ways of package bits' Join that refuse. -/
import Derived.Test.YtbffekcjdcihpaaGreatDoorShift
namespace Go.Proofs.YtbffekcjdcihpaaGreatDoor
open Go.ChangeShapes Go.WideShapes Go.ChangeAt Go.RowKit
set_option maxHeartbeats 16000000
set_option maxRecDepth 100000
set_option linter.unusedVariables false
set_option linter.unusedSimpArgs false
theorem ret_pair {a b : Int} {p : Bool} (h : a = b) : Ending.returned (.tuple #[.int .i64 a, .bool p]) = .returned (.tuple #[.int .i64 b, .bool p]) := by rw [h]
theorem rj_zero_64 (p : Bool) (e : Int) (w : World) : Calls Tryz.prog 143 #[.bool p, .int .i64 0, .int .i64 e, .int .i64 64] w fun r w' => r = .returned (.tuple #[.int .i64 (if p = true then -9223372036854775808 else 0), .bool true]) ∧ Kept w w' := by
 by_cases h1 : 2000 < e <;> by_cases h2 : e < -2000
 ·omega
 all_goals
  cases p
  all_goals
   go_enter Tryz.func143, Tryz.ntmps143
   go_wp2_with (first | (go_at_call 84; refine (of_64 _).mono ?_; rintro e w1 ⟨rfl, hk1⟩))
   go_ret2
   exact ⟨rfl, hk1.alloc _ _⟩
theorem rj_yes_64 (p : Bool) (x e V E q : Int) (hx : 0 < x) (he1 : -2000 ≤ e) (he2 : e ≤ 2000) (hE : E ≤ 971) (hE0 : -1074 ≤ E) (hV0 : 0 < V) (hV1 : V < 9007199254740992) (hs : V < 4503599627370496 → E = -1074) (hq : q = (E + 1074) * 4503599627370496 + V + (if p = true then -9223372036854775808 else 0)) (Ks : Hid (∀ w : World, Calls Tryz.prog 144 #[.agg #[.int .i64 64, .int .i64 53, .int .i64 4503599627370496, .int .i64 2047, .int .i64 (-1074), .int .i64 1024, .int .i64 9218868437227405312, .int .i64 (-9223372036854775808), .int .i64 9221120237041090561], .int .i64 x, .int .i64 e] w fun e w' => e = .returned (.tuple #[.int .i64 V, .int .i64 E, .bool true]) ∧ Kept w w')) (w : World) : Calls Tryz.prog 143 #[.bool p, .int .i64 x, .int .i64 e, .int .i64 64] w fun r w' => r = .returned (.tuple #[.int .i64 q, .bool true]) ∧ Kept w w' := by
 have hx0 : (x == 0) = false := by rw [beq_eq_false_iff_ne]; omega
 have HQ : Hid (q = (E + 1074) * 4503599627370496 + V + (if p = true then -9223372036854775808 else 0)) := hq
 have HS : Hid (V < 4503599627370496 → E = -1074) := hs
 clear hq hs
 cases p
 all_goals
  by_cases hvs : V < 4503599627370496
  all_goals
   go_enter Tryz.func143, Tryz.ntmps143
   go_wp2_with (first | (go_at_call 84; refine (of_64 _).mono ?_; rintro e w1 ⟨rfl, hk1⟩) | (go_at_call 144; refine (Ks.out _).mono ?_; rintro e w2 ⟨rfl, hk2⟩; have hcl := laid_cell hk2))
   go_ret2
   refine ⟨ret_pair ?_, (hk1.alloc _ _).trans hk2⟩
   have hq := HQ.out
   have hs := HS.out
   simp only [Bool.false_eq_true, if_true, if_false] at hq
   try unfold wrap64
   omega
theorem rj_zero_32 (p : Bool) (e : Int) (w : World) : Calls Tryz.prog 143 #[.bool p, .int .i64 0, .int .i64 e, .int .i64 32] w fun r w' => r = .returned (.tuple #[.int .i64 (if p = true then 2147483648 else 0), .bool true]) ∧ Kept w w' := by
 by_cases h1 : 2000 < e <;> by_cases h2 : e < -2000
 ·omega
 all_goals
  cases p
  all_goals
   go_enter Tryz.func143, Tryz.ntmps143
   go_wp2_with (first | (go_at_call 84; refine (of_32 _).mono ?_; rintro e w1 ⟨rfl, hk1⟩))
   go_ret2
   exact ⟨rfl, hk1.alloc _ _⟩
theorem rj_yes_32 (p : Bool) (x e V E q : Int) (hx : 0 < x) (he1 : -2000 ≤ e) (he2 : e ≤ 2000) (hE : E ≤ 104) (hE0 : -149 ≤ E) (hV0 : 0 < V) (hV1 : V < 16777216) (hs : V < 8388608 → E = -149) (hq : q = (E + 149) * 8388608 + V + (if p = true then 2147483648 else 0)) (Ks : Hid (∀ w : World, Calls Tryz.prog 144 #[.agg #[.int .i64 32, .int .i64 24, .int .i64 8388608, .int .i64 255, .int .i64 (-149), .int .i64 128, .int .i64 2139095040, .int .i64 2147483648, .int .i64 2143289345], .int .i64 x, .int .i64 e] w fun e w' => e = .returned (.tuple #[.int .i64 V, .int .i64 E, .bool true]) ∧ Kept w w')) (w : World) : Calls Tryz.prog 143 #[.bool p, .int .i64 x, .int .i64 e, .int .i64 32] w fun r w' => r = .returned (.tuple #[.int .i64 q, .bool true]) ∧ Kept w w' := by
 have hx0 : (x == 0) = false := by rw [beq_eq_false_iff_ne]; omega
 have HQ : Hid (q = (E + 149) * 8388608 + V + (if p = true then 2147483648 else 0)) := hq
 have HS : Hid (V < 8388608 → E = -149) := hs
 clear hq hs
 cases p
 all_goals
  by_cases hvs : V < 8388608
  all_goals
   go_enter Tryz.func143, Tryz.ntmps143
   go_wp2_with (first | (go_at_call 84; refine (of_32 _).mono ?_; rintro e w1 ⟨rfl, hk1⟩) | (go_at_call 144; refine (Ks.out _).mono ?_; rintro e w2 ⟨rfl, hk2⟩; have hcl := laid_cell hk2))
   go_ret2
   refine ⟨ret_pair ?_, (hk1.alloc _ _).trans hk2⟩
   have hq := HQ.out
   have hs := HS.out
   simp only [Bool.false_eq_true, if_true, if_false] at hq
   try unfold wrap64
   omega
end Go.Proofs.YtbffekcjdcihpaaGreatDoor
