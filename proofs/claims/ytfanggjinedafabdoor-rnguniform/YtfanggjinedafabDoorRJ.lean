/- The walks of the document's own Join, way by way; and the ways of package bits' Join that refuse. -/
import Derived.Test.YtfanggjinedafabDoorShift
namespace Go.Proofs.YtfanggjinedafabDoor
open Go.ChangeShapes Go.WideShapes Go.ChangeAt Go.RowKit
set_option linter.unusedVariables false
set_option linter.unusedSimpArgs false

theorem ret_pair {a b : Int} {p : Bool} (h : a = b) : Ending.returned (.tuple #[.int .i64 a, .bool p]) = .returned (.tuple #[.int .i64 b, .bool p]) := by rw [h]

set_option maxHeartbeats 400000 in
theorem bj_neg_64 (p : Bool) (x e : Int) (hx : x < 0) (w : World) : Calls Tryd.prog 6 #[.bool p, .int .i64 x, .int .i64 e, .int .i64 64] w fun r w' => r = .returned (.tuple #[.int .i64 0, .bool false]) ∧ Kept w w' := by
  go_enter Tryd.func6, Tryd.ntmps6
  go_wp2_with (first | (go_at_call 15; refine (layoutOf_64 _).mono ?_; rintro e w1 ⟨rfl, hk1⟩))
  go_ret2
  exact ⟨rfl, hk1.alloc _ _⟩

set_option maxHeartbeats 400000 in
theorem bj_far1_64 (p : Bool) (x e : Int) (hx : 0 < x) (he : 2000 < e) (w : World) : Calls Tryd.prog 6 #[.bool p, .int .i64 x, .int .i64 e, .int .i64 64] w fun r w' => r = .returned (.tuple #[.int .i64 0, .bool false]) ∧ Kept w w' := by
  go_enter Tryd.func6, Tryd.ntmps6
  go_wp2_with (first | (go_at_call 15; refine (layoutOf_64 _).mono ?_; rintro e w1 ⟨rfl, hk1⟩))
  go_ret2
  exact ⟨rfl, hk1.alloc _ _⟩

set_option maxHeartbeats 400000 in
theorem bj_far2_64 (p : Bool) (x e : Int) (hx : 0 < x) (he : e < -2000) (w : World) : Calls Tryd.prog 6 #[.bool p, .int .i64 x, .int .i64 e, .int .i64 64] w fun r w' => r = .returned (.tuple #[.int .i64 0, .bool false]) ∧ Kept w w' := by
  go_enter Tryd.func6, Tryd.ntmps6
  go_wp2_with (first | (go_at_call 15; refine (layoutOf_64 _).mono ?_; rintro e w1 ⟨rfl, hk1⟩))
  go_ret2
  exact ⟨rfl, hk1.alloc _ _⟩

set_option maxHeartbeats 400000 in
theorem bj_neg_32 (p : Bool) (x e : Int) (hx : x < 0) (w : World) : Calls Tryd.prog 6 #[.bool p, .int .i64 x, .int .i64 e, .int .i64 32] w fun r w' => r = .returned (.tuple #[.int .i64 0, .bool false]) ∧ Kept w w' := by
  go_enter Tryd.func6, Tryd.ntmps6
  go_wp2_with (first | (go_at_call 15; refine (layoutOf_32 _).mono ?_; rintro e w1 ⟨rfl, hk1⟩))
  go_ret2
  exact ⟨rfl, hk1.alloc _ _⟩

set_option maxHeartbeats 400000 in
theorem bj_far1_32 (p : Bool) (x e : Int) (hx : 0 < x) (he : 2000 < e) (w : World) : Calls Tryd.prog 6 #[.bool p, .int .i64 x, .int .i64 e, .int .i64 32] w fun r w' => r = .returned (.tuple #[.int .i64 0, .bool false]) ∧ Kept w w' := by
  go_enter Tryd.func6, Tryd.ntmps6
  go_wp2_with (first | (go_at_call 15; refine (layoutOf_32 _).mono ?_; rintro e w1 ⟨rfl, hk1⟩))
  go_ret2
  exact ⟨rfl, hk1.alloc _ _⟩

set_option maxHeartbeats 400000 in
theorem bj_far2_32 (p : Bool) (x e : Int) (hx : 0 < x) (he : e < -2000) (w : World) : Calls Tryd.prog 6 #[.bool p, .int .i64 x, .int .i64 e, .int .i64 32] w fun r w' => r = .returned (.tuple #[.int .i64 0, .bool false]) ∧ Kept w w' := by
  go_enter Tryd.func6, Tryd.ntmps6
  go_wp2_with (first | (go_at_call 15; refine (layoutOf_32 _).mono ?_; rintro e w1 ⟨rfl, hk1⟩))
  go_ret2
  exact ⟨rfl, hk1.alloc _ _⟩

set_option maxHeartbeats 400000 in
theorem bj_none (p : Bool) (x e n : Int) (h1 : (n == 32) = false) (h2 : (n == 64) = false) (w : World) : Calls Tryd.prog 6 #[.bool p, .int .i64 x, .int .i64 e, .int .i64 n] w fun r w' => r = .returned (.tuple #[.int .i64 0, .bool false]) ∧ Kept w w' := by
  go_enter Tryd.func6, Tryd.ntmps6
  go_wp2_with (first | (go_at_call 15; refine (layoutOf_0 _ h1 h2 _).mono ?_; rintro e w1 ⟨rfl, hk1⟩))
  go_ret2
  exact ⟨rfl, hk1.alloc _ _⟩

end Go.Proofs.YtfanggjinedafabDoor
