/- The law's own step 'parts': both packages answer alike, for every int and every width. -/
import Derived.Test.YtebjkfecijeehaaAlive
import Derived.Test.YtebjkfecijeehaaRef2
namespace Go.Proofs.Ytebjkfecijeehaa
open Go.ChangeShapes Go.WideShapes Go.ChangeAt Go.RowKit

set_option maxHeartbeats 1000000 in
theorem lparts_any (b n : Int) (hb1 : -9223372036854775808 ≤ b) (hb2 : b ≤ 9223372036854775807) (w : World) : Calls Try.prog 9 #[.int .i64 b, .int .i64 n] w fun e w' => e = .returned (.bool true) ∧ Kept w w' := by
  go_enter Try.func9, Try.ntmps9
  go_wp2_with fail
  refine (parts_any b n hb1 hb2 _).mono ?_
  rintro e w1 ⟨rfl, hk1⟩
  go_wp2_with fail
  refine (rparts_any b n hb1 hb2 _).mono ?_
  rintro e w2 ⟨rfl, hk2⟩
  go_wp2_with fail
  refine (class_any b n _).mono ?_
  rintro e w3 ⟨rfl, hk3⟩
  go_wp2_with fail
  refine (rclass_any b n hb1 hb2 _).mono ?_
  rintro e w4 ⟨rfl, hk4⟩
  go_wp2_with fail
  refine (valid_any b n _).mono ?_
  rintro e w5 ⟨rfl, rfl⟩
  go_wp2_with fail
  refine (rvalid_any b n hb1 hb2 _).mono ?_
  rintro e w6 ⟨rfl, hk6⟩
  go_wp2
  go_ret
  exact ⟨ret_bool (by simp), (((hk1.trans hk2).trans hk3).trans hk4).trans hk6⟩

end Go.Proofs.Ytebjkfecijeehaa
