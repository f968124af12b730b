/- The law's own step 'turned': both packages answer alike, for every int and every width. -/
import Derived.Test.YtebjkfecijeehaaRefTurns2
import Derived.Test.YtebjkfecijeehaaAlive
namespace Go.Proofs.Ytebjkfecijeehaa
open Go.ChangeShapes Go.WideShapes Go.ChangeAt Go.RowKit

set_option maxHeartbeats 1000000 in
theorem lturned_any (b n : Int) (hb1 : -9223372036854775808 ≤ b) (hb2 : b ≤ 9223372036854775807) (w : World) : Calls Try.prog 10 #[.int .i64 b, .int .i64 n] w fun e w' => e = .returned (.bool true) ∧ Kept w w' := by
  go_enter Try.func10, Try.ntmps10
  go_wp2_with fail
  refine (next_any b n hb1 hb2 _).mono ?_
  rintro e w1 ⟨rfl, hk1⟩
  go_wp2_with fail
  refine (rnext_any b n hb1 hb2 _).mono ?_
  rintro e w2 ⟨rfl, hk2⟩
  go_wp2_with fail
  refine (prev_any b n hb1 hb2 _).mono ?_
  rintro e w3 ⟨rfl, hk3⟩
  go_wp2_with fail
  refine (rprev_any b n hb1 hb2 _).mono ?_
  rintro e w4 ⟨rfl, hk4⟩
  go_wp2_with fail
  refine (neg_any b n hb1 hb2 _).mono ?_
  rintro e w5 ⟨rfl, hk5⟩
  go_wp2_with fail
  refine (rneg_any b n hb1 hb2 _).mono ?_
  rintro e w6 ⟨rfl, hk6⟩
  go_wp2_with fail
  refine (abs_any b n _).mono ?_
  rintro e w7 ⟨rfl, hk7⟩
  go_wp2_with fail
  refine (rabs_any b n hb1 hb2 _).mono ?_
  rintro e w8 ⟨rfl, hk8⟩
  go_wp2_with fail
  refine (canon_any b n _).mono ?_
  rintro e w9 ⟨rfl, hk9⟩
  go_wp2_with fail
  refine (rcanon_any b n hb1 hb2 _).mono ?_
  rintro e w10 ⟨rfl, hk10⟩
  go_wp2
  go_ret
  exact ⟨ret_bool (by simp), ((((((((hk1.trans hk2).trans hk3).trans hk4).trans hk5).trans hk6).trans hk7).trans hk8).trans hk9).trans hk10⟩

end Go.Proofs.Ytebjkfecijeehaa
