/- The law's own step 'ordered': both packages answer alike, for any two ints and every width. -/
import Derived.Test.YtebjkfecijeehaaRefLess
import Derived.Test.YtebjkfecijeehaaAlive
namespace Go.Proofs.Ytebjkfecijeehaa
open Go.ChangeShapes Go.WideShapes Go.ChangeAt Go.RowKit

set_option maxHeartbeats 1000000 in
theorem lordered_any (a b n : Int) (ha1 : -9223372036854775808 ≤ a) (ha2 : a ≤ 9223372036854775807) (hb1 : -9223372036854775808 ≤ b) (hb2 : b ≤ 9223372036854775807) (w : World) : Calls Try.prog 11 #[.int .i64 a, .int .i64 b, .int .i64 n] w fun e w' => e = .returned (.bool true) ∧ Kept w w' := by
  go_enter Try.func11, Try.ntmps11
  go_wp2_with fail
  refine (less_any a b n ha1 ha2 hb1 hb2 _).mono ?_
  rintro e w1 ⟨rfl, hk1⟩
  go_wp2_with fail
  refine (rless_any a b n ha1 ha2 hb1 hb2 _).mono ?_
  rintro e w2 ⟨rfl, hk2⟩
  go_wp2_with fail
  refine (same_any a b n ha1 ha2 hb1 hb2 _).mono ?_
  rintro e w3 ⟨rfl, hk3⟩
  go_wp2_with fail
  refine (rsame_any a b n ha1 ha2 hb1 hb2 _).mono ?_
  rintro e w4 ⟨rfl, hk4⟩
  go_wp2_with fail
  refine (order_any a b n ha1 ha2 hb1 hb2 _).mono ?_
  rintro e w5 ⟨rfl, hk5⟩
  go_wp2_with fail
  refine (rorder_any a b n ha1 ha2 hb1 hb2 _).mono ?_
  rintro e w6 ⟨rfl, hk6⟩
  go_wp2_with fail
  refine (min_any a b n ha1 ha2 hb1 hb2 _).mono ?_
  rintro e w7 ⟨rfl, hk7⟩
  go_wp2_with fail
  refine (rmin_any a b n ha1 ha2 hb1 hb2 _).mono ?_
  rintro e w8 ⟨rfl, hk8⟩
  go_wp2_with fail
  refine (max_any a b n ha1 ha2 hb1 hb2 _).mono ?_
  rintro e w9 ⟨rfl, hk9⟩
  go_wp2_with fail
  refine (rmax_any a b n ha1 ha2 hb1 hb2 _).mono ?_
  rintro e w10 ⟨rfl, hk10⟩
  go_wp2
  go_ret
  exact ⟨ret_truth (by simp), ((((((((hk1.trans hk2).trans hk3).trans hk4).trans hk5).trans hk6).trans hk7).trans hk8).trans hk9).trans hk10⟩

end Go.Proofs.Ytebjkfecijeehaa
