/- The walk at whatever is handed in. -/
import Derived.Test.YtoflafgbbjinpaaGreatDoorZm42
import Derived.Test.YtoflafgbbjinpaaGreatDoorZm47
namespace Go.Proofs.YtoflafgbbjinpaaGreatDoor
open Go.ChangeShapes Go.WideShapes Go.ChangeAt Go.RowKit
set_option linter.unusedVariables false
set_option linter.unusedSimpArgs false
set_option maxHeartbeats 16000000
set_option maxRecDepth 100000
theorem times_at {W : World} (hT : Tab W) (ar : Option Addr) (len cap : Nat) (h : ∀ i, i < len → ∃ z : Int × Int × Int × Int, ItemAt W ar i z.1 z.2.1 z.2.2.1 z.2.2.2 ∧ (-9223372036854775808 ≤ z.2.1 ∧ z.2.1 ≤ 9223372036854775807) ∧ (-9223372036854775808 ≤ z.2.2.1 ∧ z.2.2.1 ≤ 9223372036854775807)) (b0 w0 : Int) (b1 : -9223372036854775808 ≤ b0) (b2 : b0 ≤ 9223372036854775807) :
  Calls Tryz.prog 8 #[.slice ar len cap, .int .i64 b0, .int .i64 w0] W fun e w' => e = .returned (.bool true) ∧ Kept W w' := by
 obtain ⟨fk, fx, fy, fw, hx, hy, HI⟩ := items_fun ar len h
 exact accTimes_true W hT ar len cap fk fx fy fw hx hy HI b0 w0 b1 b2
end Go.Proofs.YtoflafgbbjinpaaGreatDoor
