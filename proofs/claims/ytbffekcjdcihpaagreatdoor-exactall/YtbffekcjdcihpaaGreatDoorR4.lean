/- The walk of exact's round where the number is a float's value. -/
import Derived.Test.YtbffekcjdcihpaaGreatDoorR3
namespace Go.Proofs.YtbffekcjdcihpaaGreatDoor
open Go.ChangeShapes Go.WideShapes Go.ChangeAt Go.RowKit
set_option maxHeartbeats 16000000
set_option maxRecDepth 100000
set_option linter.unusedVariables false
set_option linter.unusedSimpArgs false
theorem round_zero (n pr le fi : Int) (f : Value) (ex : Int) (ng rs : Bool) (w : World) : Calls Tryz.prog 80 #[.agg #[.int .i64 n, .int .i64 pr, .int .i64 le, .int .i64 fi, f], .agg #[.bool ng, .int .i64 0, .int .i64 ex, .bool rs]] w fun e w' => e = .returned (.tuple #[.int .i64 0, .bool false]) ∧ Kept w w' := by
 go_enter Tryz.func80, Tryz.ntmps80
 go_wp2
 go_ret2
 exact ⟨rfl, ((Kept.refl _).alloc _ _).alloc _ _⟩
end Go.Proofs.YtbffekcjdcihpaaGreatDoor
