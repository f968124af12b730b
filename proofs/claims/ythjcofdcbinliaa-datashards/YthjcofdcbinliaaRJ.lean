/- The walks of the document's own Join, way by way; and the ways of package bits' Join that refuse. -/
import Derived.Test.YthjcofdcbinliaaShift
namespace Go.Proofs.Ythjcofdcbinliaa
open Go.ChangeShapes Go.WideShapes Go.ChangeAt Go.RowKit
set_option linter.unusedVariables false
set_option linter.unusedSimpArgs false

theorem ret_pair {a b : Int} {p : Bool} (h : a = b) : Ending.returned (.tuple #[.int .i64 a, .bool p]) = .returned (.tuple #[.int .i64 b, .bool p]) := by rw [h]

end Go.Proofs.Ythjcofdcbinliaa
