/- The walks of the laws' own Same and SameNum at what is the same. -/
import Derived.Test.YtpkeadfndgddlaaDoorZl07
namespace Go.Proofs.YtpkeadfndgddlaaDoor
open Go.ChangeShapes Go.WideShapes Go.ChangeAt Go.RowKit
set_option linter.unusedVariables false
set_option linter.unusedSimpArgs false
set_option maxHeartbeats 16000000
set_option maxRecDepth 100000
end Go.Proofs.YtpkeadfndgddlaaDoor
