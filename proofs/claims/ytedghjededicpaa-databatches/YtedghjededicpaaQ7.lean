/- The walks of the laws' own Same and SameNum at what is the same. -/
import Derived.Test.YtedghjededicpaaD3
namespace Go.Proofs.Ytedghjededicpaa
open Go.ChangeShapes Go.WideShapes Go.ChangeAt Go.RowKit
set_option linter.unusedVariables false
set_option linter.unusedSimpArgs false

end Go.Proofs.Ytedghjededicpaa
