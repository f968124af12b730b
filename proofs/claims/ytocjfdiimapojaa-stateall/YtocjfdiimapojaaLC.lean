/- What is kept of states that were read: all is what it was,marked,grown,looked at. -/
import Derived.Test.YtocjfdiimapojaaLA
import Derived.Test.YtocjfdiimapojaaLB
import Derived.Test.YtocjfdiimapojaaMG
import Derived.Test.YtocjfdiimapojaaMH
namespace Go.Proofs.Ytocjfdiimapojaa
open Go.ChangeShapes Go.WideShapes Go.ChangeAt Go.RowKit
set_option maxHeartbeats 16000000
set_option maxRecDepth 100000
set_option linter.unusedVariables false
set_option linter.unusedSimpArgs false
end Go.Proofs.Ytocjfdiimapojaa
