/- The walks of the document's own Class and Parts. -/
import Derived.Test.YtojhhimmfnccjaaRef
namespace Go.Proofs.Ytojhhimmfnccjaa
open Go.ChangeShapes Go.WideShapes Go.ChangeAt Go.RowKit

end Go.Proofs.Ytojhhimmfnccjaa
