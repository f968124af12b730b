/- The walks of the document's own Class and Parts. -/
import Derived.Test.YtfbcdbfalopkeaaRef
namespace Go.Proofs.Ytfbcdbfalopkeaa
open Go.ChangeShapes Go.WideShapes Go.ChangeAt Go.RowKit

end Go.Proofs.Ytfbcdbfalopkeaa
