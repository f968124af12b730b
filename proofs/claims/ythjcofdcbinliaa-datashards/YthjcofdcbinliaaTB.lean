/- What lists rest on, where exact numbers lie beside. -/
import Derived.Test.YthjcofdcbinliaaU1
import Derived.Test.YthjcofdcbinliaaD8
import Derived.Test.YthjcofdcbinliaaRef2
import Derived.Test.YthjcofdcbinliaaWiden2
namespace Go.Proofs.Ythjcofdcbinliaa
end Go.Proofs.Ythjcofdcbinliaa
