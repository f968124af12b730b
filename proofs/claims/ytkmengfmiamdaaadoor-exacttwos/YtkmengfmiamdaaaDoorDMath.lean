/- Digits: they lie in Math. -/
import Derived.Test.YtkmengfmiamdaaaDoorMath
