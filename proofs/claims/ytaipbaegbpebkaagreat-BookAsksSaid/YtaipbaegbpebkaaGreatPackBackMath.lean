/-
  PLAIN: what is taken of what was made; what is cut short.
-/
import Derived.Test.YtaipbaegbpebkaaGreatPackTakeMath
namespace Go.Proofs.YtaipbaegbpebkaaGreat
namespace PM
end PM
end Go.Proofs.YtaipbaegbpebkaaGreat
