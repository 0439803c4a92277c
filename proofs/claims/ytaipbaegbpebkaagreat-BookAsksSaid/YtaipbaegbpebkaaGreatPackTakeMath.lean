/-
  PLAIN: what bytes begin with (a number, a text, a frame), and why not.
-/
import Derived.Test.YtaipbaegbpebkaaGreatPackNum
import Derived.Test.YtaipbaegbpebkaaGreatPackMath
namespace Go.Proofs.YtaipbaegbpebkaaGreat
namespace PM
end PM
end Go.Proofs.YtaipbaegbpebkaaGreat
