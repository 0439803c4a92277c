/-
  PLAIN NUMBERS FOR PACKAGE pack: a number's bytes, the highest one first; how many it needs; what bytes say.
-/
import Derived.Lib.BitFns
import Derived.Laws.Entries
import Derived.Laws.Concat
namespace Go.Proofs.YtaipbaegbpebkaaGreat
namespace PM
end PM
end Go.Proofs.YtaipbaegbpebkaaGreat
