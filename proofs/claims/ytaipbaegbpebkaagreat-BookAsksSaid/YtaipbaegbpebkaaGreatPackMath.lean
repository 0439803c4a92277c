/-
  PLAIN NUMBERS FOR PACKAGE pack: the check of bytes, a number's bytes. Nothing of the program is named here.
-/
import Derived.Laws.BitsAllLaws
import Derived.Laws.BitsLemmas
namespace Go.Proofs.YtaipbaegbpebkaaGreat
namespace PM
end PM
end Go.Proofs.YtaipbaegbpebkaaGreat
