/-
  The document's Crash of a right disk.
-/
import Derived.Test.YtpncflgcfndhmaaDiskCrashR
import Derived.Test.YtpncflgcfndhmaaDiskInsert
namespace Go.Proofs.Ytpncflgcfndhmaa
open Go.RowKit Go.Lib Go.Sort
namespace Dk

end Dk
end Go.Proofs.Ytpncflgcfndhmaa
