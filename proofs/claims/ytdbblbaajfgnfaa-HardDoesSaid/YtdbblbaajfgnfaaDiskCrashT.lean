/-
  The document's Crash of a right disk.
-/
import Derived.Test.YtdbblbaajfgnfaaDiskCrashR
import Derived.Test.YtdbblbaajfgnfaaDiskInsert
namespace Go.Proofs.Ytdbblbaajfgnfaa
open Go.RowKit Go.Lib Go.Sort
namespace Dk

end Dk
end Go.Proofs.Ytdbblbaajfgnfaa
