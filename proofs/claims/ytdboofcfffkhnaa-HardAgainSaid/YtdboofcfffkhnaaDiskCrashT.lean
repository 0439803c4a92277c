/-
  The document's Crash of a right disk.
-/
import Derived.Test.YtdboofcfffkhnaaDiskCrashR
import Derived.Test.YtdboofcfffkhnaaDiskInsert
namespace Go.Proofs.Ytdboofcfffkhnaa
open Go.RowKit Go.Lib Go.Sort
namespace Dk

end Dk
end Go.Proofs.Ytdboofcfffkhnaa
