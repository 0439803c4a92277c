/-
  Names: its error (what names it tells is not said here).
-/
import Derived.Test.YtpncflgcfndhmaaDiskLives2
namespace Go.Proofs.Ytpncflgcfndhmaa
open Go.RowKit Go.Lib Go.Sort
namespace Dk
theorem info_str : (Try.prog.info? 9).map (fun i => (i.zero, i.size, i.bytes)) = some (some (.string ByteArray.empty), 1, 16) := by kernel_rfl

end Dk
end Go.Proofs.Ytpncflgcfndhmaa
