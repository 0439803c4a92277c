/-
  disk.do: all its ways.
-/
import Derived.Test.YtjgdmdgiicpemaaDiskDoA
import Derived.Test.YtjgdmdgiicpemaaDiskDoB
import Derived.Test.YtjgdmdgiicpemaaDiskDoC
import Derived.Test.YtjgdmdgiicpemaaDiskDoE
import Derived.Test.YtjgdmdgiicpemaaDiskDoF
namespace Go.Proofs.Ytjgdmdgiicpemaa
open Go.RowKit Go.Lib Go.Sort
namespace Dk
theorem do_ok (v : Value) (fs fs2 : List Fl) (fu k : Int) (nm da : ByteArray) (sz : Int) (to : ByteArray) (hf : Fine fs) (h0 : chkN fs = 0) (hfu : fu ≠ 0) (hlo : -9223372036854775808 ≤ fu) (hhi : fu ≤ 9223372036854775807) (HR : Refuses fs k nm da sz to 0) (HC : Changes fs fs2 k nm da sz to) (w : World) (hv : Files w w.heap.size v fs) :
    Calls Try.prog 23 #[.agg #[v, .bool false, .int .i64 fu], .agg #[.int .u8 k, .string nm, .string da, .int .i64 sz, .string to]] w (DoIs w fs2 false (if 0 < fu then fu - 1 else fu) 0) := by
  by_cases hp : 0 < fu
  · exact do_ok1 v fs fs2 fu k nm da sz to hf h0 hp hlo hhi HR HC w hv
  · exact do_ok2 v fs fs2 fu k nm da sz to hf h0 hp hfu hlo hhi HR HC w hv
end Dk
end Go.Proofs.Ytjgdmdgiicpemaa
