/-
  CONTRACTS: pack.check, the document's own check and four; the makers of frames.
-/
import Derived.Test.YtaipbaegbpebkaaGreatPackText
import Derived.Test.YtaipbaegbpebkaaGreatPackSum
namespace Go.Proofs.YtaipbaegbpebkaaGreat
open Go.RowKit
namespace PackChk
open PM PackBytes PackTakeNum PackTakeRef PackRefNum PackText

def chkB (s : ByteArray) : ByteArray := bs (chk s.data.toList)
theorem chkB_def (s : ByteArray) : bs (be 2 (crc s.data.toList)) = chkB s := rfl
theorem chk_length (l : List UInt8) : (chk l).length = 2 := be_length 2 _

theorem two_bytes (c : Nat) (h : c < 65536) : [UInt8.ofNat ((c : Int) / 256).toNat, UInt8.ofNat ((c : Int) % 256).toNat] = be 2 c := by
  have e1 : ((c : Int) / 256).toNat = c / 256 := by omega
  have e2 : ((c : Int) % 256).toNat = c % 256 := by omega
  rw [e1, e2]
  show _ = [UInt8.ofNat (c / 256), UInt8.ofNat c]
  have e3 : UInt8.ofNat (c % 256) = UInt8.ofNat c := by apply UInt8.toNat_inj.1; simp
  rw [e3]

theorem four_bytes (n : Nat) : [UInt8.ofNat (n / 16777216), UInt8.ofNat (n / 65536), UInt8.ofNat (n / 256 % 256), UInt8.ofNat (n % 256)] = be 4 n := by
  show _ = [UInt8.ofNat (n / 256 / 256 / 256), UInt8.ofNat (n / 256 / 256), UInt8.ofNat (n / 256), UInt8.ofNat n]
  have f : ∀ m : Nat, UInt8.ofNat (m % 256) = UInt8.ofNat m := fun m => by apply UInt8.toNat_inj.1; simp
  rw [f, f, show n / 256 / 256 = n / 65536 by omega, show n / 65536 / 256 = n / 16777216 by omega]

end PackChk
end Go.Proofs.YtaipbaegbpebkaaGreat
