/- Rows of bytes in memory that a call makes: the laws of Mem at the type of bytes. -/
import Derived.Test.YtkklmclnjmafaaaMem
namespace Go.Proofs.Ytkklmclnjmafaaa.base
set_option maxRecDepth 100000
open Go.RowKit

/-! The same for bytes in this program. -/
theorem info8 : ∃ i, Try.prog.info? 5 = some i ∧ i.zero = some (.int .u8 0) ∧ i.size = 1 ∧ i.bytes = 1 := info_parts (by kernel_rfl)

/-- The string of some bytes. -/
def bstr (zs : List Int) : ByteArray := zs.foldl (fun r n => r.push (UInt8.ofNat n.toNat)) ByteArray.empty

end Go.Proofs.Ytkklmclnjmafaaa.base
