/- The document's Unquote. -/
import Derived.Test.YtkbgnbcphmkjkaaDoorUnq
namespace Go.Proofs.YtkbgnbcphmkjkaaDoor
open Go.RowKit

def rmv (c : UInt8) : UInt8 × Bool := match mean c with | some m => (m, true) | none => (0, false)

theorem ret_rm {c m : UInt8} {b : Bool} (h : (m, b) = rmv c) : Ending.returned (.tuple #[.int .u8 (m.toNat : Int), .bool b]) = .returned (.tuple #[.int .u8 ((rmv c).1.toNat : Int), .bool (rmv c).2]) := by rw [← h]

end Go.Proofs.YtkbgnbcphmkjkaaDoor
