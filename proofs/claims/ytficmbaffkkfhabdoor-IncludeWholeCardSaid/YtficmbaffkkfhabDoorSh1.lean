/- Hashes compared. -/
import Derived.Test.YtficmbaffkkfhabDoorSf0
import Derived.Test.YtficmbaffkkfhabDoorB
import Derived.Test.YtficmbaffkkfhabDoorLe
namespace Go.Proofs.YtficmbaffkkfhabDoor
open Go.RowKit

theorem eqH (w : World) (a b : List UInt8) (ha : a.length = 32) (hb : b.length = 32) : (binOp .eql 22 (.agg (hv a)) (.agg (hv b))).run Tryd.prog w = .ok (.bool (a == b)) w :=
  run_eql_bytes w 22 5 32 Tryd.underlying22 Tryd.underlying5 cells_u8 (by kernel_rfl) a b ha hb
theorem neqH (w : World) (a b : List UInt8) (ha : a.length = 32) (hb : b.length = 32) : (binOp .neq 22 (.agg (hv a)) (.agg (hv b))).run Tryd.prog w = .ok (.bool (!(a == b))) w :=
  run_neq_bytes w 22 5 32 Tryd.underlying22 Tryd.underlying5 cells_u8 (by kernel_rfl) a b ha hb
end Go.Proofs.YtficmbaffkkfhabDoor
