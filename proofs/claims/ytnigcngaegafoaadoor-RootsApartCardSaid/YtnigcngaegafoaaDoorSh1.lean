/- Hashes compared. -/
import Derived.Test.YtnigcngaegafoaaDoorSf0
import Derived.Test.YtnigcngaegafoaaDoorB
import Derived.Test.YtnigcngaegafoaaDoorLe
namespace Go.Proofs.YtnigcngaegafoaaDoor
open Go.RowKit

theorem eqH (w : World) (a b : List UInt8) (ha : a.length = 32) (hb : b.length = 32) : (binOp .eql 23 (.agg (hv a)) (.agg (hv b))).run Tryd.prog w = .ok (.bool (a == b)) w :=
  run_eql_bytes w 23 5 32 Tryd.underlying23 Tryd.underlying5 cells_u8 (by kernel_rfl) a b ha hb
theorem neqH (w : World) (a b : List UInt8) (ha : a.length = 32) (hb : b.length = 32) : (binOp .neq 23 (.agg (hv a)) (.agg (hv b))).run Tryd.prog w = .ok (.bool (!(a == b))) w :=
  run_neq_bytes w 23 5 32 Tryd.underlying23 Tryd.underlying5 cells_u8 (by kernel_rfl) a b ha hb
end Go.Proofs.YtnigcngaegafoaaDoor
