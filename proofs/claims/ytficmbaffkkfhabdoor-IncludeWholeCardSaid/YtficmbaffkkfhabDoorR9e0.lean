/- The greatest power of two below a number, as an int (layer 9). -/
import Derived.Test.YtficmbaffkkfhabDoorR9a
import Derived.Test.YtficmbaffkkfhabDoorR9c
namespace Go.Proofs.YtficmbaffkkfhabDoor
open Go.RowKit

def splitZ (n : Int) : Int := (splitN n.toNat : Nat)
theorem splitZ_nat (n : Nat) : splitZ (n : Int) = (splitN n : Nat) := by unfold splitZ; rw [Int.toNat_natCast]
end Go.Proofs.YtficmbaffkkfhabDoor
