/- The greatest power of two below a number, as an int (layer 9). -/
import Derived.Test.YtficmbaffkkfhaaDoorW8
import Derived.Test.YtficmbaffkkfhaaDoorW3
namespace Go.Proofs.YtficmbaffkkfhaaDoor
open Go.RowKit

def splitZ (n : Int) : Int := (splitN n.toNat : Nat)
theorem splitZ_nat (n : Nat) : splitZ (n : Int) = (splitN n : Nat) := by unfold splitZ; rw [Int.toNat_natCast]
end Go.Proofs.YtficmbaffkkfhaaDoor
