/- The root of hashes, plainly (layer 9). -/
import Derived.Test.YtficmbaffkkfhabDoorUa0
import Derived.Test.YtficmbaffkkfhabDoorR9a
namespace Go.Proofs.YtficmbaffkkfhabDoor
open Go.RowKit

/-- The root of hashes. -/
def rootH (L : List (List UInt8)) : List UInt8 := rootL (shaL []) nodeL L
theorem rootH_32 {L : List (List UInt8)} (h : ∀ x ∈ L, x.length = 32) : (rootH L).length = 32 := by
  by_cases h2 : 2 ≤ L.length
  · unfold rootH
    rw [root_node _ _ h2]
    exact shaL_length _
  · match L, h2 with
    | [], _ => exact shaL_length _
    | [x], _ => exact h x (by simp)
    | x :: y :: l, h2 => exact absurd (by simp) h2
end Go.Proofs.YtficmbaffkkfhabDoor
