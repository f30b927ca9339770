/- Two leaves of the chapter's examples are unlike (layer 9). -/
import Derived.Test.YtficmbaffkkfhabDoorUa0
import Derived.Test.YtficmbaffkkfhabDoorSk0
namespace Go.Proofs.YtficmbaffkkfhabDoor
open Go.RowKit

/-- A leaf of the law's Some: its bytes. -/
def someB (i seed : Nat) : List UInt8 := [UInt8.ofNat i, UInt8.ofNat (i / 256), UInt8.ofNat seed, UInt8.ofNat (seed / 256), UInt8.ofNat (seed / 65536), UInt8.ofNat (seed / 16777216)]
def someL (n seed : Nat) : List (List UInt8) := (List.range n).map fun i => leafL (someB i seed)
theorem some_length (n seed : Nat) : (someL n seed).length = n := by simp [someL]
theorem some_32 (n seed : Nat) : ∀ x ∈ someL n seed, x.length = 32 := fun x hx => by
  obtain ⟨i, _, rfl⟩ := List.mem_map.1 hx
  exact shaL_length _
theorem two_leaves : (leafL (someB 0 0) == leafL (someB 1 0)) = false := by
  unfold leafL
  rw [shaL_one (0 :: someB 0 0) (by rfl), shaL_one (0 :: someB 1 0) (by rfl)]
  kernel_rfl
end Go.Proofs.YtficmbaffkkfhabDoor
