/- Leaves and nodes, plainly; a hash's box (layer 8; for a seat without the document's functions). -/
import Derived.Test.YtficmbaffkkfhabDoorSf0
import Derived.Test.YtficmbaffkkfhabDoorSk0
import Derived.Deep.RegionWith
import Derived.Deep.RegionHeld3
import Derived.Deep.QuietTactic
import Derived.BigQuiet
namespace Go.Proofs.YtficmbaffkkfhabDoor
open Go.RowKit

def leafL (d : List UInt8) : List UInt8 := shaL (0 :: d)
def nodeL (a b : List UInt8) : List UInt8 := shaL (1 :: (a ++ b))
theorem S_lead (x : UInt8) (d : List UInt8) : (⟨#[x]⟩ : ByteArray) ++ S d = S (x :: d) := by
  rw [show (⟨#[x]⟩ : ByteArray) = S [x] from rfl, S_append]
  rfl
/-- A new box for a hash. -/
theorem hash_box (w : World) : ∃ w', w.alloc (.cells (hv (padTo 32 [])) 22) = w' ∧ Below w.heap.size w w' ∧ w'.heap[w.heap.size]? = some (.cells (hv (padTo 32 [])) 22 (0, 0)) := ⟨_, rfl, (Below.refl _ _).alloc (Nat.le_refl _) _, heap_alloc_last w _⟩
theorem hz_size : (hv (padTo 32 [])).size = 32 := by rw [hv_size, padTo_length (by decide)]
theorem S_two (l : List UInt8) (x : UInt8) : S l ++ (⟨#[x]⟩ : ByteArray) = S (l ++ [x]) := by
  rw [show (⟨#[x]⟩ : ByteArray) = S [x] from rfl, S_append]
theorem cv_one (x : UInt8) (w : World) : (convert 49 9 (.slice (some ⟨w.heap.size, 0, none⟩) 1 1)).run Tryd.prog (w.alloc (.cells #[.int .u8 (x.toNat : Int)] 5)) = .ok (.string ⟨#[x]⟩) (w.alloc (.cells #[.int .u8 (x.toNat : Int)] 5)) := by
  have := conv_row [x] (w.alloc (.cells #[.int .u8 (x.toNat : Int)] 5)) w.heap.size 1 5 (0, 0) (heap_alloc_last w _)
  exact this
end Go.Proofs.YtficmbaffkkfhabDoor
