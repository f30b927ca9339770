/- Both tables that a hash of pieces reads: the rounds' words and the sizes (layer 8). -/
import Derived.Test.YtficmbaffkkfhabDoorSe
import Derived.Test.YtficmbaffkkfhabDoorWa0
namespace Go.Proofs.YtficmbaffkkfhabDoor
open Go.RowKit

/-- The rounds' words and the table of sizes lie in their blocks. -/
structure TabL (w : World) : Prop where
  k : TabK w
  z : Tab w
theorem TabL.lt {w : World} (h : TabL w) : 1 < w.heap.size ∧ 0 < w.heap.size := ⟨h.k.lt, h.z.lt⟩
theorem TabL.below {w w' : World} {n : Nat} (h : TabL w) (hb : Below n w w') (hn : 1 < n ∧ 0 < n) : TabL w' := by
  refine ⟨h.k.below hb hn.1, ?_⟩
  obtain ⟨t, fr, h⟩ := h.z
  exact ⟨t, fr, by rw [hb.block _ hn.2]; exact h⟩
theorem TabL.but {w w' : World} {b : Nat} (h : TabL w) (hb : But b w w') (hn : 1 < b ∧ 0 < b) : TabL w' := by
  refine ⟨h.k.but hb hn.1, ?_⟩
  have h1 := h.z.lt
  obtain ⟨t, fr, h⟩ := h.z
  exact ⟨t, fr, by rw [hb.block _ h1 (by omega)]; exact h⟩
theorem TabL.drew {w : World} (h : TabL w) : TabL w.drew := ⟨h.k, h.z⟩
end Go.Proofs.YtficmbaffkkfhabDoor
