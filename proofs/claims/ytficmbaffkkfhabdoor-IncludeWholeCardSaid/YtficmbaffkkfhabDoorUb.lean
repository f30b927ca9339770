/- Two hashes in boxes (layer 8; for a seat without the document's functions). -/
import Derived.Test.YtficmbaffkkfhabDoorUa0
import Derived.Deep.RegionHeld3
import Derived.Deep.DeepCutAuto
namespace Go.Proofs.YtficmbaffkkfhabDoor
open Go.RowKit

/-- Two hashes in boxes. -/
structure Ha (w : World) (rb : Nat) (CA CB : Array Value) (w' : World) : Prop where
  below : Below w.heap.size w w'
  a : w'.heap[w.heap.size]? = some (.cells CA 22 (0, 0))
  b : w'.heap[rb]? = some (.cells CB 22 (0, 0))
/-- Two hashes in boxes, and the box of the result. -/
structure Hn (w : World) (rb rr : Nat) (CA CB Z : Array Value) (w' : World) : Prop where
  below : Below w.heap.size w w'
  a : w'.heap[w.heap.size]? = some (.cells CA 22 (0, 0))
  b : w'.heap[rb]? = some (.cells CB 22 (0, 0))
  r : w'.heap[rr]? = some (.cells Z 22 (0, 0))
  lt : w.heap.size < rr
  lt2 : rb < rr
theorem Hn.next {w : World} {rb rr : Nat} {CA CB Z : Array Value} {w' w'' : World} (h : Hn w rb rr CA CB Z w') (hb : Below w'.heap.size w' w'') : Hn w rb rr CA CB Z w'' :=
  ⟨h.below.trans (hb.mono h.below.size), (hb.block _ (Array.getElem?_eq_some_iff.1 h.a).1).trans h.a, (hb.block _ (Array.getElem?_eq_some_iff.1 h.b).1).trans h.b, (hb.block _ (Array.getElem?_eq_some_iff.1 h.r).1).trans h.r, h.lt, h.lt2⟩
theorem Hn.base {w : World} {rb rr : Nat} {CA CB Z : Array Value} {w' : World} (h : Hn w rb rr CA CB Z w') : Ha w rb CA CB w' := ⟨h.below, h.a, h.b⟩
theorem Hn.turn {w : World} {rb rr : Nat} {CA CB Z : Array Value} {w' : World} (h : Hn w rb rr CA CB Z w') (R : Array Value) : Ha w rb CA CB (w'.setRow rr R) := ⟨below_setRow h.below (Nat.le_of_lt h.lt) _, (heap_setRow_ne (Nat.ne_of_lt h.lt)).trans h.a, (heap_setRow_ne (Nat.ne_of_lt h.lt2)).trans h.b⟩
theorem Hn.drew {w : World} {rb rr : Nat} {CA CB Z : Array Value} {w' : World} (h : Hn w rb rr CA CB Z w') : Hn w rb rr CA CB Z w'.drew := h.next (Below.refl _ _).drew
theorem hn_start (w : World) (CA CB Z : Array Value) : ∃ w1 w2 w3, w.alloc (.cells CA 22) = w1 ∧ w1.alloc (.cells CB 22) = w2 ∧ w2.alloc (.cells Z 22) = w3 ∧ Hn w w1.heap.size w2.heap.size CA CB Z w3 := by
  refine ⟨_, _, _, rfl, rfl, rfl, ?_⟩
  have h1 := heap_alloc_last w (.cells CA 22)
  generalize hw1 : w.alloc (.cells CA 22) = w1 at *
  have b1 : Below w.heap.size w w1 := by rw [← hw1]; exact (Below.refl _ _).alloc (Nat.le_refl _) _
  have h2 := heap_alloc_last w1 (.cells CB 22)
  have b2 : Below w1.heap.size w1 (w1.alloc (.cells CB 22)) := (Below.refl _ _).alloc (Nat.le_refl _) _
  generalize w1.alloc (.cells CB 22) = w2 at *
  have h3 := heap_alloc_last w2 (.cells Z 22)
  have b3 : Below w2.heap.size w2 (w2.alloc (.cells Z 22)) := (Below.refl _ _).alloc (Nat.le_refl _) _
  generalize w2.alloc (.cells Z 22) = w3 at *
  have k1 := (b2.block _ (Array.getElem?_eq_some_iff.1 h1).1).trans h1
  exact ⟨b1.trans ((b2.trans (b3.mono b2.size)).mono b1.size), (b3.block _ (Array.getElem?_eq_some_iff.1 k1).1).trans k1, (b3.block _ (Array.getElem?_eq_some_iff.1 h2).1).trans h2, h3, Nat.lt_of_lt_of_le (Array.getElem?_eq_some_iff.1 h1).1 b2.size, (Array.getElem?_eq_some_iff.1 h2).1⟩
end Go.Proofs.YtficmbaffkkfhabDoor
