/- Lists that are kept while a device turns; one thing asked, in a box; a device flushed, crashed and started. -/
import Derived.Test.YthlaackalmgfnaaEk
import Derived.Test.YthlaackalmgfnaaEl
namespace Go.Proofs.Ythlaackalmgfnaa
open Go.RowKit

/-- A device's states and texts, told earlier. -/
structure Snap (O : Nat → Prop) (wr : World) (v1 : Value) (l1 : List Int) (v2 : Value) (l2 : List (List UInt8)) : Prop where
  st : IntsAt wr v1 l1
  tx : TextsAt wr v2 l2
  no : ∀ i, v1.ownBlock = some i ∨ v2.ownBlock = some i → ¬ O i ∧ i < wr.heap.size
theorem Snap.below {O : Nat → Prop} {wr wx : World} {v1 v2 : Value} {l1 : List Int} {l2 : List (List UInt8)} (h : Snap O wr v1 l1 v2 l2) (hb : Below wr.heap.size wr wx) : Snap O wx v1 l1 v2 l2 :=
  ⟨h.st.below hb, h.tx.below hb, fun i hi => ⟨(h.no i hi).1, Nat.lt_of_lt_of_le (h.no i hi).2 hb.size⟩⟩
theorem Snap.turn {O : Nat → Prop} {wr wx : World} {v1 v2 : Value} {l1 : List Int} {l2 : List (List UInt8)} (h : Snap O wr v1 l1 v2 l2) (ht : Turn O wr wx) : Snap O wx v1 l1 v2 l2 :=
  ⟨h.st.turn ht fun i hi => (h.no i (.inl hi)).1, h.tx.turn ht fun i hi => (h.no i (.inr hi)).1, fun i hi => ⟨(h.no i hi).1, Nat.lt_of_lt_of_le (h.no i hi).2 ht.size⟩⟩
theorem Snap.grow {O : Nat → Prop} {wr wx : World} {v1 v2 : Value} {l1 : List Int} {l2 : List (List UInt8)} (h : Snap O wr v1 l1 v2 l2) (ht : Turn O wr wx) : Snap (grow O wr wx) wx v1 l1 v2 l2 :=
  ⟨(h.turn ht).st, (h.turn ht).tx, fun i hi => ⟨fun hg => by rcases hg with hg | hg; exact (h.no i hi).1 hg; have := (h.no i hi).2; omega, ((h.turn ht).no i hi).2⟩⟩
theorem dos_one {w : World} {x : DoX} (hx : x.ok w) {W : World} (hb : Below w.heap.size w W) {g : Nat} (hg : W.heap[g]? = some (.cells x.v 37 (0, 0))) : DosAt W (some ⟨g, 0, none⟩) [x] := fun j y hj => by
  have hj0 : j = 0 := by have := (List.getElem?_eq_some_iff.1 hj).1; simpa using this
  subst hj0
  obtain rfl : x = y := by simpa using hj
  exact ⟨hx.below hb, g, 0, rfl, range_row hg⟩
/-- A box of a thing asked, and a second one that holds the same, in a list. -/
structure Boxed (w : World) (C : Array Value) (W1 : World) : Prop where
  below : Below w.heap.size w W1
  g1 : W1.heap[w.heap.size]? = some (.cells C 37 (0, 0))
  g2 : W1.heap[w.heap.size + 1]? = some (.cells C 37 (0, 0))
theorem boxed (w : World) (C : Array Value) : Boxed w C ((w.alloc (.cells C 37)).alloc (.cells C 37)) :=
  ⟨((Below.refl _ _).alloc (Nat.le_refl _) _).alloc (by simp) _, by rw [Below.heap_alloc _ _ _ (by simp)]; exact heap_alloc_last _ _, by
    have := heap_alloc_last (w.alloc (.cells C 37)) (.cells C 37)
    simpa using this⟩
theorem much_parts {xs : List DoX} {m : Nat} (h : muchD xs m = false) : xs.length ≤ m ∧ xs.any muchB = false ∧ ∀ x ∈ xs, x.s.length ≤ 200 ∧ x.k.length ≤ 100 := by
  unfold muchD at h
  rw [Bool.or_eq_false_iff] at h
  refine ⟨by simpa using h.1, h.2, fun x hx => ?_⟩
  have := List.any_eq_false.1 h.2 x hx
  unfold muchB at this
  simp at this
  exact this
/-- The array that a slice's one part fills. -/
theorem do_fold (x : DoX) : Array.foldl (fun (cs : Array Value) (y : Value × Nat) => cs.setIfInBounds y.snd y.fst) #[Value.int .u8 0, .int .i64 0, .int .i64 0, .string ⟨#[]⟩, .slice none 0 0] x.v.zipIdx 0 5 = x.v := by
  cases x; kernel_rfl
theorem info_do (x : DoX) : (Try.prog.info? 37).map (·.size) = some x.v.size := by
  show _ = some 5; kernel_rfl
/-- Flushed. -/
def flD (d : Dv) : Dv := { d with sure := d.told, acts := [] }
theorem flush_eqD {d : Dv} (h : Wf d) (hu : d.up = true) : flushD d = (0, flD d) := by rw [h.flush, if_pos hu, sureD_eq h]; rfl
theorem flD_wf {d : Dv} (h : Wf d) : Wf (flD d) := by have := h.sureD; rw [sureD_eq h] at this; exact this
end Go.Proofs.Ythlaackalmgfnaa
