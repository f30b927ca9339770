/- Lists of hashes in memory (layer 9). -/
import Derived.Test.YtficmbaffkkfhabDoorB
import Derived.Test.YtficmbaffkkfhabDoorLx
namespace Go.Proofs.YtficmbaffkkfhabDoor
open Go.RowKit

/-- Hashes that a slice holds. -/
def HsAt (w : World) (v : Value) (L : List (List UInt8)) : Prop := ∃ a c, v = .slice a L.length c ∧ ∀ i x, L[i]? = some x → x.length = 32 ∧ ∃ b o, a = some ⟨b, o, none⟩ ∧ w.rangeAt b (o + i * 32) (hv x).toList
theorem range_stays {w w' : World} {b o : Nat} {cs : List Value} (h : w.rangeAt b o cs) (hb : Below w.heap.size w w') : w'.rangeAt b o cs := fun j v hj => by
  have h1 := h j v hj
  rw [World.cell?_of_block (hb.block b (World.block_lt_of_cell? w _ h1))]; exact h1
theorem HsAt.below {w w' : World} {v : Value} {L : List (List UInt8)} (h : HsAt w v L) (hb : Below w.heap.size w w') : HsAt w' v L := by
  obtain ⟨a, c, e, hh⟩ := h
  refine ⟨a, c, e, fun i x hi => ?_⟩
  obtain ⟨h1, b, o, ea, h2⟩ := hh i x hi
  exact ⟨h1, b, o, ea, range_stays h2 hb⟩
theorem HsAt.cells {w : World} {a : Option Addr} {n c : Nat} {L : List (List UInt8)} (h : HsAt w (.slice a n c) L) : n = L.length ∧ ∀ i x, L[i]? = some x → x.length = 32 ∧ ∃ b o, a = some ⟨b, o, none⟩ ∧ ∀ w', Below w.heap.size w w' → w'.rangeAt b (o + i * 32) (hv x).toList := by
  obtain ⟨a', c', e, hh⟩ := h
  obtain ⟨rfl, rfl, rfl⟩ := Value.slice.inj e
  refine ⟨rfl, fun i x hi => ?_⟩
  obtain ⟨h1, b, o, ea, h2⟩ := hh i x hi
  exact ⟨h1, b, o, ea, fun w' hb => range_stays h2 hb⟩
theorem HsAt.len {w : World} {v : Value} {L : List (List UInt8)} (h : HsAt w v L) : ∀ x ∈ L, x.length = 32 := fun x hx => by
  obtain ⟨a, c, _, hh⟩ := h
  obtain ⟨i, hi⟩ := List.getElem?_of_mem hx
  exact (hh i x hi).1
theorem HsAt.take {w : World} {a : Option Addr} {n c : Nat} {L : List (List UInt8)} (h : HsAt w (.slice a n c) L) (i : Nat) (hi : i ≤ n) : HsAt w (.slice a i c) (L.take i) := by
  obtain ⟨a', c', e, h⟩ := h
  obtain ⟨rfl, rfl, rfl⟩ := Value.slice.inj e
  refine ⟨a, c, by rw [List.length_take, Nat.min_eq_left hi], fun j s hj => ?_⟩
  rw [List.getElem?_take] at hj
  split at hj
  · exact h j s hj
  · cases hj
theorem HsAt.rest {w : World} {b o n c : Nat} {L : List (List UInt8)} (h : HsAt w (.slice (some ⟨b, o, none⟩) n c) L) (i : Nat) (hi : i ≤ n) (hc : n ≤ c) : HsAt w (.slice (if c = i then some ⟨b, o, none⟩ else some ⟨b, o + i * 32, none⟩) (n - i) (c - i)) (L.drop i) := by
  obtain ⟨a', c', e, h⟩ := h
  obtain ⟨rfl, rfl, rfl⟩ := Value.slice.inj e
  refine ⟨_, _, by rw [List.length_drop], fun j s hj => ?_⟩
  have hl := (List.getElem?_eq_some_iff.1 hj).1
  rw [List.length_drop] at hl
  rw [List.getElem?_drop] at hj
  obtain ⟨h1, b', o', e', h2⟩ := h (i + j) s hj
  obtain ⟨rfl, rfl⟩ : b = b' ∧ o = o' := by simpa using e'
  refine ⟨h1, _, o + i * 32, by rw [if_neg (by omega)], ?_⟩
  rw [show o + i * 32 + j * 32 = o + (i + j) * 32 by omega]; exact h2
end Go.Proofs.YtficmbaffkkfhabDoor
