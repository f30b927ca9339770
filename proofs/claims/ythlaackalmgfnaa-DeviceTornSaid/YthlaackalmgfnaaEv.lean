/- Cells of lists; what Read and State tell of a block. -/
import Derived.Test.YthlaackalmgfnaaEo
namespace Go.Proofs.Ythlaackalmgfnaa
open Go.RowKit

/-- A list's cell, in whatever world lies above. -/
theorem Sys.intAt {w : World} {ds : List (Nat × Dv)} {is : List (Value × List Int)} {ts : List (Value × List (List UInt8))} {rs : List (Nat × Obj)} {wr : World} (h : Sys w ds is ts rs wr) {a : Option Addr} {n c : Nat} {l : List Int} (hv : (.slice a n c, l) ∈ is) {i : Nat} {x : Int} (hi : l[i]? = some x) : ∃ b o, a = some ⟨b, o, none⟩ ∧ wr.cell? ⟨b, o + i, none⟩ = some (.int .i64 x) := by
  obtain ⟨a', c', e, hh⟩ := h.int hv
  obtain ⟨b, o, e2, hc⟩ := hh i x hi
  simp at e
  obtain ⟨rfl, rfl, rfl⟩ := e
  exact ⟨b, o, e2, hc⟩
theorem Sys.textAt {w : World} {ds : List (Nat × Dv)} {is : List (Value × List Int)} {ts : List (Value × List (List UInt8))} {rs : List (Nat × Obj)} {wr : World} (h : Sys w ds is ts rs wr) {a : Option Addr} {n c : Nat} {l : List (List UInt8)} (hv : (.slice a n c, l) ∈ ts) {i : Nat} {x : List UInt8} (hi : l[i]? = some x) : ∃ b o, a = some ⟨b, o, none⟩ ∧ wr.cell? ⟨b, o + i, none⟩ = some (.string (S x)) := by
  obtain ⟨a', c', e, hh⟩ := h.text hv
  obtain ⟨b, o, e2, hc⟩ := hh i x hi
  simp at e
  obtain ⟨rfl, rfl, rfl⟩ := e
  exact ⟨b, o, e2, hc⟩
theorem statesD_get (d : Dv) (i : Nat) (b : Blk) (h : d.told[i]? = some b) : (statesD d)[i]? = some (b.st : Int) := by unfold statesD; rw [List.getElem?_map, h]; rfl
/-- A block's text, as a Read of a running device tells it. -/
def txB (b : Blk) : List UInt8 := if b.st = 0 then [] else if b.st = 2 then [] else txt b.by_
theorem allD_txB {d : Dv} (hu : d.up = true) (hl : d.told.length = d.sure.length) (i : Nat) (b : Blk) (h : d.told[i]? = some b) : (allD d)[i]? = some (txB b) := by
  have hi := (List.getElem?_eq_some_iff.1 h).1
  rw [allD_get d i (by omega)]
  unfold readD txB
  rw [if_pos hu, if_pos (by omega)]
  simp only [Int.toNat_natCast, h]
  split
  · rfl
  · split <;> rfl
/-- What Read and State tell of a block. -/
theorem read_b {d : Dv} (hu : d.up = true) (i : Nat) (b : Blk) (h : d.told[i]? = some b) : readD d (i : Int) = (txB b, if b.st = 0 then 41 else if b.st = 2 then 42 else 0) := by
  unfold readD txB
  rw [if_pos hu, if_pos (by omega)]
  simp only [Int.toNat_natCast, h]
  split
  · rfl
  · split <;> rfl
theorem state_b {d : Dv} (i : Nat) (b : Blk) (h : d.told[i]? = some b) : stAtD d (i : Int) = (b.st : Int) := by
  unfold stAtD
  rw [if_pos (by omega), Int.toNat_natCast, h]; rfl
end Go.Proofs.Ythlaackalmgfnaa
