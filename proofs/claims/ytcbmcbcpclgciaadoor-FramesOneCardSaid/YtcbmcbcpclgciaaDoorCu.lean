/- The row that []byte(s) makes. -/
import Derived.Test.YtcbmcbcpclgciaaDoorBt
import Derived.Test.YtcbmcbcpclgciaaDoorLh
import Derived.Laws.IdiomStrings
import Derived.Deep.QuietTactic
namespace Go.Proofs.YtcbmcbcpclgciaaDoor
open Go.RowKit

theorem frozen_mark (w : World) (g j n : Nat) (cs : Array Value) (t : TypeId) (hg : w.heap[g]? = some (.cells cs t (n, n + 1))) (hj : j < n) : w.frozen? ⟨g, j, none⟩ = false := by
  simp [World.frozen?, hg]
  omega
/-- A text's bytes lie in the block made last, zeros behind them. -/
structure Row (w : World) (l z : List UInt8) (n : Nat) (wr : World) : Prop where
  below : Below w.heap.size w wr
  size : wr.heap.size = w.heap.size + 1
  fit : l.length + z.length ≤ n
  row : wr.heap[w.heap.size]? = some (.cells (hv (l ++ z)) 5 (n, n + 1))
theorem hv_at (l z : List UInt8) (j : Nat) (h : j < l.length) : (hv (l ++ z))[j]? = some (.int .u8 ((l.getD j 0).toNat : Int)) := by
  simp [hv, List.getD, List.getElem?_eq_getElem h]
  rw [List.getElem?_append_left (by simpa using h)]
  simp [List.getElem?_eq_getElem h]
theorem hv_put (l z : List UInt8) (j : Nat) (b : UInt8) (h : j < l.length) : (hv (l ++ z)).setIfInBounds j (.int .u8 (b.toNat : Int)) = hv (l.set j b ++ z) := by
  unfold hv
  rw [← List.set_append_left _ _ h]
  simp [List.map_set]
theorem Row.cell {w : World} {l z : List UInt8} {n : Nat} {wr : World} (h : Row w l z n wr) {j : Nat} (hj : j < l.length) : wr.cell? ⟨w.heap.size, j, none⟩ = some (.int .u8 ((l.getD j 0).toNat : Int)) := by
  rw [cell_of_row _ _ _ _ _ _ h.row, hv_at l z j hj]
theorem Row.open {w : World} {l z : List UInt8} {n : Nat} {wr : World} (h : Row w l z n wr) {j : Nat} (hj : j < l.length) : wr.frozen? ⟨w.heap.size, j, none⟩ = false :=
  frozen_mark _ _ _ _ _ _ h.row (by have := h.fit; omega)
theorem Row.put {w : World} {l z : List UInt8} {n : Nat} {wr : World} (h : Row w l z n wr) {j : Nat} (hj : j < l.length) (b : UInt8) : Row w (l.set j b) z n (wr.setCell ⟨w.heap.size, j, none⟩ (.int .u8 (b.toNat : Int))) where
  below := h.below.setCell (Nat.le_refl _) _
  size := by rw [heap_set_size]; exact h.size
  fit := by rw [List.length_set]; exact h.fit
  row := by rw [heap_set_same h.row, hv_put l z j b hj]
theorem Row.drew {w : World} {l z : List UInt8} {n : Nat} {wr : World} (h : Row w l z n wr) : Row w l z n wr.drew :=
  ⟨h.below.drew, h.size, h.fit, h.row⟩
theorem Row.drewN {w : World} {l z : List UInt8} {n : Nat} {wr : World} (h : Row w l z n wr) (k : Nat) : Row w l z n (wr.drewN k) :=
  ⟨below_drewN h.below k, h.size, h.fit, h.row⟩
theorem Row.text {w : World} {l z : List UInt8} {n : Nat} {wr : World} (h : Row w l z n wr) (c : Nat) : (convert 33 9 (.slice (some ⟨w.heap.size, 0, none⟩) l.length c)).run Tryd.prog wr = .ok (.string (S l)) wr :=
  run_convert_bytes_back wr 33 9 5 _ c l Tryd.underlying33 Tryd.underlying5 Tryd.underlying9 (fun j hj => by
    have e : (⟨w.heap.size, 0, none⟩ : Addr).add j = ⟨w.heap.size, j, none⟩ := by simp [Addr.add]; omega
    rw [e, h.cell hj]
    simp [List.getD, List.getElem?_eq_getElem hj])
/-- []byte of a text. -/
theorem row_made (w : World) (s : ByteArray) : ∃ (C : Nat) (z : List UInt8) (n : Nat) (wr : World), (convert 9 33 (.string s)).run Tryd.prog w = .ok (.slice (some ⟨w.heap.size, 0, none⟩) s.size C) wr ∧ s.size ≤ C ∧ Row w s.data.toList z n wr := by
  have h := run_bytes_of_string (P := Tryd.prog) w 9 33 5 s Tryd.underlying9 Tryd.underlying33 Tryd.underlying5
  refine ⟨_, List.replicate (grownCap w s.size 0 5 - s.size) 0, (bytesRow s (grownCap w s.size 0 5)).size, _, h, ?_, ?_⟩
  · exact grownCap_ge w s.size 0 5
  · have e : bytesRow s (grownCap w s.size 0 5) = hv (s.data.toList ++ List.replicate (grownCap w s.size 0 5 - s.size) 0) := by
      apply Array.toList_inj.1
      simp [bytesRow, hv]
    rw [e]
    refine ⟨(Below.refl _ _).drew.alloc (Nat.le_refl _) _, by simp, by rw [hv_size, List.length_append]; exact Nat.le_refl _, ?_⟩
    exact heap_alloc_last w.drew _
end Go.Proofs.YtcbmcbcpclgciaaDoor
