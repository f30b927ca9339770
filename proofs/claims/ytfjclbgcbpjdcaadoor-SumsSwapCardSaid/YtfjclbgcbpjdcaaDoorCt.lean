/- Bytes of a text that are turned or change places: in a list, in memory; what becomes of the register. -/
import Derived.Test.YtfjclbgcbpjdcaaDoorCb
import Derived.Laws.IdiomStrings
import Derived.Deep.QuietTactic
namespace Go.Proofs.YtfjclbgcbpjdcaaDoor
open Go.RowKit

/-- A text's bytes from k on, the first i of them with a word's bits turned. -/
def turnN (v : W32) (k : Nat) (l : List UInt8) : Nat → List UInt8
  | 0 => l
  | i + 1 => (turnN v k l i).set (k + i) ((turnN v k l i).getD (k + i) 0 ^^^ wb v i)
theorem turnN_length (v : W32) (k : Nat) (l : List UInt8) : ∀ i, (turnN v k l i).length = l.length
  | 0 => rfl
  | i + 1 => by rw [turnN, List.length_set, turnN_length v k l i]
theorem split_at (l : List UInt8) (k : Nat) (h : k < l.length) : ∃ a x c, l = a ++ x :: c ∧ a.length = k :=
  ⟨l.take k, l[k], l.drop (k + 1), by rw [← List.drop_eq_getElem_cons h, List.take_append_drop], by simp; omega⟩
theorem split_two (l : List UInt8) (k : Nat) (h : k + 2 ≤ l.length) : ∃ a x y c, l = a ++ x :: y :: c ∧ a.length = k := by
  refine ⟨l.take k, l[k], l[k + 1], l.drop (k + 1 + 1), ?_, by simp; omega⟩
  rw [← List.drop_eq_getElem_cons, ← List.drop_eq_getElem_cons, List.take_append_drop]
theorem split_four (l : List UInt8) (k : Nat) (h : k + 4 ≤ l.length) : ∃ a x y z u c, l = a ++ x :: y :: z :: u :: c ∧ a.length = k := by
  refine ⟨l.take k, l[k], l[k + 1], l[k + 1 + 1], l[k + 1 + 1 + 1], l.drop (k + 1 + 1 + 1 + 1), ?_, by simp; omega⟩
  rw [← List.drop_eq_getElem_cons, ← List.drop_eq_getElem_cons, ← List.drop_eq_getElem_cons, ← List.drop_eq_getElem_cons, List.take_append_drop]
theorem turn_four (v : W32) (a c : List UInt8) (x y z u : UInt8) :
    turnN v a.length (a ++ x :: y :: z :: u :: c) 4 = a ++ (x ^^^ wb v 0) :: (y ^^^ wb v 1) :: (z ^^^ wb v 2) :: (u ^^^ wb v 3) :: c := by
  simp [turnN, List.set_append_right, List.getD]
theorem mid_cons {a c l : List UInt8} : a ++ l ++ c = a ++ (l ++ c) := List.append_assoc _ _ _
/-- Bits within four bytes are turned: another sum, unless there are none. -/
theorem sum_turned (s v : W32) (l : List UInt8) (k : Nat) (h : k + 4 ≤ l.length) : moreL s (turnN v k l 4) = moreL s l ↔ v = 0#32 := by
  obtain ⟨a, x, y, z, u, c, rfl, rfl⟩ := split_four l k h
  rw [turn_four, moreL_eq]
  have h1 := crcL_mid (~~~ s) a [x ^^^ wb v 0, y ^^^ wb v 1, z ^^^ wb v 2, u ^^^ wb v 3] [x, y, z, u] c
  rw [mid_cons, mid_cons] at h1
  rw [← crc_word v]
  exact h1.trans (crcL_turned [x, y, z, u] [wb v 0, wb v 1, wb v 2, wb v 3] _ rfl)
theorem u8_xor_null {x y : UInt8} : x ^^^ y = 0 ↔ x = y := by
  constructor
  · intro h
    have := congrArg (· ^^^ y) h
    simpa [UInt8.xor_assoc] using this
  · intro h; rw [h]; simp
/-- Two bytes that change places: another sum, unless they are alike. -/
theorem sum_swapped (s : W32) (a c : List UInt8) (x y : UInt8) : moreL s (a ++ y :: x :: c) = moreL s (a ++ x :: y :: c) ↔ x = y := by
  rw [moreL_eq]
  have h1 := crcL_mid (~~~ s) a [y, x] [x, y] c
  rw [mid_cons, mid_cons] at h1
  refine h1.trans ?_
  have h2 := crcL_turned [x, y] [x ^^^ y, x ^^^ y] (crcL (~~~ s) a) rfl
  have e : List.zipWith (· ^^^ ·) [x, y] [x ^^^ y, x ^^^ y] = [y, x] := by
    simp only [List.zipWith]
    rw [← UInt8.xor_assoc, UInt8.xor_self, UInt8.zero_xor, UInt8.xor_comm x y, ← UInt8.xor_assoc, UInt8.xor_self, UInt8.zero_xor]
  rw [e] at h2
  rw [h2, crc_same, u8_xor_null]
theorem swap_set (a c : List UInt8) (x y : UInt8) : ((a ++ x :: y :: c).set a.length y).set (a.length + 1) x = a ++ y :: x :: c := by
  simp [List.set_append_right]

theorem heap_set_same {w : World} {b o : Nat} {v : Value} {cs : Array Value} {t : TypeId} {fr : Nat × Nat} (h : w.heap[b]? = some (.cells cs t fr)) : (w.setCell ⟨b, o, none⟩ v).heap[b]? = some (.cells (cs.setIfInBounds o v) t fr) := by
  simp [World.setCell, Array.getElem?_modify, h]
theorem heap_set_size (w : World) (a : Addr) (v : Value) : (w.setCell a v).heap.size = w.heap.size := by simp [World.setCell]
theorem frozen_mark (w : World) (g j n : Nat) (cs : Array Value) (t : TypeId) (hg : w.heap[g]? = some (.cells cs t (n, n + 1))) (hj : j < n) : w.frozen? ⟨g, j, none⟩ = false := by
  simp [World.frozen?, hg]
  omega
/-- A text's bytes lie in the block made last, zeros behind them. -/
structure Row (w : World) (l z : List UInt8) (n : Nat) (wr : World) : Prop where
  below : Below w.heap.size w wr
  size : wr.heap.size = w.heap.size + 1
  fit : l.length + z.length ≤ n
  row : wr.heap[w.heap.size]? = some (.cells (hv (l ++ z)) 5 (n, n + 1))
theorem hv_at (l z : List UInt8) (j : Nat) (h : j < l.length) : (hv (l ++ z))[j]? = some (.int .u8 ((l.getD j 0).toNat : Int)) := by
  simp [hv, List.getD, List.getElem?_eq_getElem h]
  rw [List.getElem?_append_left (by simpa using h)]
  simp [List.getElem?_eq_getElem h]
theorem hv_put (l z : List UInt8) (j : Nat) (b : UInt8) (h : j < l.length) : (hv (l ++ z)).setIfInBounds j (.int .u8 (b.toNat : Int)) = hv (l.set j b ++ z) := by
  unfold hv
  rw [← List.set_append_left _ _ h]
  simp [List.map_set]
theorem Row.cell {w : World} {l z : List UInt8} {n : Nat} {wr : World} (h : Row w l z n wr) {j : Nat} (hj : j < l.length) : wr.cell? ⟨w.heap.size, j, none⟩ = some (.int .u8 ((l.getD j 0).toNat : Int)) := by
  rw [cell_of_row _ _ _ _ _ _ h.row, hv_at l z j hj]
theorem Row.open {w : World} {l z : List UInt8} {n : Nat} {wr : World} (h : Row w l z n wr) {j : Nat} (hj : j < l.length) : wr.frozen? ⟨w.heap.size, j, none⟩ = false :=
  frozen_mark _ _ _ _ _ _ h.row (by have := h.fit; omega)
theorem Row.put {w : World} {l z : List UInt8} {n : Nat} {wr : World} (h : Row w l z n wr) {j : Nat} (hj : j < l.length) (b : UInt8) : Row w (l.set j b) z n (wr.setCell ⟨w.heap.size, j, none⟩ (.int .u8 (b.toNat : Int))) where
  below := h.below.setCell (Nat.le_refl _) _
  size := by rw [heap_set_size]; exact h.size
  fit := by rw [List.length_set]; exact h.fit
  row := by rw [heap_set_same h.row, hv_put l z j b hj]
theorem Row.drew {w : World} {l z : List UInt8} {n : Nat} {wr : World} (h : Row w l z n wr) : Row w l z n wr.drew :=
  ⟨h.below.drew, h.size, h.fit, h.row⟩
theorem Row.drewN {w : World} {l z : List UInt8} {n : Nat} {wr : World} (h : Row w l z n wr) (k : Nat) : Row w l z n (wr.drewN k) :=
  ⟨below_drewN h.below k, h.size, h.fit, h.row⟩
theorem Row.text {w : World} {l z : List UInt8} {n : Nat} {wr : World} (h : Row w l z n wr) (c : Nat) : (convert 29 9 (.slice (some ⟨w.heap.size, 0, none⟩) l.length c)).run Tryd.prog wr = .ok (.string (S l)) wr :=
  run_convert_bytes_back wr 29 9 5 _ c l Tryd.underlying29 Tryd.underlying5 Tryd.underlying9 (fun j hj => by
    have e : (⟨w.heap.size, 0, none⟩ : Addr).add j = ⟨w.heap.size, j, none⟩ := by simp [Addr.add]; omega
    rw [e, h.cell hj]
    simp [List.getD, List.getElem?_eq_getElem hj])
/-- []byte of a text. -/
theorem row_made (w : World) (s : ByteArray) : ∃ (C : Nat) (z : List UInt8) (n : Nat) (wr : World), (convert 9 29 (.string s)).run Tryd.prog w = .ok (.slice (some ⟨w.heap.size, 0, none⟩) s.size C) wr ∧ s.size ≤ C ∧ Row w s.data.toList z n wr := by
  have h := run_bytes_of_string (P := Tryd.prog) w 9 29 5 s Tryd.underlying9 Tryd.underlying29 Tryd.underlying5
  refine ⟨_, List.replicate (grownCap w s.size 0 5 - s.size) 0, (bytesRow s (grownCap w s.size 0 5)).size, _, h, ?_, ?_⟩
  · exact grownCap_ge w s.size 0 5
  · have e : bytesRow s (grownCap w s.size 0 5) = hv (s.data.toList ++ List.replicate (grownCap w s.size 0 5 - s.size) 0) := by
      apply Array.toList_inj.1
      simp [bytesRow, hv]
    rw [e]
    refine ⟨(Below.refl _ _).drew.alloc (Nat.le_refl _) _, by simp, by rw [hv_size, List.length_append]; exact Nat.le_refl _, ?_⟩
    exact heap_alloc_last w.drew _
end Go.Proofs.YtfjclbgcbpjdcaaDoor
