/- What walks behind frames' contracts want: a frame in a box anew; zero bytes made, turned to a text; a text's byte. -/
import Derived.Test.YtalofhnjlmgloaaDoorFi
namespace Go.Proofs.YtalofhnjlmgloaaDoor
open Go.RowKit

theorem TS.start2 {w w2 : World} {k e i : Int} {D : ByteArray} {t : TypeId} (hT : Tab w2) (hT4 : Tab4 w2) (hb : Below w.heap.size w w2) : TS w w2.heap.size k e i D (w2.alloc (.cells #[.int .u8 k, .int .i64 e, .int .i64 i, .string D] t)) :=
  have h := TS.start (k := k) (e := e) (i := i) (D := D) (t := t) hT hT4
  ⟨h.c0, h.c1, h.c2, h.c3, h.tab, h.tab4, hb.trans (h.below.mono hb.size), h.lt, Nat.le_trans hb.size h.size⟩
theorem made_hv (n : Nat) : madeCells #[Value.int .u8 0] n = hv (List.replicate n 0) := by
  rw [zero_cells]
  apply Array.ext
  · simp [madeCells]
  · intro i h1 h2
    simp [madeCells, Nat.mod_one]
theorem mkZ (n : Nat) (hn : n ≤ 1000) (W : World) : (Instr.makeSlice 44 (.int .i64 (n : Int)) (.int .i64 (n : Int))).run Tryd.prog W = .ok (.slice (some ⟨W.heap.size, 0, none⟩) n n) (W.alloc (.cells (hv (List.replicate n 0)) 5)) := by
  have := mkN n (by omega) W
  rwa [made_hv] at this
theorem cvZ (n : Nat) (w : World) (g : Nat) (h : w.heap[g]? = some (.cells (hv (List.replicate n 0)) 5 (0, 0))) : (convert 44 9 (.slice (some ⟨g, 0, none⟩) n n)).run Tryd.prog w = .ok (.string (S (List.replicate n 0))) w := by
  have := conv_row (List.replicate n 0) w g n _ _ h
  rwa [List.length_replicate] at this
theorem get_bytes (l : List UInt8) (i : Nat) (b : UInt8) (h : l[i]? = some b) (hi : i < (S l).size) : (((S l)[i]'hi).toNat : Int) = (b.toNat : Int) := by
  have hl : i < l.length := by rw [S_size] at hi; exact hi
  rw [List.getElem?_eq_getElem hl] at h
  have e : ((S l)[i]'hi) = l[i] := rfl
  rw [e, Option.some.inj h]
end Go.Proofs.YtalofhnjlmgloaaDoor
