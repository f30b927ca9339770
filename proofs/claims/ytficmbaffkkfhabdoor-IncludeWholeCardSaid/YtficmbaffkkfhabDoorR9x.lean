/- A slice that is built of two hashes (layer 10). -/
import Derived.Test.YtficmbaffkkfhabDoorR9s0
import Derived.Great.BuildSlice
namespace Go.Proofs.YtficmbaffkkfhabDoor
open Go.RowKit

theorem fill_two (Z X Y : Array Value) (hZ : Z.size = 64) (hX : X.size = 32) (hY : Y.size = 32) : Instr.fill (fun i => some (i * 32, 32)) Z [(0, .agg X), (1, .agg Y)] = some (X ++ Y) := by
  have la : X.toList.length = 32 := by rw [Array.length_toList, hX]
  have lb : Y.toList.length = 32 := by rw [Array.length_toList, hY]
  have lz : Z.toList.length = 64 := by rw [Array.length_toList, hZ]
  rw [fill_cons (v := .agg X) (off := 0) (size := 32) rfl hX (by omega), fill_cons (v := .agg Y) (off := 32) (size := 32) rfl hY (by simp [Value.cells, la, lz])]
  rw [Instr.fill]
  congr 1
  apply Array.toList_inj.1
  simp only [Value.cells, List.take_zero, List.nil_append, Nat.zero_add]
  rw [List.take_left' la, List.drop_eq_nil_of_le (by simp [la, lz])]
  simp
theorem wp_build_two {o : Oper} {a : Act} {w : World} {K : Act → World → Prop} {Q : Exit → Act → World → Prop} (x y : Operand) (ho : o.op = .buildSlice 23 2 #[(0, x), (1, y)]) (X Y : Array Value) (hx : a.eval x = .agg X) (hy : a.eval y = .agg Y) (hX : X.size = 32) (hY : Y.size = 32)
    (h : K (a.put o.dst (.slice (some ⟨w.heap.size, 0, none⟩) 2 2)) (w.alloc (.cells (X ++ Y) 22))) : o.wp Tryd.prog a w K Q := by
  obtain ⟨ie, z, g1, g2, g3, g4, -⟩ := info_hash
  refine wp_buildSlice 23 22 2 _ ho (X ++ Y) ie z Tryd.underlying23 g1 g2 (by rw [g4]; decide) (by rw [g4]; decide) ?_ h
  rw [g4]
  have e1 : ((#[(0, x), (1, y)] : Array (Nat × Operand)).map fun (i, x) => (i, a.eval x)).toList = [(0, Value.agg X), (1, Value.agg Y)] := by simp [hx, hy]
  rw [e1]
  exact fill_two _ X Y (by simp) hX hY
end Go.Proofs.YtficmbaffkkfhabDoor
