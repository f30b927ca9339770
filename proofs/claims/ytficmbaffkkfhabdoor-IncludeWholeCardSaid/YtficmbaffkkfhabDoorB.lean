/- Laws on bytes in memory, over the seat's types: what more than one layer needs. -/
import Derived.Test.YtficmbaffkkfhabDoorChecked
import Derived.Test.YtficmbaffkkfhabDoorM2
import Derived.Test.YtficmbaffkkfhabDoorLw
import Derived.WalkSpells
import Derived.Deep.OwnRows
import Derived.Deep.MidRow
import Derived.WalkLawsBesides
namespace Go.Proofs.YtficmbaffkkfhabDoor
open Go.RowKit

theorem ret_bool {a b : Bool} (h : a = b) : Ending.returned (.bool a) = .returned (.bool b) := by rw [h]
theorem ret_str {a b : ByteArray} (h : a = b) : Ending.returned (.string a) = .returned (.string b) := by rw [h]
theorem foldl_push (ns : List Int) : ∀ (r : ByteArray), ns.foldl (fun r n => r.push (UInt8.ofNat n.toNat)) r = ⟨r.data ++ (ns.map fun n => UInt8.ofNat n.toNat).toArray⟩ := by
  induction ns with
  | nil => intro r; simp
  | cons n ns ih =>
    intro r
    rw [List.foldl_cons, ih]
    simp [ByteArray.push]
theorem info_u8 : (Tryd.prog.info? 5).map (fun i => (i.zero, i.size, i.bytes)) = some (some (.int .u8 0), 1, 1) := by kernel_rfl
theorem cells_u8 : Tryd.prog.cellsOf 5 = 1 := by kernel_rfl
theorem mkN (n : Nat) (hn : n ≤ 140737488351232) (w : World) : (Instr.makeSlice 49 (.int .i64 (n : Int)) (.int .i64 (n : Int))).run Tryd.prog w = .ok (.slice (some ⟨w.heap.size, 0, none⟩) n n) (w.alloc (.cells (madeCells #[.int .u8 0] n) 5)) :=
  run_make_row' 49 5 (.int .u8 0) 1 Tryd.underlying49 info_u8 rfl .i64 .i64 n (by omega) (by omega) w
theorem S_append (a b : List UInt8) : S a ++ S b = S (a ++ b) := by
  apply ByteArray.ext; simp [S]
theorem S_app (a : List UInt8) (s : ByteArray) : S a ++ s = S (a ++ s.data.toList) := by
  rw [← S_append, S_data]
theorem info_h32 : (Tryd.prog.info? 22).map (·.size) = some 32 := by kernel_rfl
theorem zero_h32 : hv (padTo 32 []) = #[.int .u8 0, .int .u8 0, .int .u8 0, .int .u8 0, .int .u8 0, .int .u8 0, .int .u8 0, .int .u8 0, .int .u8 0, .int .u8 0, .int .u8 0, .int .u8 0, .int .u8 0, .int .u8 0, .int .u8 0, .int .u8 0, .int .u8 0, .int .u8 0, .int .u8 0, .int .u8 0, .int .u8 0, .int .u8 0, .int .u8 0, .int .u8 0, .int .u8 0, .int .u8 0, .int .u8 0, .int .u8 0, .int .u8 0, .int .u8 0, .int .u8 0, .int .u8 0] := by rfl
/-- Bytes that lie in a block, made into a string. -/
theorem conv_row (l : List UInt8) (w : World) (b c : Nat) (t : TypeId) (fr : Nat × Nat) (hg : w.heap[b]? = some (.cells (hv l) t fr)) : (convert 49 9 (.slice (some ⟨b, 0, none⟩) l.length c)).run Tryd.prog w = .ok (.string (S l)) w := by
  rw [run_convert_bytes_string _ _ _ 5 _ _ _ Tryd.underlying49 Tryd.underlying5 Tryd.underlying9]
  have hl := run_loadCells_list (P := Tryd.prog) w ⟨b, 0, none⟩ ((l.map fun b => (b.toNat : Int)).map (Value.int .u8)) (fun j v hj => by
    have e : (⟨b, 0, none⟩ : Addr).add j = ⟨b, j, none⟩ := by simp [Addr.add]; omega
    rw [e, cell_of_row _ _ _ _ _ _ hg]
    simpa [hv] using hj)
  rw [List.length_map, List.length_map] at hl
  rw [run_bytesToString _ _ _ _ _ hl, foldl_push, List.map_map]
  have e : (l.map ((fun n : Int => UInt8.ofNat n.toNat) ∘ fun b : UInt8 => (b.toNat : Int))) = l := by
    conv => rhs; rw [← List.map_id l]
    apply List.map_congr_left
    intro x _
    simp
  rw [e]
  simp [S]
/-- A stretch of bytes that lie in a block, made into a string. -/
theorem conv_seg (l : List UInt8) (w : World) (b o m c : Nat) (t : TypeId) (fr : Nat × Nat) (hg : w.heap[b]? = some (.cells (hv l) t fr)) (hm : o + m ≤ l.length) : (convert 49 9 (.slice (some ⟨b, o, none⟩) m c)).run Tryd.prog w = .ok (.string (S ((l.drop o).take m))) w := by
  rw [run_convert_bytes_string _ _ _ 5 _ _ _ Tryd.underlying49 Tryd.underlying5 Tryd.underlying9]
  have hl := run_loadCells_list (P := Tryd.prog) w ⟨b, o, none⟩ ((((l.drop o).take m).map fun b => (b.toNat : Int)).map (Value.int .u8)) (fun j v hj => by
    rw [Addr.add_mid, cell_of_row _ _ _ _ _ _ hg]
    have hj' : j < m := by
      have := (List.getElem?_eq_some_iff.1 hj).1
      simp at this; omega
    rw [List.map_map, List.getElem?_map, List.getElem?_take, if_pos hj', List.getElem?_drop] at hj
    simpa [hv] using hj)
  rw [List.length_map, List.length_map, List.length_take, List.length_drop, Nat.min_eq_left (by omega)] at hl
  rw [run_bytesToString _ _ _ _ _ hl, foldl_push, List.map_map]
  have e : (((l.drop o).take m).map ((fun n : Int => UInt8.ofNat n.toNat) ∘ fun b : UInt8 => (b.toNat : Int))) = (l.drop o).take m := by
    conv => rhs; rw [← List.map_id ((l.drop o).take m)]
    apply List.map_congr_left
    intro x _
    simp
  rw [e]
  simp [S]
end Go.Proofs.YtficmbaffkkfhabDoor
