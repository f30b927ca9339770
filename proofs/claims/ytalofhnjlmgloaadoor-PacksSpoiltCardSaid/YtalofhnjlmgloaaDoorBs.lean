/- Laws on bytes in memory, over the seat's types: what a layer without hashes needs. -/
import Derived.Test.YtalofhnjlmgloaaDoorChecked
import Derived.Test.YtalofhnjlmgloaaDoorM2
import Derived.Test.YtalofhnjlmgloaaDoorLw
import Derived.WalkSpells
import Derived.Deep.OwnRows
import Derived.Deep.MidRow
import Derived.WalkLawsBesides
namespace Go.Proofs.YtalofhnjlmgloaaDoor
open Go.RowKit

theorem ret_bool {a b : Bool} (h : a = b) : Ending.returned (.bool a) = .returned (.bool b) := by rw [h]
theorem ret_w {a b : Int} (h : a = b) : Ending.returned (.int .u32 a) = .returned (.int .u32 b) := by rw [h]
theorem foldl_push (ns : List Int) : ∀ (r : ByteArray), ns.foldl (fun r n => r.push (UInt8.ofNat n.toNat)) r = ⟨r.data ++ (ns.map fun n => UInt8.ofNat n.toNat).toArray⟩ := by
  induction ns with
  | nil => intro r; simp
  | cons n ns ih =>
    intro r
    rw [List.foldl_cons, ih]
    simp [ByteArray.push]
theorem S_append (a b : List UInt8) : S a ++ S b = S (a ++ b) := by
  apply ByteArray.ext; simp [S]
/-- Bytes that lie in a block, made into a string. -/
theorem conv_row (l : List UInt8) (w : World) (b c : Nat) (t : TypeId) (fr : Nat × Nat) (hg : w.heap[b]? = some (.cells (hv l) t fr)) : (convert 44 9 (.slice (some ⟨b, 0, none⟩) l.length c)).run Tryd.prog w = .ok (.string (S l)) w := by
  rw [run_convert_bytes_string _ _ _ 5 _ _ _ Tryd.underlying44 Tryd.underlying5 Tryd.underlying9]
  have hl := run_loadCells_list (P := Tryd.prog) w ⟨b, 0, none⟩ ((l.map fun b => (b.toNat : Int)).map (Value.int .u8)) (fun j v hj => by
    have e : (⟨b, 0, none⟩ : Addr).add j = ⟨b, j, none⟩ := by simp [Addr.add]; omega
    rw [e, cell_of_row _ _ _ _ _ _ hg]
    simpa [hv] using hj)
  rw [List.length_map, List.length_map] at hl
  rw [run_bytesToString _ _ _ _ _ hl, foldl_push, List.map_map]
  have e : (l.map ((fun n : Int => UInt8.ofNat n.toNat) ∘ fun b : UInt8 => (b.toNat : Int))) = l := by
    conv => rhs; rw [← List.map_id l]
    apply List.map_congr_left
    intro x _
    simp
  rw [e]
  simp [S]
end Go.Proofs.YtalofhnjlmgloaaDoor
