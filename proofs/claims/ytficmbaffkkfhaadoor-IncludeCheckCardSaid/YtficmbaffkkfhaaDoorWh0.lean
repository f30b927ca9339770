/- Contract of words.PutHash. -/
import Derived.Test.YtficmbaffkkfhaaDoorW3
import Derived.Test.YtficmbaffkkfhaaDoorW1
import Derived.WalkKit
import Derived.WalkSpells
import Derived.WalkLawsBesides
namespace Go.Proofs.YtficmbaffkkfhaaDoor
open Go.RowKit

theorem cvH (l : List UInt8) (t : TypeId) (c : Nat) (w : World) : (convert 60 9 (.slice (some ⟨w.heap.size, 0, none⟩) l.length c)).run Tryd.prog (w.alloc (.cells (hv l) t)) = .ok (.string (S l)) (w.alloc (.cells (hv l) t)) := by
  rw [run_convert_bytes_string _ _ _ 5 _ _ _ Tryd.underlying60 Tryd.underlying5 Tryd.underlying9]
  have hl := run_loadCells_list (P := Tryd.prog) (w.alloc (.cells (hv l) t)) ⟨w.heap.size, 0, none⟩ ((l.map fun b => (b.toNat : Int)).map (Value.int .u8)) (fun j v hj => by
    have e : (⟨w.heap.size, 0, none⟩ : Addr).add j = ⟨w.heap.size, j, none⟩ := by simp [Addr.add]; omega
    rw [e, World.cell?_alloc_at _ _ _ _ rfl]
    simpa [hv] using hj)
  rw [List.length_map, List.length_map] at hl
  rw [run_bytesToString _ _ _ _ _ hl, foldl_push, List.map_map]
  have e : (l.map ((fun n : Int => UInt8.ofNat n.toNat) ∘ fun b : UInt8 => (b.toNat : Int))) = l := by
    conv => rhs; rw [← List.map_id l]
    apply List.map_congr_left
    intro x _
    simp
  rw [e]
  simp [S]
set_option maxRecDepth 100000 in
/-- PutHash, for every hash. -/
theorem putHash_any (l : List UInt8) (w : World) (hl : l.length = 32) :
    Calls Tryd.prog 31 #[.agg (hv l)] w fun e w' => e = .returned (.string (S l)) ∧ Below w.heap.size w w' := by
  have hc : ∀ w : World, (convert 60 9 (.slice (some ⟨w.heap.size, 0, none⟩) 32 32)).run Tryd.prog (w.alloc (.cells (hv l) 23)) = .ok (.string (S l)) (w.alloc (.cells (hv l) 23)) := fun w => by
    have := cvH l 23 32 w
    rwa [hl] at this
  have hsz : (hv l).size = 32 := by rw [hv_size, hl]
  generalize hv l = C at *
  go_enter Tryd.func31, Tryd.ntmps31
  go_wp2
  go_ret
  exact ⟨rfl, (Below.refl _ _).alloc (Nat.le_refl _) _⟩
end Go.Proofs.YtficmbaffkkfhaaDoor
