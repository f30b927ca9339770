/- Laws on a heap's blocks behind a store. -/
import Derived.WalkKit
namespace Go.Proofs.YtficmbaffkkfhabDoor
open Go.RowKit

theorem heap_set_same {w : World} {b o : Nat} {v : Value} {cs : Array Value} {t : TypeId} {fr : Nat × Nat} (h : w.heap[b]? = some (.cells cs t fr)) : (w.setCell ⟨b, o, none⟩ v).heap[b]? = some (.cells (cs.setIfInBounds o v) t fr) := by
  simp [World.setCell, Array.getElem?_modify, h]
theorem heap_set_size (w : World) (a : Addr) (v : Value) : (w.setCell a v).heap.size = w.heap.size := by simp [World.setCell]

theorem cell_set_ne {w : World} {b t a : Nat} {v : Value} (h : ¬ a = t) : (w.setCell ⟨b, t, none⟩ v).cell? ⟨b, a, none⟩ = w.cell? ⟨b, a, none⟩ := by
  cases hb : w.heap[b]? with
  | none =>
    have hb' : (w.setCell ⟨b, t, none⟩ v).heap[b]? = none := by simp [World.setCell, Array.getElem?_modify, hb]
    simp [World.cell?, hb, hb']
  | some o =>
    cases o with
    | cells cs e fr =>
      rw [cell_of_row _ _ _ _ _ _ (heap_set_same hb), cell_of_row _ _ _ _ _ _ hb, Array.getElem?_setIfInBounds_ne (fun e => h e.symm)]
    | _ =>
      simp [World.setCell, World.cell?, Array.getElem?_modify, hb]
theorem heap_setRow_same {w : World} {b : Nat} {cs ds : Array Value} {t : TypeId} {fr : Nat × Nat} (h : w.heap[b]? = some (.cells cs t fr)) : (w.setRow b ds).heap[b]? = some (.cells ds t fr) := by
  simp [World.setRow, Array.getElem?_modify, h]
theorem below_setRow {B b : Nat} {a w : World} (h : Below B a w) (hb : B ≤ b) (ds : Array Value) : Below B a (w.setRow b ds) :=
  h.trans ⟨rfl, rfl, rfl, by simp [World.setRow], fun k hk => by simp only [World.setRow, Array.getElem?_modify]; rw [if_neg (by omega)]⟩
theorem heap_setRow_ne {w : World} {b k : Nat} {ds : Array Value} (h : k ≠ b) : (w.setRow b ds).heap[k]? = w.heap[k]? := by
  simp only [World.setRow, Array.getElem?_modify]; rw [if_neg (by omega)]
end Go.Proofs.YtficmbaffkkfhabDoor
