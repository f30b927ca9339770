/- Laws on cells, and on a text's parts, that the contracts of frames want. -/
import Derived.Test.YtalofhnjlmgloaaDoorFa
namespace Go.Proofs.YtalofhnjlmgloaaDoor
open Go.RowKit Go.Shelf
attribute [local go_sem] Oper.semAt_some

theorem cell_one (W : World) (v : Value) (t : TypeId) : (W.alloc (.cells #[v] t)).cell? ⟨W.heap.size, 0, none⟩ = some v ∧ (W.alloc (.cells #[v] t)).frozen? ⟨W.heap.size, 0, none⟩ = false :=
  ⟨by rw [cell_of_row _ _ _ _ _ _ (World.alloc_heap_new W _)]; rfl, frozen_of_row _ _ _ _ _ (World.alloc_heap_new W _)⟩
theorem cell_more {W : World} {a : Addr} {v : Value} (o : Obj) (h : W.cell? a = some v) : (W.alloc o).cell? a = some v := cell_kept h (World.grownBy_alloc W o none) (fun r e => by cases e)
theorem frozen_more {W : World} {a : Addr} {v : Value} (o : Obj) (h : W.cell? a = some v) (hf : W.frozen? a = false) : (W.alloc o).frozen? a = false := (frozen_kept h (World.grownBy_alloc W o none) (fun r e => by cases e)).trans hf
theorem block_kept {W W' : World} {row : Option Nat} {b : Nat} {cs : Array Value} {t : TypeId} {fr : Nat × Nat} (h : W.heap[b]? = some (.cells cs t fr)) (hg : W.grownBy W' row) (hrow : ∀ r, row = some r → ∃ o : Obj, W.heap[r]? = some o ∧ o.isCells = false) : W'.heap[b]? = some (.cells cs t fr) :=
  (grownBy_keeps_cells hg hrow h rfl).trans h
theorem part_size (t : List UInt8) (z : Nat) (j : Fin 4) (ht : t.length = 4 * z) : (S (cut t (z * j.val) z)).size = z := by
  rw [S_size, cut_length]
  have := j.isLt
  have : z * j.val + z ≤ z * 4 := by
    rw [← Nat.mul_succ]; exact Nat.mul_le_mul_left z (by omega)
  omega
theorem part_last (t : List UInt8) (j : Fin 4) (h : 31 < (S (cut t (32 * j.val) 32)).size) : markB t j.val = decide ((((S (cut t (32 * j.val) 32))[31]'h).toNat : Int) = 165) := by
  unfold markB
  have h1 : (cut t (32 * j.val) 32)[31]? = t[32 * j.val + 31]? := by rw [cut_get, if_pos (by omega)]
  have hl : 31 < (cut t (32 * j.val) 32).length := by rw [S_size] at h; exact h
  rw [← h1, List.getElem?_eq_getElem hl]
  have e : ((S (cut t (32 * j.val) 32))[31]'h) = (cut t (32 * j.val) 32)[31] := rfl
  generalize ((S (cut t (32 * j.val) 32))[31]'h) = X at e
  rw [e, Bool.eq_iff_iff]
  simp only [beq_iff_eq, Option.some.injEq, decide_eq_true_eq]
  constructor
  · intro h; rw [h]; rfl
  · intro h; apply UInt8.toNat_inj.1; show _ = 165; omega
end Go.Proofs.YtalofhnjlmgloaaDoor
