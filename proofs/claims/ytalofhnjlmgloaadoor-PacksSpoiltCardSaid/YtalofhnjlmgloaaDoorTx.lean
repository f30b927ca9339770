/- Lists of texts in memory. -/
import Derived.Test.YtalofhnjlmgloaaDoorBt
import Derived.Test.YtalofhnjlmgloaaDoorLx
import Derived.BigQuiet
import Derived.Deep.QuietTactic
import Derived.Laws.AppendOwn
namespace Go.Proofs.YtalofhnjlmgloaaDoor
open Go.RowKit

/-- Texts that a slice holds. -/
def TextsAt (w : World) (v : Value) (l : List (List UInt8)) : Prop := ∃ a c, v = .slice a l.length c ∧ ∀ i s, l[i]? = some s → ∃ b o, a = some ⟨b, o, none⟩ ∧ w.cell? ⟨b, o + i, none⟩ = some (.string (S s))
theorem TextsAt.below {w w' : World} {v : Value} {l : List (List UInt8)} (h : TextsAt w v l) (hb : Below w.heap.size w w') : TextsAt w' v l := by
  obtain ⟨a, c, e, hh⟩ := h
  refine ⟨a, c, e, fun i s hi => ?_⟩
  obtain ⟨b, o, ea, hc⟩ := hh i s hi
  exact ⟨b, o, ea, by rw [World.cell?_of_block (hb.block b (World.block_lt_of_cell? w _ hc))]; exact hc⟩
def sv (l : List (List UInt8)) : List Value := l.map fun s => .string (S s)
theorem one_news {w : World} {A : ByteArray} : ∀ j u, [Value.string A][j]? = some u → (w.alloc (.cells #[.string A] 9)).cell? ((⟨w.heap.size, 0, none⟩ : Addr).add j) = some u := fun j u hj => by
  have hj0 : j = 0 := by have := (List.getElem?_eq_some_iff.1 hj).1; simpa using this
  subst hj0
  obtain rfl : Value.string A = u := by simpa using hj
  rw [Addr.add_mid, cell_of_row _ _ _ _ _ _ (heap_alloc_last w _)]
  rfl
theorem one_cells {A : ByteArray} : ∀ u ∈ [Value.string A], u.oneCell' = true := fun u hu => by
  obtain rfl : u = .string A := by simpa using hu
  rfl
theorem info_string : ∃ i, Tryd.prog.info? 9 = some i ∧ i.zero = some (.string ⟨#[]⟩) ∧ i.size = 1 ∧ i.bytes = 16 := by
  have h : (Tryd.prog.info? 9).map (fun i => (i.zero, i.size, i.bytes)) = some (some (.string ⟨#[]⟩), 1, 16) := by kernel_rfl
  cases hq : Tryd.prog.info? 9 with
  | none => rw [hq] at h; cases h
  | some i =>
    rw [hq] at h
    simp at h
    exact ⟨i, rfl, h.1, h.2.1, h.2.2⟩
theorem texts_of_owns {w : World} {B : Nat} {v : Value} {l : List (List UInt8)} (h : w.ownsRow B 9 1 v l.length (sv l)) : TextsAt w v l ∧ ∀ i, v.ownBlock = some i → B ≤ i ∧ i < w.heap.size := by
  refine ⟨?_, fun i hi => World.ownsRow.lt h i hi⟩
  rcases h.2 with ⟨h1, h2⟩ | ⟨g, cap, cur, h1, _, hg, _, _, _, htk⟩
  · refine ⟨none, 0, by rw [h1, h2], fun i n hi => ?_⟩
    have := (List.getElem?_eq_some_iff.1 hi).1
    omega
  · refine ⟨_, _, h1, fun i n hi => ⟨g, 0, rfl, ?_⟩⟩
    have hl := (List.getElem?_eq_some_iff.1 hi).1
    have e : (sv l)[i]? = some (.string (S n)) := by unfold sv; rw [List.getElem?_map, hi]; rfl
    rw [cell_of_row _ _ _ _ _ _ hg, Nat.zero_add, ← Array.getElem?_toList]
    rw [← htk, List.getElem?_take] at e
    simpa [hl] using e
theorem TextsAt.cellOf {w : World} {a : Option Addr} {n c : Nat} {l : List (List UInt8)} (h : TextsAt w (.slice a n c) l) : n = l.length ∧ ∀ i x, l[i]? = some x → ∃ b o, a = some ⟨b, o, none⟩ ∧ ∀ w', Below w.heap.size w w' → w'.cell? ⟨b, o + i, none⟩ = some (.string (S x)) := by
  obtain ⟨a', c', e, h⟩ := h
  simp at e
  obtain ⟨rfl, rfl, rfl⟩ := e
  refine ⟨rfl, fun i x hi => ?_⟩
  obtain ⟨b, o, rfl, hc⟩ := h i x hi
  refine ⟨b, o, rfl, fun w' hb => ?_⟩
  have hlt := World.block_lt_of_cell? w _ hc
  rw [World.cell?_of_block (hb.block b hlt)]
  exact hc
end Go.Proofs.YtalofhnjlmgloaaDoor
