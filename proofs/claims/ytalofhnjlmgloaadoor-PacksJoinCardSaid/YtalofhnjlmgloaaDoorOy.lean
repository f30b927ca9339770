/- A list of texts that came in, as a list. -/
import Derived.Test.YtalofhnjlmgloaaDoorOt
import Derived.Test.YtalofhnjlmgloaaDoorTx
namespace Go.Proofs.YtalofhnjlmgloaaDoor
open Go.RowKit

def listOf (n : Nat) (g : Nat → List UInt8) : List (List UInt8) := (List.range n).map g
theorem listOf_length (n : Nat) (g : Nat → List UInt8) : (listOf n g).length = n := by simp [listOf]
theorem listOf_small {w : World} {a : Option Addr} {len : Nat} {g : Nat → List UInt8} (h : IsTexts w a len g) : ∀ s ∈ listOf len g, s.length ≤ 140737488351232 := fun s hs => by
  unfold listOf at hs
  simp only [List.mem_map, List.mem_range] at hs
  obtain ⟨i, hi, rfl⟩ := hs
  exact h.small i hi
theorem texts_at {w : World} {a : Option Addr} {len cap : Nat} {g : Nat → List UInt8} (h : IsTexts w a len g) : TextsAt w (.slice a len cap) (listOf len g) := by
  refine ⟨a, cap, by rw [listOf_length], fun i s hi => ?_⟩
  have hl : i < len := by have := (List.getElem?_eq_some_iff.1 hi).1; rwa [listOf_length] at this
  obtain ⟨b, off, rfl, hc⟩ := h.at0 (by omega)
  refine ⟨b, off, rfl, ?_⟩
  rw [hc i hl]
  unfold listOf at hi
  rw [List.getElem?_map, List.getElem?_range hl] at hi
  simp at hi
  subst hi
  rfl
end Go.Proofs.YtalofhnjlmgloaaDoor
