/- The law ShaTwins for every argument. -/
import Derived.Test.YtiajbepbhfojnabDoorPtwins
import Derived.Test.YtiajbepbhfojnabDoorOt
namespace Go.Proofs.YtiajbepbhfojnabDoor
open Go.RowKit

theorem twins_many (ao bo : Option Addr) (la ca lb cb : Nat) (w : World) (h : 20 < la ∨ 20 < lb) :
    Calls Tryd.prog 3 #[.slice ao la ca, .slice bo lb cb] w fun e w' => e = .returned (.bool true) ∧ Below w.heap.size w w' := by
  by_cases h1 : 20 < la
  · have h2 : (20 : Int) < (la : Int) := by omega
    clear h h1
    go_enter Tryd.func3, Tryd.ntmps3
    go_wp2
    go_ret
    exact ⟨rfl, Below.refl _ _⟩
  · have h2 : ¬ (20 : Int) < (la : Int) := by omega
    have h3 : (20 : Int) < (lb : Int) := by omega
    clear h h1
    go_enter Tryd.func3, Tryd.ntmps3
    go_wp2
    go_ret
    exact ⟨rfl, Below.refl _ _⟩
theorem texts_at {w : World} {ao : Option Addr} {len : Nat} {g : Nat → List UInt8} (h : IsTexts w ao len g) : ∃ b off, (0 < len → ao = some ⟨b, off, none⟩) ∧ ∀ i, i < len → w.cell? ⟨b, off + i, none⟩ = some (.string (S (g i))) := by
  by_cases hz : 0 < len
  · obtain ⟨b, off, e, hc⟩ := h.at0 hz
    exact ⟨b, off, fun _ => e, hc⟩
  · exact ⟨0, 0, fun h => absurd h hz, fun i hi => by omega⟩
theorem twins_law (ao bo : Option Addr) (la ca lb cb : Nat) (ga gb : Nat → List UInt8) (w : World) (hK : TabK w) (ha : IsTexts w ao la ga) (hb : IsTexts w bo lb gb) :
    Calls Tryd.prog 3 #[.slice ao la ca, .slice bo lb cb] w fun e w' => e = .returned (.bool true) ∧ Below w.heap.size w w' := by
  by_cases h : 20 < la ∨ 20 < lb
  · exact twins_many ao bo la ca lb cb w h
  · obtain ⟨ba, oa, ea, hca⟩ := texts_at ha
    obtain ⟨bb, ob, eb, hcb⟩ := texts_at hb
    exact twins_walk ba oa la ca bb ob lb cb ga gb w hK (by omega) (by omega) hca hcb ha.small hb.small ao bo ea eb
end Go.Proofs.YtiajbepbhfojnabDoor
