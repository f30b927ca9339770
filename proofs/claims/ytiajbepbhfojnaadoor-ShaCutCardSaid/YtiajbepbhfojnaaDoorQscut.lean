/- The law ShaCut for every argument. -/
import Derived.Test.YtiajbepbhfojnaaDoorPscut
import Derived.Test.YtiajbepbhfojnaaDoorOv
namespace Go.Proofs.YtiajbepbhfojnaaDoor
open Go.RowKit

theorem scut_long (s : ByteArray) (ao : Option Addr) (len cap : Nat) (w : World) (h : 3000 < s.size) :
    Calls Tryd.prog 5 #[.string s, .slice ao len cap] w fun e w' => e = .returned (.bool true) ∧ Below w.heap.size w w' := by
  have h1 : (3000 : Int) < (s.size : Int) := by omega
  go_enter Tryd.func5, Tryd.ntmps5
  go_wp2
  go_ret
  exact ⟨rfl, Below.refl _ _⟩
theorem scut_many (s : ByteArray) (ao : Option Addr) (len cap : Nat) (w : World) (h0 : s.size ≤ 3000) (h : 20 < len) :
    Calls Tryd.prog 5 #[.string s, .slice ao len cap] w fun e w' => e = .returned (.bool true) ∧ Below w.heap.size w w' := by
  have h1 : ¬ (3000 : Int) < (s.size : Int) := by omega
  have h2 : (20 : Int) < (len : Int) := by omega
  go_enter Tryd.func5, Tryd.ntmps5
  go_wp2
  go_ret
  exact ⟨rfl, Below.refl _ _⟩
theorem scut_law (s : ByteArray) (ao : Option Addr) (len cap : Nat) (f : Nat → Int) (w : World) (hK : TabK w) (hc : IsU16s w ao len f) :
    Calls Tryd.prog 5 #[.string s, .slice ao len cap] w fun e w' => e = .returned (.bool true) ∧ Below w.heap.size w w' := by
  by_cases h0 : 3000 < s.size
  · exact scut_long s ao len cap w h0
  by_cases h1 : 20 < len
  · exact scut_many s ao len cap w (by omega) h1
  rw [← S_data s]
  have hl : s.data.toList.length ≤ 3000 := by
    have : s.data.toList.length = s.size := rfl
    omega
  by_cases hz : 0 < len
  · obtain ⟨b, off, rfl, hcell⟩ := hc.at0 hz
    exact scut_walk s.data.toList b off len cap f w hK hl (by omega) hcell hc.small _ (fun _ => rfl)
  · exact scut_walk s.data.toList 0 0 len cap f w hK hl (by omega) (fun i hi => by omega) hc.small ao (fun h => absurd h hz)
end Go.Proofs.YtiajbepbhfojnaaDoor
