/- The law's kindOf and Great (layer 6). -/
import Derived.Test.YtalofhnjlmgloaaDoorNg
namespace Go.Proofs.YtalofhnjlmgloaaDoor
open Go.RowKit

/-- A kind that may be, by a number. -/
def kndN (q : Int) : Int := if q % 3 = 0 then 68 else if q % 3 = 1 then 80 else 83
theorem knd_may (q : Int) : kindB (kndN q) = true := by
  unfold kndN; split
  · rfl
  · split <;> rfl
theorem kind_any (q : Int) (w : World) (h0 : 0 ≤ q) (h1 : q ≤ 255) :
    Calls Tryd.prog 18 #[.int .u8 q] w fun e w' => e = .returned (.int .u8 (kndN q)) ∧ w' = w := by
  have hq : q % 3 = 0 ∨ q % 3 = 1 ∨ q % 3 = 2 := by omega
  unfold kndN
  rcases hq with hq | hq | hq
  all_goals
    rw [hq]
    go_enter Tryd.func18, Tryd.ntmps18
    go_wp2
    go_ret
    exact ⟨rfl, rfl⟩
end Go.Proofs.YtalofhnjlmgloaaDoor
