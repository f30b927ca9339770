/- packs.Count; a packer in memory, and what add makes of it. -/
import Derived.Test.YtalofhnjlmgloaaDoorFg
import Derived.Test.YtalofhnjlmgloaaDoorTx
import Derived.Test.YtalofhnjlmgloaaDoorPm6
import Derived.Deep.RegionHeld3
namespace Go.Proofs.YtalofhnjlmgloaaDoor
open Go.RowKit

theorem count_any (n : Int) (w : World) (h0 : -9223372036854775808 ≤ n) (h1 : n < 9223372036854775808) :
    Calls Tryd.prog 12 #[.int .i64 n] w fun e w' => e = .returned (.int .i64 (cntI n)) ∧ w' = w := by
  by_cases hn : n < 0
  · have he : cntI n = 0 := by unfold cntI; rw [if_pos hn]
    rw [he]
    clear he
    go_enter Tryd.func12, Tryd.ntmps12
    go_wp2
    go_ret
    exact ⟨rfl, rfl⟩
  · by_cases hz : n = 0
    · subst hz
      go_enter Tryd.func12, Tryd.ntmps12
      go_wp2
      go_ret
      exact ⟨rfl, rfl⟩
    · have he : Hid (cntI n = (n - 1) / 112 + 1) := by
        show _ = _
        unfold cntI cntN
        rw [if_neg hn, if_neg (by omega)]
        omega
      have h2 : 0 ≤ n - 1 := by omega
      have h3 : 0 ≤ (n - 1) / 112 := by omega
      have h4 : (n - 1) / 112 ≤ 82351536043346213 := by omega
      have hz2 : (n == 0) = false := by simpa using hz
      clear hz
      go_enter Tryd.func12, Tryd.ntmps12
      go_wp2
      go_ret
      exact ⟨by rw [he.out]; rfl, rfl⟩
end Go.Proofs.YtalofhnjlmgloaaDoor
