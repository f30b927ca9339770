/- The table of sizes as the row lists it. -/
import Derived.Test.YtficmbaffkkfhabDoorO0
import Derived.Test.YtficmbaffkkfhabDoorWa0
namespace Go.Proofs.YtficmbaffkkfhabDoor
open Go.ChangeShapes Go.WideShapes Go.ChangeAt Go.RowKit

theorem gTab : Tryd.prog.globalNamed "sealingwax/words.sizes" = some 0 := by kernel_rfl
theorem tab {W : World} (h : Lib.TabIs Tryd.prog W "sealingwax/words.sizes" .i64 [1, 2, 4, 8]) : Tab W := by
  unfold Lib.TabIs World.var? at h
  rw [gTab] at h
  simp only [Option.bind_some] at h
  split at h
  · rename_i cs t fr hh
    obtain rfl := Option.some.inj h
    exact ⟨t, fr, hh⟩
  · cases h
end Go.Proofs.YtficmbaffkkfhabDoor
