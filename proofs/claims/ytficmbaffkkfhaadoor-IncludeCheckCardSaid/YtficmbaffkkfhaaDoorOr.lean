/- The document's table of the rounds' words as the rows list it. -/
import Derived.Test.YtficmbaffkkfhaaDoorWo
import Derived.Test.YtficmbaffkkfhaaDoorTd
import Derived.Stop.LaidErr
namespace Go.Proofs.YtficmbaffkkfhaaDoor
open Go.ChangeShapes Go.WideShapes Go.ChangeAt Go.RowKit

theorem gKr : Tryd.prog.globalNamed "sealingwax/sealingwaxref02.k" = some 1 := by kernel_rfl
theorem tabR {W : World} (h : Lib.TabIs Tryd.prog W "sealingwax/sealingwaxref02.k" .u32 kInts) : TabR W := by
  unfold Lib.TabIs World.var? at h
  rw [gKr, kInts_cells] at h
  simp only [Option.bind_some] at h
  split at h
  · rename_i cs t fr hh
    obtain rfl := Option.some.inj h
    exact ⟨t, fr, hh⟩
  · cases h
end Go.Proofs.YtficmbaffkkfhaaDoor
