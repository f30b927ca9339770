/- The table of sixteen as the rows list it. -/
import Derived.Test.YtalofhnjlmgloaaDoorO0
import Derived.Test.YtalofhnjlmgloaaDoorCa
namespace Go.Proofs.YtalofhnjlmgloaaDoor
open Go.ChangeShapes Go.WideShapes Go.ChangeAt Go.RowKit

abbrev t4Ints : List Int := [0, 498536548, 997073096, 651767980, 1994146192, 1802195444, 1303535960, 1342533948, 3988292384, 4027552580, 3604390888, 3412177804, 2607071920, 2262029012, 2685067896, 3183342108]
abbrev t4Vals : Array Value := #[.int .u32 0, .int .u32 498536548, .int .u32 997073096, .int .u32 651767980, .int .u32 1994146192, .int .u32 1802195444, .int .u32 1303535960, .int .u32 1342533948, .int .u32 3988292384, .int .u32 4027552580, .int .u32 3604390888, .int .u32 3412177804, .int .u32 2607071920, .int .u32 2262029012, .int .u32 2685067896, .int .u32 3183342108]
theorem t4Ints_cells : (t4Ints.map fun z => Value.int .u32 z).toArray = cf 16 t4 := by kernel_rfl
theorem g4 : Tryd.prog.globalNamed "sealingwax/sums.byFour" = some 1 := by kernel_rfl
theorem tab4 {W : World} (h : Lib.TabIs Tryd.prog W "sealingwax/sums.byFour" .u32 t4Ints) : Tab4 W := by
  unfold Lib.TabIs World.var? at h
  rw [g4, t4Ints_cells] at h
  simp only [Option.bind_some] at h
  split at h
  · rename_i cs t fr hh
    obtain rfl := Option.some.inj h
    exact ⟨t, fr, hh⟩
  · cases h
end Go.Proofs.YtalofhnjlmgloaaDoor
