/-
  DERIVED. GIVEN WITH THE SEED: THE CARDS: each row of YtalofhnjlmgloabDoorRows.lean that lists a variable, with what it lists TIED to the program's text (the seventh form; the later family's looks); each row that meets fmt, with fmt's text TOLD by the authors' own Lean function (tested against real Go, not proved from fmt's source: count such statements apart). THE CARD IS WHAT COUNTS. Prove the row's statement (the work); the ties are given (YtalofhnjlmgloabDoorTie.lean); close each card by the builder's one call (the guide's Derived/Test/ToyasCard.lean, 'card_holds'). Laid BY PROGRAM, IN A SANDBOX (cutbox-door.mjs). By AI agents, Wed Nov 11 2026. No macro, syntax, notation, axiom, sorry.
-/
import Derived.Test.YtalofhnjlmgloabDoorRows
import GoSem.ClaimSeven
namespace Go.Proofs.YtalofhnjlmgloabDoor
namespace Rows

/-- THE TIED CARD OF 'sealingwaxlaw06.PacksParts'. -/
def packsPartsCard : Claim7 := { stood := { row := packsPartsRow, standIns := [], harness := (true, "81b74e5438cbb24831b0ffa7611205d90add14ee2a9596ddae1cf1a5772bd48b"), looks := false }, kinds := [], alts := [], laidByText := true, laidKinds := [.data, .data], laidTests := true, laidLooks := .later }
def PacksPartsCardSaid : Prop := Claim7.holds Tryd.pinned (.plain (OpenSpec.ofChange packsPartsSpec)) packsPartsCard

/-- THE TIED CARD OF 'sealingwaxlaw06.PacksMixed'. -/
def packsMixedCard : Claim7 := { stood := { row := packsMixedRow, standIns := [], harness := (true, "81b74e5438cbb24831b0ffa7611205d90add14ee2a9596ddae1cf1a5772bd48b"), looks := false }, kinds := [], alts := [], laidByText := true, laidKinds := [.data, .data], laidTests := true, laidLooks := .later }
def PacksMixedCardSaid : Prop := Claim7.holds Tryd.pinned (.plain (OpenSpec.ofChange packsMixedSpec)) packsMixedCard

/-- THE SECOND FORM's CARD OF 'sealingwaxlaw06.PacksParts'. -/
def packsPartsUptoCard : Claim7 := { stood := { row := packsPartsUptoRow, standIns := [], harness := (true, "81b74e5438cbb24831b0ffa7611205d90add14ee2a9596ddae1cf1a5772bd48b"), looks := false }, kinds := [], alts := [], laidByText := true, laidKinds := [.data, .data], laidTests := true, laidLooks := .later }
def PacksPartsUptoCardSaid : Prop := Claim7.holds Tryd.pinned (.plain (OpenSpec.upto packsPartsSpec)) packsPartsUptoCard

/-- THE SECOND FORM's CARD OF 'sealingwaxlaw06.PacksMixed'. -/
def packsMixedUptoCard : Claim7 := { stood := { row := packsMixedUptoRow, standIns := [], harness := (true, "81b74e5438cbb24831b0ffa7611205d90add14ee2a9596ddae1cf1a5772bd48b"), looks := false }, kinds := [], alts := [], laidByText := true, laidKinds := [.data, .data], laidTests := true, laidLooks := .later }
def PacksMixedUptoCardSaid : Prop := Claim7.holds Tryd.pinned (.plain (OpenSpec.upto packsMixedSpec)) packsMixedUptoCard
end Rows
end Go.Proofs.YtalofhnjlmgloabDoor
