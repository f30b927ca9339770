/-
  DERIVED. GIVEN WITH THE SEED: THE CARDS: each row of YtficmbaffkkfhabDoorRows.lean that lists a variable, with what it lists TIED to the program's text (the seventh form; the later family's looks); each row that meets fmt, with fmt's text TOLD by the authors' own Lean function (tested against real Go, not proved from fmt's source: count such statements apart). THE CARD IS WHAT COUNTS. Prove the row's statement (the work); the ties are given (YtficmbaffkkfhabDoorTie.lean); close each card by the builder's one call (the guide's Derived/Test/ToyasCard.lean, 'card_holds'). Laid BY PROGRAM, IN A SANDBOX (cutbox-door.mjs). By AI agents, Wed Nov 11 2026. No macro, syntax, notation, axiom, sorry.
-/
import Derived.Test.YtficmbaffkkfhabDoorRows
import GoSem.ClaimSeven
namespace Go.Proofs.YtficmbaffkkfhabDoor
namespace Rows

/-- THE TIED CARD OF 'sealingwaxlaw11.IncludeWhole'. -/
def includeWholeCard : Claim7 := { stood := { row := includeWholeRow, standIns := [], harness := (true, "0eb0e0555f0b9fd2df710bc495bf28dd1541e3d4b3c6931138901799f97568b5"), looks := false }, kinds := [], alts := [], laidByText := true, laidKinds := [.data, .data], laidTests := true, laidLooks := .later }
def IncludeWholeCardSaid : Prop := Claim7.holds Tryd.pinned (.plain (OpenSpec.ofChange includeWholeSpec)) includeWholeCard

/-- THE SECOND FORM's CARD OF 'sealingwaxlaw11.IncludeWhole'. -/
def includeWholeUptoCard : Claim7 := { stood := { row := includeWholeUptoRow, standIns := [], harness := (true, "0eb0e0555f0b9fd2df710bc495bf28dd1541e3d4b3c6931138901799f97568b5"), looks := false }, kinds := [], alts := [], laidByText := true, laidKinds := [.data, .data], laidTests := true, laidLooks := .later }
def IncludeWholeUptoCardSaid : Prop := Claim7.holds Tryd.pinned (.plain (OpenSpec.upto includeWholeSpec)) includeWholeUptoCard
end Rows
end Go.Proofs.YtficmbaffkkfhabDoor
