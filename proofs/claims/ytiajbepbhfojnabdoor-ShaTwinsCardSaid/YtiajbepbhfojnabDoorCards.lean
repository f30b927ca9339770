/-
  DERIVED. GIVEN WITH THE SEED: THE CARDS: each row of YtiajbepbhfojnabDoorRows.lean that lists a variable, with what it lists TIED to the program's text (the seventh form; the later family's looks); each row that meets fmt, with fmt's text TOLD by the authors' own Lean function (tested against real Go, not proved from fmt's source: count such statements apart). THE CARD IS WHAT COUNTS. Prove the row's statement (the work); the ties are given (YtiajbepbhfojnabDoorTie.lean); close each card by the builder's one call (the guide's Derived/Test/ToyasCard.lean, 'card_holds'). Laid BY PROGRAM, IN A SANDBOX (cutbox-door.mjs). By AI agents, Wed Nov 11 2026. No macro, syntax, notation, axiom, sorry.
-/
import Derived.Test.YtiajbepbhfojnabDoorRows
import GoSem.ClaimSeven
namespace Go.Proofs.YtiajbepbhfojnabDoor
namespace Rows

/-- THE TIED CARD OF 'sealingwaxlaw02.ShaTwins'. -/
def shaTwinsCard : Claim7 := { stood := { row := shaTwinsRow, standIns := [], harness := (true, "11be3f6f519e3a3cf17667c1c0478bb831d571b60f8754a913b119fe2cf430e8"), looks := false }, kinds := [], alts := [], laidByText := true, laidKinds := [.data], laidTests := true, laidLooks := .later }
def ShaTwinsCardSaid : Prop := Claim7.holds Tryd.pinned (.plain (OpenSpec.ofChange shaTwinsSpec)) shaTwinsCard

/-- THE SECOND FORM's CARD OF 'sealingwaxlaw02.ShaTwins'. -/
def shaTwinsUptoCard : Claim7 := { stood := { row := shaTwinsUptoRow, standIns := [], harness := (true, "11be3f6f519e3a3cf17667c1c0478bb831d571b60f8754a913b119fe2cf430e8"), looks := false }, kinds := [], alts := [], laidByText := true, laidKinds := [.data], laidTests := true, laidLooks := .later }
def ShaTwinsUptoCardSaid : Prop := Claim7.holds Tryd.pinned (.plain (OpenSpec.upto shaTwinsSpec)) shaTwinsUptoCard
end Rows
end Go.Proofs.YtiajbepbhfojnabDoor
