/-
  DERIVED. GIVEN WITH THE SEED: THE CARDS: each row of YtcbmcbcpclgciabDoorRows.lean that lists a variable, with what it lists TIED to the program's text (the seventh form; the later family's looks); each row that meets fmt, with fmt's text TOLD by the authors' own Lean function (tested against real Go, not proved from fmt's source: count such statements apart). THE CARD IS WHAT COUNTS. Prove the row's statement (the work); the ties are given (YtcbmcbcpclgciabDoorTie.lean); close each card by the builder's one call (the guide's Derived/Test/ToyasCard.lean, 'card_holds'). Laid BY PROGRAM, IN A SANDBOX (cutbox-door.mjs). By AI agents, Wed Nov 11 2026. No macro, syntax, notation, axiom, sorry.
-/
import Derived.Test.YtcbmcbcpclgciabDoorRows
import GoSem.ClaimSeven
namespace Go.Proofs.YtcbmcbcpclgciabDoor
namespace Rows

/-- THE TIED CARD OF 'sealingwaxlaw05.FramesMarks'. -/
def framesMarksCard : Claim7 := { stood := { row := framesMarksRow, standIns := [], harness := (true, "b647d954833ac99d25ceae20920069c29a6fc30289ca5d875d8debf4c83a2085"), looks := false }, kinds := [], alts := [], laidByText := true, laidKinds := [.data, .data], laidTests := true, laidLooks := .later }
def FramesMarksCardSaid : Prop := Claim7.holds Tryd.pinned (.plain (OpenSpec.ofChange framesMarksSpec)) framesMarksCard

/-- THE TIED CARD OF 'sealingwaxlaw05.FramesEach'. -/
def framesEachCard : Claim7 := { stood := { row := framesEachRow, standIns := [], harness := (true, "b647d954833ac99d25ceae20920069c29a6fc30289ca5d875d8debf4c83a2085"), looks := false }, kinds := [], alts := [], laidByText := true, laidKinds := [.data, .data], laidTests := true, laidLooks := .later }
def FramesEachCardSaid : Prop := Claim7.holds Tryd.pinned (.plain (OpenSpec.ofChange framesEachSpec)) framesEachCard

/-- THE SECOND FORM's CARD OF 'sealingwaxlaw05.FramesMarks'. -/
def framesMarksUptoCard : Claim7 := { stood := { row := framesMarksUptoRow, standIns := [], harness := (true, "b647d954833ac99d25ceae20920069c29a6fc30289ca5d875d8debf4c83a2085"), looks := false }, kinds := [], alts := [], laidByText := true, laidKinds := [.data, .data], laidTests := true, laidLooks := .later }
def FramesMarksUptoCardSaid : Prop := Claim7.holds Tryd.pinned (.plain (OpenSpec.upto framesMarksSpec)) framesMarksUptoCard

/-- THE SECOND FORM's CARD OF 'sealingwaxlaw05.FramesEach'. -/
def framesEachUptoCard : Claim7 := { stood := { row := framesEachUptoRow, standIns := [], harness := (true, "b647d954833ac99d25ceae20920069c29a6fc30289ca5d875d8debf4c83a2085"), looks := false }, kinds := [], alts := [], laidByText := true, laidKinds := [.data, .data], laidTests := true, laidLooks := .later }
def FramesEachUptoCardSaid : Prop := Claim7.holds Tryd.pinned (.plain (OpenSpec.upto framesEachSpec)) framesEachUptoCard
end Rows
end Go.Proofs.YtcbmcbcpclgciabDoor
