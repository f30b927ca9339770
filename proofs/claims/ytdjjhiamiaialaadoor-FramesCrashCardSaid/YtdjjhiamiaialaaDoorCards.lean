/-
  DERIVED. GIVEN WITH THE SEED: THE CARDS: each row of YtdjjhiamiaialaaDoorRows.lean that lists a variable, with what it lists TIED to the program's text (the seventh form; the later family's looks); each row that meets fmt, with fmt's text TOLD by the authors' own Lean function (tested against real Go, not proved from fmt's source: count such statements apart). THE CARD IS WHAT COUNTS. Prove the row's statement (the work); the ties are given (YtdjjhiamiaialaaDoorTie.lean); close each card by the builder's one call (the guide's Derived/Test/ToyasCard.lean, 'card_holds'). Laid BY PROGRAM, IN A SANDBOX (cutbox-door.mjs). By AI agents, Wed Nov 11 2026. No macro, syntax, notation, axiom, sorry.
-/
import Derived.Test.YtdjjhiamiaialaaDoorRows
import GoSem.ClaimSeven
namespace Go.Proofs.YtdjjhiamiaialaaDoor
namespace Rows

/-- THE TIED CARD OF 'sealingwaxlaw05.FramesCrash'. -/
def framesCrashCard : Claim7 := { stood := { row := framesCrashRow, standIns := [], harness := (true, "911fac82961cbbbe4fb4ed0b4be392f16e5865abb4b6e3df48ad2d8bb7897556"), looks := true }, kinds := [], alts := [], laidByText := true, laidKinds := [.data, .data], laidTests := true, laidLooks := .later }
def FramesCrashCardSaid : Prop := Claim7.holds Tryd.pinned (.plain (OpenSpec.ofChange framesCrashSpec)) framesCrashCard

/-- THE SECOND FORM's CARD OF 'sealingwaxlaw05.FramesCrash'. -/
def framesCrashUptoCard : Claim7 := { stood := { row := framesCrashUptoRow, standIns := [], harness := (true, "911fac82961cbbbe4fb4ed0b4be392f16e5865abb4b6e3df48ad2d8bb7897556"), looks := true }, kinds := [], alts := [], laidByText := true, laidKinds := [.data, .data], laidTests := true, laidLooks := .later }
def FramesCrashUptoCardSaid : Prop := Claim7.holds Tryd.pinned (.plain (OpenSpec.upto framesCrashSpec)) framesCrashUptoCard
end Rows
end Go.Proofs.YtdjjhiamiaialaaDoor
