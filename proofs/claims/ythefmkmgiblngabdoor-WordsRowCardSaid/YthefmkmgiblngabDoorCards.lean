/-
  DERIVED. GIVEN WITH THE SEED: THE CARDS: each row of YthefmkmgiblngabDoorRows.lean that lists a variable, with what it lists TIED to the program's text (the seventh form; the later family's looks); each row that meets fmt, with fmt's text TOLD by the authors' own Lean function (tested against real Go, not proved from fmt's source: count such statements apart). THE CARD IS WHAT COUNTS. Prove the row's statement (the work); the ties are given (YthefmkmgiblngabDoorTie.lean); close each card by the builder's one call (the guide's Derived/Test/ToyasCard.lean, 'card_holds'). Laid BY PROGRAM, IN A SANDBOX (cutbox-door.mjs). By AI agents, Wed Nov 11 2026. No macro, syntax, notation, axiom, sorry.
-/
import Derived.Test.YthefmkmgiblngabDoorRows
import GoSem.ClaimSeven
namespace Go.Proofs.YthefmkmgiblngabDoor
namespace Rows

/-- THE TIED CARD OF 'sealingwaxlaw01.WordsLong'. -/
def wordsLongCard : Claim7 := { stood := { row := wordsLongRow, standIns := [], harness := (true, "9163ffc4386d4963c08dbf4e3f1935b0fe553ffe2de889610121c7ac2e34b5f8"), looks := false }, kinds := [], alts := [], laidByText := true, laidKinds := [.data], laidTests := true, laidLooks := .later }
def WordsLongCardSaid : Prop := Claim7.holds Tryd.pinned (.plain (OpenSpec.ofChange wordsLongSpec)) wordsLongCard

/-- THE TIED CARD OF 'sealingwaxlaw01.WordsRow'. -/
def wordsRowCard : Claim7 := { stood := { row := wordsRowRow, standIns := [], harness := (true, "9163ffc4386d4963c08dbf4e3f1935b0fe553ffe2de889610121c7ac2e34b5f8"), looks := false }, kinds := [], alts := [], laidByText := true, laidKinds := [.data], laidTests := true, laidLooks := .later }
def WordsRowCardSaid : Prop := Claim7.holds Tryd.pinned (.plain (OpenSpec.ofChange wordsRowSpec)) wordsRowCard

/-- THE TIED CARD OF 'sealingwaxlaw01.WordsTexts'. -/
def wordsTextsCard : Claim7 := { stood := { row := wordsTextsRow, standIns := [], harness := (true, "9163ffc4386d4963c08dbf4e3f1935b0fe553ffe2de889610121c7ac2e34b5f8"), looks := false }, kinds := [], alts := [], laidByText := true, laidKinds := [.data], laidTests := true, laidLooks := .later }
def WordsTextsCardSaid : Prop := Claim7.holds Tryd.pinned (.plain (OpenSpec.ofChange wordsTextsSpec)) wordsTextsCard

/-- THE SECOND FORM's CARD OF 'sealingwaxlaw01.WordsLong'. -/
def wordsLongUptoCard : Claim7 := { stood := { row := wordsLongUptoRow, standIns := [], harness := (true, "9163ffc4386d4963c08dbf4e3f1935b0fe553ffe2de889610121c7ac2e34b5f8"), looks := false }, kinds := [], alts := [], laidByText := true, laidKinds := [.data], laidTests := true, laidLooks := .later }
def WordsLongUptoCardSaid : Prop := Claim7.holds Tryd.pinned (.plain (OpenSpec.upto wordsLongSpec)) wordsLongUptoCard

/-- THE SECOND FORM's CARD OF 'sealingwaxlaw01.WordsRow'. -/
def wordsRowUptoCard : Claim7 := { stood := { row := wordsRowUptoRow, standIns := [], harness := (true, "9163ffc4386d4963c08dbf4e3f1935b0fe553ffe2de889610121c7ac2e34b5f8"), looks := false }, kinds := [], alts := [], laidByText := true, laidKinds := [.data], laidTests := true, laidLooks := .later }
def WordsRowUptoCardSaid : Prop := Claim7.holds Tryd.pinned (.plain (OpenSpec.upto wordsRowSpec)) wordsRowUptoCard

/-- THE SECOND FORM's CARD OF 'sealingwaxlaw01.WordsTexts'. -/
def wordsTextsUptoCard : Claim7 := { stood := { row := wordsTextsUptoRow, standIns := [], harness := (true, "9163ffc4386d4963c08dbf4e3f1935b0fe553ffe2de889610121c7ac2e34b5f8"), looks := false }, kinds := [], alts := [], laidByText := true, laidKinds := [.data], laidTests := true, laidLooks := .later }
def WordsTextsUptoCardSaid : Prop := Claim7.holds Tryd.pinned (.plain (OpenSpec.upto wordsTextsSpec)) wordsTextsUptoCard
end Rows
end Go.Proofs.YthefmkmgiblngabDoor
