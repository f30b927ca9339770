/-
  DERIVED. GIVEN WITH THE SEED: THE CARDS: each row of YthefmkmgiblngaaDoorRows.lean that lists a variable, with what it lists TIED to the program's text (the seventh form; the later family's looks); each row that meets fmt, with fmt's text TOLD by the authors' own Lean function (tested against real Go, not proved from fmt's source: count such statements apart). THE CARD IS WHAT COUNTS. Prove the row's statement (the work); the ties are given (YthefmkmgiblngaaDoorTie.lean); close each card by the builder's one call (the guide's Derived/Test/ToyasCard.lean, 'card_holds'). Laid BY PROGRAM, IN A SANDBOX (cutbox-door.mjs). By AI agents, Wed Nov 11 2026. No macro, syntax, notation, axiom, sorry.
-/
import Derived.Test.YthefmkmgiblngaaDoorRows
import GoSem.ClaimSeven
namespace Go.Proofs.YthefmkmgiblngaaDoor
namespace Rows

/-- THE TIED CARD OF 'sealingwaxlaw01.WordsPut'. -/
def wordsPutCard : Claim7 := { stood := { row := wordsPutRow, standIns := [], harness := (true, "d0fe44465c19ccb201484d077e502a17acc94df6d034f24b09b14582ad9d9765"), looks := false }, kinds := [], alts := [], laidByText := true, laidKinds := [.data], laidTests := true, laidLooks := .later }
def WordsPutCardSaid : Prop := Claim7.holds Tryd.pinned (.plain (OpenSpec.ofChange wordsPutSpec)) wordsPutCard

/-- THE TIED CARD OF 'sealingwaxlaw01.WordsGet'. -/
def wordsGetCard : Claim7 := { stood := { row := wordsGetRow, standIns := [], harness := (true, "d0fe44465c19ccb201484d077e502a17acc94df6d034f24b09b14582ad9d9765"), looks := false }, kinds := [], alts := [], laidByText := true, laidKinds := [.data], laidTests := true, laidLooks := .later }
def WordsGetCardSaid : Prop := Claim7.holds Tryd.pinned (.plain (OpenSpec.ofChange wordsGetSpec)) wordsGetCard

/-- THE TIED CARD OF 'sealingwaxlaw01.WordsBack'. -/
def wordsBackCard : Claim7 := { stood := { row := wordsBackRow, standIns := [], harness := (true, "d0fe44465c19ccb201484d077e502a17acc94df6d034f24b09b14582ad9d9765"), looks := false }, kinds := [], alts := [], laidByText := true, laidKinds := [.data], laidTests := true, laidLooks := .later }
def WordsBackCardSaid : Prop := Claim7.holds Tryd.pinned (.plain (OpenSpec.ofChange wordsBackSpec)) wordsBackCard

/-- THE TIED CARD OF 'sealingwaxlaw01.WordsWay'. -/
def wordsWayCard : Claim7 := { stood := { row := wordsWayRow, standIns := [], harness := (true, "d0fe44465c19ccb201484d077e502a17acc94df6d034f24b09b14582ad9d9765"), looks := false }, kinds := [], alts := [], laidByText := true, laidKinds := [.data], laidTests := true, laidLooks := .later }
def WordsWayCardSaid : Prop := Claim7.holds Tryd.pinned (.plain (OpenSpec.ofChange wordsWaySpec)) wordsWayCard

/-- THE TIED CARD OF 'sealingwaxlaw01.WordsFit'. -/
def wordsFitCard : Claim7 := { stood := { row := wordsFitRow, standIns := [], harness := (true, "d0fe44465c19ccb201484d077e502a17acc94df6d034f24b09b14582ad9d9765"), looks := false }, kinds := [], alts := [], laidByText := true, laidKinds := [.data], laidTests := true, laidLooks := .later }
def WordsFitCardSaid : Prop := Claim7.holds Tryd.pinned (.plain (OpenSpec.ofChange wordsFitSpec)) wordsFitCard

/-- THE TIED CARD OF 'sealingwaxlaw01.WordsCut'. -/
def wordsCutCard : Claim7 := { stood := { row := wordsCutRow, standIns := [], harness := (true, "d0fe44465c19ccb201484d077e502a17acc94df6d034f24b09b14582ad9d9765"), looks := false }, kinds := [], alts := [], laidByText := true, laidKinds := [.data], laidTests := true, laidLooks := .later }
def WordsCutCardSaid : Prop := Claim7.holds Tryd.pinned (.plain (OpenSpec.ofChange wordsCutSpec)) wordsCutCard

/-- THE SECOND FORM's CARD OF 'sealingwaxlaw01.WordsPut'. -/
def wordsPutUptoCard : Claim7 := { stood := { row := wordsPutUptoRow, standIns := [], harness := (true, "d0fe44465c19ccb201484d077e502a17acc94df6d034f24b09b14582ad9d9765"), looks := false }, kinds := [], alts := [], laidByText := true, laidKinds := [.data], laidTests := true, laidLooks := .later }
def WordsPutUptoCardSaid : Prop := Claim7.holds Tryd.pinned (.plain (OpenSpec.upto wordsPutSpec)) wordsPutUptoCard

/-- THE SECOND FORM's CARD OF 'sealingwaxlaw01.WordsGet'. -/
def wordsGetUptoCard : Claim7 := { stood := { row := wordsGetUptoRow, standIns := [], harness := (true, "d0fe44465c19ccb201484d077e502a17acc94df6d034f24b09b14582ad9d9765"), looks := false }, kinds := [], alts := [], laidByText := true, laidKinds := [.data], laidTests := true, laidLooks := .later }
def WordsGetUptoCardSaid : Prop := Claim7.holds Tryd.pinned (.plain (OpenSpec.upto wordsGetSpec)) wordsGetUptoCard

/-- THE SECOND FORM's CARD OF 'sealingwaxlaw01.WordsBack'. -/
def wordsBackUptoCard : Claim7 := { stood := { row := wordsBackUptoRow, standIns := [], harness := (true, "d0fe44465c19ccb201484d077e502a17acc94df6d034f24b09b14582ad9d9765"), looks := false }, kinds := [], alts := [], laidByText := true, laidKinds := [.data], laidTests := true, laidLooks := .later }
def WordsBackUptoCardSaid : Prop := Claim7.holds Tryd.pinned (.plain (OpenSpec.upto wordsBackSpec)) wordsBackUptoCard

/-- THE SECOND FORM's CARD OF 'sealingwaxlaw01.WordsWay'. -/
def wordsWayUptoCard : Claim7 := { stood := { row := wordsWayUptoRow, standIns := [], harness := (true, "d0fe44465c19ccb201484d077e502a17acc94df6d034f24b09b14582ad9d9765"), looks := false }, kinds := [], alts := [], laidByText := true, laidKinds := [.data], laidTests := true, laidLooks := .later }
def WordsWayUptoCardSaid : Prop := Claim7.holds Tryd.pinned (.plain (OpenSpec.upto wordsWaySpec)) wordsWayUptoCard

/-- THE SECOND FORM's CARD OF 'sealingwaxlaw01.WordsFit'. -/
def wordsFitUptoCard : Claim7 := { stood := { row := wordsFitUptoRow, standIns := [], harness := (true, "d0fe44465c19ccb201484d077e502a17acc94df6d034f24b09b14582ad9d9765"), looks := false }, kinds := [], alts := [], laidByText := true, laidKinds := [.data], laidTests := true, laidLooks := .later }
def WordsFitUptoCardSaid : Prop := Claim7.holds Tryd.pinned (.plain (OpenSpec.upto wordsFitSpec)) wordsFitUptoCard

/-- THE SECOND FORM's CARD OF 'sealingwaxlaw01.WordsCut'. -/
def wordsCutUptoCard : Claim7 := { stood := { row := wordsCutUptoRow, standIns := [], harness := (true, "d0fe44465c19ccb201484d077e502a17acc94df6d034f24b09b14582ad9d9765"), looks := false }, kinds := [], alts := [], laidByText := true, laidKinds := [.data], laidTests := true, laidLooks := .later }
def WordsCutUptoCardSaid : Prop := Claim7.holds Tryd.pinned (.plain (OpenSpec.upto wordsCutSpec)) wordsCutUptoCard
end Rows
end Go.Proofs.YthefmkmgiblngaaDoor
