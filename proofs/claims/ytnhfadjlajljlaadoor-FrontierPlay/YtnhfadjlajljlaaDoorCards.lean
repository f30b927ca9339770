/-
  DERIVED. GIVEN WITH THE SEED: THE CARDS: each row of YtnhfadjlajljlaaDoorRows.lean that lists a variable, with what it lists TIED to the program's text (the seventh form; the later family's looks); each row that meets fmt, with fmt's text TOLD by the authors' own Lean function (tested against real Go, not proved from fmt's source: count such statements apart). THE CARD IS WHAT COUNTS. Prove the row's statement (the work); the ties are given (YtnhfadjlajljlaaDoorTie.lean); close each card by the builder's one call (the guide's Derived/Test/ToyasCard.lean, 'card_holds'). Laid BY PROGRAM, IN A SANDBOX (cutbox-door.mjs). By AI agents, Wed Nov 11 2026. No macro, syntax, notation, axiom, sorry.
-/
import Derived.Test.YtnhfadjlajljlaaDoorRows
import GoSem.ClaimSeven
namespace Go.Proofs.YtnhfadjlajljlaaDoor
namespace Rows

/-- THE TIED CARD OF 'sealingwaxlaw10.FrontierPlay'. -/
def frontierPlayCard : Claim7 := { stood := { row := frontierPlayRow, standIns := [], harness := (true, "166e6d5b09948f371b77f337022ebaedddd5719c9a77c5d70c13782a77567c45"), looks := false }, kinds := [], alts := [], laidByText := true, laidKinds := [.data, .data, .data, .data, .data], laidTests := true, laidLooks := .later }
def FrontierPlayCardSaid : Prop := Claim7.holds Tryd.pinned (.plain (OpenSpec.ofChange frontierPlaySpec)) frontierPlayCard

/-- THE TIED CARD OF 'sealingwaxlaw10.FrontierNone'. -/
def frontierNoneCard : Claim7 := { stood := { row := frontierNoneRow, standIns := [], harness := (true, "166e6d5b09948f371b77f337022ebaedddd5719c9a77c5d70c13782a77567c45"), looks := false }, kinds := [], alts := [], laidByText := true, laidKinds := [.data, .data, .data, .data], laidTests := true, laidLooks := .later }
def FrontierNoneCardSaid : Prop := Claim7.holds Tryd.pinned (.plain (OpenSpec.ofChange frontierNoneSpec)) frontierNoneCard

/-- THE TIED CARD OF 'sealingwaxlaw10.FrontierRoot'. -/
def frontierRootCard : Claim7 := { stood := { row := frontierRootRow, standIns := [], harness := (true, "166e6d5b09948f371b77f337022ebaedddd5719c9a77c5d70c13782a77567c45"), looks := false }, kinds := [], alts := [], laidByText := true, laidKinds := [.data, .data, .data, .data], laidTests := true, laidLooks := .later }
def FrontierRootCardSaid : Prop := Claim7.holds Tryd.pinned (.plain (OpenSpec.ofChange frontierRootSpec)) frontierRootCard

/-- THE TIED CARD OF 'sealingwaxlaw10.FrontierOn'. -/
def frontierOnCard : Claim7 := { stood := { row := frontierOnRow, standIns := [], harness := (true, "166e6d5b09948f371b77f337022ebaedddd5719c9a77c5d70c13782a77567c45"), looks := false }, kinds := [], alts := [], laidByText := true, laidKinds := [.data, .data, .data, .data], laidTests := true, laidLooks := .later }
def FrontierOnCardSaid : Prop := Claim7.holds Tryd.pinned (.plain (OpenSpec.ofChange frontierOnSpec)) frontierOnCard

/-- THE TIED CARD OF 'sealingwaxlaw10.FrontierFull'. -/
def frontierFullCard : Claim7 := { stood := { row := frontierFullRow, standIns := [], harness := (true, "166e6d5b09948f371b77f337022ebaedddd5719c9a77c5d70c13782a77567c45"), looks := false }, kinds := [], alts := [], laidByText := true, laidKinds := [.data, .data, .data, .data], laidTests := true, laidLooks := .later }
def FrontierFullCardSaid : Prop := Claim7.holds Tryd.pinned (.plain (OpenSpec.ofChange frontierFullSpec)) frontierFullCard

/-- THE SECOND FORM's CARD OF 'sealingwaxlaw10.FrontierPlay'. -/
def frontierPlayUptoCard : Claim7 := { stood := { row := frontierPlayUptoRow, standIns := [], harness := (true, "166e6d5b09948f371b77f337022ebaedddd5719c9a77c5d70c13782a77567c45"), looks := false }, kinds := [], alts := [], laidByText := true, laidKinds := [.data, .data, .data, .data, .data], laidTests := true, laidLooks := .later }
def FrontierPlayUptoCardSaid : Prop := Claim7.holds Tryd.pinned (.plain (OpenSpec.upto frontierPlaySpec)) frontierPlayUptoCard

/-- THE SECOND FORM's CARD OF 'sealingwaxlaw10.FrontierNone'. -/
def frontierNoneUptoCard : Claim7 := { stood := { row := frontierNoneUptoRow, standIns := [], harness := (true, "166e6d5b09948f371b77f337022ebaedddd5719c9a77c5d70c13782a77567c45"), looks := false }, kinds := [], alts := [], laidByText := true, laidKinds := [.data, .data, .data, .data], laidTests := true, laidLooks := .later }
def FrontierNoneUptoCardSaid : Prop := Claim7.holds Tryd.pinned (.plain (OpenSpec.upto frontierNoneSpec)) frontierNoneUptoCard

/-- THE SECOND FORM's CARD OF 'sealingwaxlaw10.FrontierRoot'. -/
def frontierRootUptoCard : Claim7 := { stood := { row := frontierRootUptoRow, standIns := [], harness := (true, "166e6d5b09948f371b77f337022ebaedddd5719c9a77c5d70c13782a77567c45"), looks := false }, kinds := [], alts := [], laidByText := true, laidKinds := [.data, .data, .data, .data], laidTests := true, laidLooks := .later }
def FrontierRootUptoCardSaid : Prop := Claim7.holds Tryd.pinned (.plain (OpenSpec.upto frontierRootSpec)) frontierRootUptoCard

/-- THE SECOND FORM's CARD OF 'sealingwaxlaw10.FrontierOn'. -/
def frontierOnUptoCard : Claim7 := { stood := { row := frontierOnUptoRow, standIns := [], harness := (true, "166e6d5b09948f371b77f337022ebaedddd5719c9a77c5d70c13782a77567c45"), looks := false }, kinds := [], alts := [], laidByText := true, laidKinds := [.data, .data, .data, .data], laidTests := true, laidLooks := .later }
def FrontierOnUptoCardSaid : Prop := Claim7.holds Tryd.pinned (.plain (OpenSpec.upto frontierOnSpec)) frontierOnUptoCard

/-- THE SECOND FORM's CARD OF 'sealingwaxlaw10.FrontierFull'. -/
def frontierFullUptoCard : Claim7 := { stood := { row := frontierFullUptoRow, standIns := [], harness := (true, "166e6d5b09948f371b77f337022ebaedddd5719c9a77c5d70c13782a77567c45"), looks := false }, kinds := [], alts := [], laidByText := true, laidKinds := [.data, .data, .data, .data], laidTests := true, laidLooks := .later }
def FrontierFullUptoCardSaid : Prop := Claim7.holds Tryd.pinned (.plain (OpenSpec.upto frontierFullSpec)) frontierFullUptoCard
end Rows
end Go.Proofs.YtnhfadjlajljlaaDoor
