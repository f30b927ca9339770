/-
  DERIVED. GIVEN WITH THE SEED: THE CARDS: each row of YtcbmcbcpclgciaaDoorRows.lean that lists a variable, with what it lists TIED to the program's text (the seventh form; the later family's looks); each row that meets fmt, with fmt's text TOLD by the authors' own Lean function (tested against real Go, not proved from fmt's source: count such statements apart). THE CARD IS WHAT COUNTS. Prove the row's statement (the work); the ties are given (YtcbmcbcpclgciaaDoorTie.lean); close each card by the builder's one call (the guide's Derived/Test/ToyasCard.lean, 'card_holds'). Laid BY PROGRAM, IN A SANDBOX (cutbox-door.mjs). By AI agents, Wed Nov 11 2026. No macro, syntax, notation, axiom, sorry.
-/
import Derived.Test.YtcbmcbcpclgciaaDoorRows
import GoSem.ClaimSeven
namespace Go.Proofs.YtcbmcbcpclgciaaDoor
namespace Rows

/-- THE TIED CARD OF 'sealingwaxlaw05.FramesEncode'. -/
def framesEncodeCard : Claim7 := { stood := { row := framesEncodeRow, standIns := [], harness := (true, "16eeb6a2cfd5303e8b5ceb4931389a76958d4367f4cf5b5cdbdd8943126ae6e7"), looks := false }, kinds := [], alts := [], laidByText := true, laidKinds := [.data, .data], laidTests := true, laidLooks := .later }
def FramesEncodeCardSaid : Prop := Claim7.holds Tryd.pinned (.plain (OpenSpec.ofChange framesEncodeSpec)) framesEncodeCard

/-- THE TIED CARD OF 'sealingwaxlaw05.FramesDecode'. -/
def framesDecodeCard : Claim7 := { stood := { row := framesDecodeRow, standIns := [], harness := (true, "16eeb6a2cfd5303e8b5ceb4931389a76958d4367f4cf5b5cdbdd8943126ae6e7"), looks := false }, kinds := [], alts := [], laidByText := true, laidKinds := [.data, .data], laidTests := true, laidLooks := .later }
def FramesDecodeCardSaid : Prop := Claim7.holds Tryd.pinned (.plain (OpenSpec.ofChange framesDecodeSpec)) framesDecodeCard

/-- THE TIED CARD OF 'sealingwaxlaw05.FramesBack'. -/
def framesBackCard : Claim7 := { stood := { row := framesBackRow, standIns := [], harness := (true, "16eeb6a2cfd5303e8b5ceb4931389a76958d4367f4cf5b5cdbdd8943126ae6e7"), looks := false }, kinds := [], alts := [], laidByText := true, laidKinds := [.data, .data], laidTests := true, laidLooks := .later }
def FramesBackCardSaid : Prop := Claim7.holds Tryd.pinned (.plain (OpenSpec.ofChange framesBackSpec)) framesBackCard

/-- THE TIED CARD OF 'sealingwaxlaw05.FramesLack'. -/
def framesLackCard : Claim7 := { stood := { row := framesLackRow, standIns := [], harness := (true, "16eeb6a2cfd5303e8b5ceb4931389a76958d4367f4cf5b5cdbdd8943126ae6e7"), looks := false }, kinds := [], alts := [], laidByText := true, laidKinds := [.data, .data], laidTests := true, laidLooks := .later }
def FramesLackCardSaid : Prop := Claim7.holds Tryd.pinned (.plain (OpenSpec.ofChange framesLackSpec)) framesLackCard

/-- THE TIED CARD OF 'sealingwaxlaw05.FramesOne'. -/
def framesOneCard : Claim7 := { stood := { row := framesOneRow, standIns := [], harness := (true, "16eeb6a2cfd5303e8b5ceb4931389a76958d4367f4cf5b5cdbdd8943126ae6e7"), looks := false }, kinds := [], alts := [], laidByText := true, laidKinds := [.data, .data], laidTests := true, laidLooks := .later }
def FramesOneCardSaid : Prop := Claim7.holds Tryd.pinned (.plain (OpenSpec.ofChange framesOneSpec)) framesOneCard

/-- THE TIED CARD OF 'sealingwaxlaw05.FramesApart'. -/
def framesApartCard : Claim7 := { stood := { row := framesApartRow, standIns := [], harness := (true, "16eeb6a2cfd5303e8b5ceb4931389a76958d4367f4cf5b5cdbdd8943126ae6e7"), looks := false }, kinds := [], alts := [], laidByText := true, laidKinds := [.data, .data], laidTests := true, laidLooks := .later }
def FramesApartCardSaid : Prop := Claim7.holds Tryd.pinned (.plain (OpenSpec.ofChange framesApartSpec)) framesApartCard

/-- THE SECOND FORM's CARD OF 'sealingwaxlaw05.FramesEncode'. -/
def framesEncodeUptoCard : Claim7 := { stood := { row := framesEncodeUptoRow, standIns := [], harness := (true, "16eeb6a2cfd5303e8b5ceb4931389a76958d4367f4cf5b5cdbdd8943126ae6e7"), looks := false }, kinds := [], alts := [], laidByText := true, laidKinds := [.data, .data], laidTests := true, laidLooks := .later }
def FramesEncodeUptoCardSaid : Prop := Claim7.holds Tryd.pinned (.plain (OpenSpec.upto framesEncodeSpec)) framesEncodeUptoCard

/-- THE SECOND FORM's CARD OF 'sealingwaxlaw05.FramesDecode'. -/
def framesDecodeUptoCard : Claim7 := { stood := { row := framesDecodeUptoRow, standIns := [], harness := (true, "16eeb6a2cfd5303e8b5ceb4931389a76958d4367f4cf5b5cdbdd8943126ae6e7"), looks := false }, kinds := [], alts := [], laidByText := true, laidKinds := [.data, .data], laidTests := true, laidLooks := .later }
def FramesDecodeUptoCardSaid : Prop := Claim7.holds Tryd.pinned (.plain (OpenSpec.upto framesDecodeSpec)) framesDecodeUptoCard

/-- THE SECOND FORM's CARD OF 'sealingwaxlaw05.FramesBack'. -/
def framesBackUptoCard : Claim7 := { stood := { row := framesBackUptoRow, standIns := [], harness := (true, "16eeb6a2cfd5303e8b5ceb4931389a76958d4367f4cf5b5cdbdd8943126ae6e7"), looks := false }, kinds := [], alts := [], laidByText := true, laidKinds := [.data, .data], laidTests := true, laidLooks := .later }
def FramesBackUptoCardSaid : Prop := Claim7.holds Tryd.pinned (.plain (OpenSpec.upto framesBackSpec)) framesBackUptoCard

/-- THE SECOND FORM's CARD OF 'sealingwaxlaw05.FramesLack'. -/
def framesLackUptoCard : Claim7 := { stood := { row := framesLackUptoRow, standIns := [], harness := (true, "16eeb6a2cfd5303e8b5ceb4931389a76958d4367f4cf5b5cdbdd8943126ae6e7"), looks := false }, kinds := [], alts := [], laidByText := true, laidKinds := [.data, .data], laidTests := true, laidLooks := .later }
def FramesLackUptoCardSaid : Prop := Claim7.holds Tryd.pinned (.plain (OpenSpec.upto framesLackSpec)) framesLackUptoCard

/-- THE SECOND FORM's CARD OF 'sealingwaxlaw05.FramesOne'. -/
def framesOneUptoCard : Claim7 := { stood := { row := framesOneUptoRow, standIns := [], harness := (true, "16eeb6a2cfd5303e8b5ceb4931389a76958d4367f4cf5b5cdbdd8943126ae6e7"), looks := false }, kinds := [], alts := [], laidByText := true, laidKinds := [.data, .data], laidTests := true, laidLooks := .later }
def FramesOneUptoCardSaid : Prop := Claim7.holds Tryd.pinned (.plain (OpenSpec.upto framesOneSpec)) framesOneUptoCard

/-- THE SECOND FORM's CARD OF 'sealingwaxlaw05.FramesApart'. -/
def framesApartUptoCard : Claim7 := { stood := { row := framesApartUptoRow, standIns := [], harness := (true, "16eeb6a2cfd5303e8b5ceb4931389a76958d4367f4cf5b5cdbdd8943126ae6e7"), looks := false }, kinds := [], alts := [], laidByText := true, laidKinds := [.data, .data], laidTests := true, laidLooks := .later }
def FramesApartUptoCardSaid : Prop := Claim7.holds Tryd.pinned (.plain (OpenSpec.upto framesApartSpec)) framesApartUptoCard
end Rows
end Go.Proofs.YtcbmcbcpclgciaaDoor
