/-
  NARROWER THAN 'FOR EVERY INPUT', by the rows' own cells (each row's printed sentence says how): PacksParts: laid · PacksMixed: laid.
  DERIVED. THE GIVEN ROWS OF THIS SEAT. 2 by the template 'for every input the law returns true; each argument reads behind the call as it read before'; 0 by the template 'total and deterministic' (their statements: YtalofhnjlmgloabDoorTotals.lean).
  GIVEN WITH THE SEED: the statements are not yours to turn. If you find one false, say at which input.
  Laid BY PROGRAM, IN A SANDBOX (cutbox-rows.mjs): the forced cells as the released guide's own fill.sh prints them over the translation 35273111a7a5fadd… (all of the seat's roots in one cut). By AI agents, Wed Nov 11 2026. No macro, syntax, notation, axiom, sorry.
-/
import Derived.Test.YtalofhnjlmgloabDoorChecked
import GoSem.Claim
import GoSem.ClaimJoined
import GoSem.ClaimMapViews
import Derived.JoinedTies
import Derived.KernelRfl
namespace Go.Proofs.YtalofhnjlmgloabDoor
/- THE CELL 'sum', in the pinned program and in every row, IS THE sha256 OF THE DUMP (.gsa) THAT YtalofhnjlmgloabDoorProg.lean LOADS. Nothing in Lean hashes anything: it is a label: what it is worth is what the hold of that sum in a sandbox is worth. -/
noncomputable def Tryd.pinned : Pinned := { name := "ytalofhnjlmgloabdoor", sum := "35273111a7a5fadd4666493cefd2e43bccebbcb71a9827a4d09514f5275f6b3a", checked := Tryd.checked }
namespace Rows
def none {H : Type} : Left H := { results := [], args := [] }

/- WHAT THE LISTED PACKAGE-LEVEL VARIABLES READ AS WHEN THE CALL BEGINS. Each datum BY PROGRAM (the guide's laid-datum.mjs) off the statement by which the dump's own 'gosem.cut.vars' lays the variable. In a bare row this is a premise. The card (YtalofhnjlmgloabDoorCards.lean) ties it to the program's text. -/
def laid_sealingwax_sums_byFour {H : Type} : DataW H := .agg [.lit (.int .u32 0), .lit (.int .u32 498536548), .lit (.int .u32 997073096), .lit (.int .u32 651767980), .lit (.int .u32 1994146192), .lit (.int .u32 1802195444), .lit (.int .u32 1303535960), .lit (.int .u32 1342533948), .lit (.int .u32 3988292384), .lit (.int .u32 4027552580), .lit (.int .u32 3604390888), .lit (.int .u32 3412177804), .lit (.int .u32 2607071920), .lit (.int .u32 2262029012), .lit (.int .u32 2685067896), .lit (.int .u32 3183342108)]
def laid_sealingwax_words_sizes {H : Type} : DataW H := .agg [.lit (.int .i64 1), .lit (.int .i64 2), .lit (.int .i64 4), .lit (.int .i64 8)]

/-- 'sealingwaxlaw06.PacksParts': WHATEVER THE INPUT: true; the input reads as it did. -/
def packsPartsSpec : ChangeSpec := { name := "packsParts", fn := fun _ => fun
  | [d] => { results := [.lit (.bool true)], args := [d] }
  | _ => none }
def packsPartsRow : OpenClaim := { program := "ytalofhnjlmgloabdoor", sum := "35273111a7a5fadd4666493cefd2e43bccebbcb71a9827a4d09514f5275f6b3a", func := "sealingwax/sealingwaxlaw06.PacksParts", spec := "packsParts", inPlace := ["internal/abi.NoEscape", "internal/bytealg.MakeNoZero"], unfollowed := true, recurses := true, named := ["sealingwax/words.sizes", "sealingwax/sums.byFour"], apart := false, laid := [("sealingwax/sums.byFour", laid_sealingwax_sums_byFour), ("sealingwax/words.sizes", laid_sealingwax_words_sizes)] }
def PacksPartsSaid : Prop := packsPartsRow.holds Tryd.pinned (OpenSpec.ofChange packsPartsSpec)

/-- ITS FALSE NEIGHBOUR: 'it returns false'. Refute it at one input. -/
def packsPartsWrong : ChangeSpec := { name := "packsParts", fn := fun _ => fun
  | [d] => { results := [.lit (.bool false)], args := [d] }
  | _ => none }
def PacksPartsWrongFalsely : Prop := packsPartsRow.holds Tryd.pinned (OpenSpec.ofChange packsPartsWrong)

/-- 'sealingwaxlaw06.PacksMixed': WHATEVER THE INPUT: true; the input reads as it did. -/
def packsMixedSpec : ChangeSpec := { name := "packsMixed", fn := fun _ => fun
  | [d1, d2] => { results := [.lit (.bool true)], args := [d1, d2] }
  | _ => none }
def packsMixedRow : OpenClaim := { program := "ytalofhnjlmgloabdoor", sum := "35273111a7a5fadd4666493cefd2e43bccebbcb71a9827a4d09514f5275f6b3a", func := "sealingwax/sealingwaxlaw06.PacksMixed", spec := "packsMixed", inPlace := ["internal/abi.NoEscape", "internal/bytealg.MakeNoZero"], unfollowed := true, recurses := true, named := ["sealingwax/words.sizes", "sealingwax/sums.byFour"], apart := false, laid := [("sealingwax/sums.byFour", laid_sealingwax_sums_byFour), ("sealingwax/words.sizes", laid_sealingwax_words_sizes)] }
def PacksMixedSaid : Prop := packsMixedRow.holds Tryd.pinned (OpenSpec.ofChange packsMixedSpec)

/-- ITS FALSE NEIGHBOUR: 'it returns false'. Refute it at one input. -/
def packsMixedWrong : ChangeSpec := { name := "packsMixed", fn := fun _ => fun
  | [d1, d2] => { results := [.lit (.bool false)], args := [d1, d2] }
  | _ => none }
def PacksMixedWrongFalsely : Prop := packsMixedRow.holds Tryd.pinned (OpenSpec.ofChange packsMixedWrong)

/- THE SECOND FORM. 'bulk': how many values and letters a reading holds, each counted each time it is reached (what is shared counts as often as it is met; a slice's spare places count too). A statement '..UptoSaid' is the law's where the arguments, and the package variables that the reading takes, are together of bulk at most 1048576: NARROWER than '..Said'. Prove '..Said' where nothing that the law and all that it calls make is longer than what came in: it says more and counts as full. Else prove '..UptoSaid'. A law counts once. -/
mutual
def uptoBulk {H : Type} : DataW H → Nat
  | .lit (.string bytes) => bytes.length + 1
  | .lit _ => 1
  | .nil => 1
  | .ptr d => uptoBulk d + 1
  | .slice elems spare => uptoBulkAll elems + uptoBulkAll spare + 1
  | .agg parts => uptoBulkAll parts + 1
  | .iface _ d => uptoBulk d + 1
  | .map entries => uptoBulkEntries entries + 1
  | .held _ => 1
def uptoBulkAll {H : Type} : List (DataW H) → Nat
  | [] => 0
  | d :: r => uptoBulk d + uptoBulkAll r
def uptoBulkEntries {H : Type} : List (Lit × DataW H) → Nat
  | [] => 0
  | x :: r => uptoBulkEntry x + uptoBulkEntries r
def uptoBulkEntry {H : Type} : Lit × DataW H → Nat
  | (.string bytes, d) => bytes.length + uptoBulk d + 1
  | (_, d) => uptoBulk d + 1
 end
def uptoSmall : (H : Type) → List (DataW H) → Bool := fun _ ds => decide (uptoBulkAll ds ≤ 1048576)
def OpenSpec.upto (s : _root_.Go.ChangeSpec) : _root_.Go.OpenSpec := { _root_.Go.OpenSpec.ofChange s with cond := some uptoSmall }

/-- 'sealingwaxlaw06.PacksParts', WHERE WHAT IT READS IS OF BULK AT MOST 1048576: true; the input reads as it did. -/
def packsPartsUptoRow : OpenClaim := { program := "ytalofhnjlmgloabdoor", sum := "35273111a7a5fadd4666493cefd2e43bccebbcb71a9827a4d09514f5275f6b3a", func := "sealingwax/sealingwaxlaw06.PacksParts", spec := "packsParts", inPlace := ["internal/abi.NoEscape", "internal/bytealg.MakeNoZero"], unfollowed := true, recurses := true, named := ["sealingwax/words.sizes", "sealingwax/sums.byFour"], apart := false, laid := [("sealingwax/sums.byFour", laid_sealingwax_sums_byFour), ("sealingwax/words.sizes", laid_sealingwax_words_sizes)], narrowed := true }
def PacksPartsUptoSaid : Prop := packsPartsUptoRow.holds Tryd.pinned (OpenSpec.upto packsPartsSpec)

/-- 'sealingwaxlaw06.PacksMixed', WHERE WHAT IT READS IS OF BULK AT MOST 1048576: true; the input reads as it did. -/
def packsMixedUptoRow : OpenClaim := { program := "ytalofhnjlmgloabdoor", sum := "35273111a7a5fadd4666493cefd2e43bccebbcb71a9827a4d09514f5275f6b3a", func := "sealingwax/sealingwaxlaw06.PacksMixed", spec := "packsMixed", inPlace := ["internal/abi.NoEscape", "internal/bytealg.MakeNoZero"], unfollowed := true, recurses := true, named := ["sealingwax/words.sizes", "sealingwax/sums.byFour"], apart := false, laid := [("sealingwax/sums.byFour", laid_sealingwax_sums_byFour), ("sealingwax/words.sizes", laid_sealingwax_words_sizes)], narrowed := true }
def PacksMixedUptoSaid : Prop := packsMixedUptoRow.holds Tryd.pinned (OpenSpec.upto packsMixedSpec)

end Rows
end Go.Proofs.YtalofhnjlmgloabDoor
