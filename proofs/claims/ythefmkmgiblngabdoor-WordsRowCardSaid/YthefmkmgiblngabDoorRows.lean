/-
  NARROWER THAN 'FOR EVERY INPUT', by the rows' own cells (each row's printed sentence says how): WordsLong: laid · WordsRow: laid · WordsTexts: laid.
  DERIVED. THE GIVEN ROWS OF THIS SEAT. 3 by the template 'for every input the law returns true; each argument reads behind the call as it read before'; 0 by the template 'total and deterministic' (their statements: YthefmkmgiblngabDoorTotals.lean).
  GIVEN WITH THE SEED: the statements are not yours to turn. If you find one false, say at which input.
  Laid BY PROGRAM, IN A SANDBOX (cutbox-rows.mjs): the forced cells as the released guide's own fill.sh prints them over the translation 6df514c908976ff8… (all of the seat's roots in one cut). By AI agents, Wed Nov 11 2026. No macro, syntax, notation, axiom, sorry.
-/
import Derived.Test.YthefmkmgiblngabDoorChecked
import GoSem.Claim
import GoSem.ClaimJoined
import GoSem.ClaimMapViews
import Derived.JoinedTies
import Derived.KernelRfl
namespace Go.Proofs.YthefmkmgiblngabDoor
/- THE CELL 'sum', in the pinned program and in every row, IS THE sha256 OF THE DUMP (.gsa) THAT YthefmkmgiblngabDoorProg.lean LOADS. Nothing in Lean hashes anything: it is a label: what it is worth is what the hold of that sum in a sandbox is worth. -/
noncomputable def Tryd.pinned : Pinned := { name := "ythefmkmgiblngabdoor", sum := "6df514c908976ff86aa3398960cb5b18e442e871c084343126f72b3badd1d448", checked := Tryd.checked }
namespace Rows
def none {H : Type} : Left H := { results := [], args := [] }

/- WHAT THE LISTED PACKAGE-LEVEL VARIABLES READ AS WHEN THE CALL BEGINS. Each datum BY PROGRAM (the guide's laid-datum.mjs) off the statement by which the dump's own 'gosem.cut.vars' lays the variable. In a bare row this is a premise. The card (YthefmkmgiblngabDoorCards.lean) ties it to the program's text. -/
def laid_sealingwax_words_sizes {H : Type} : DataW H := .agg [.lit (.int .i64 1), .lit (.int .i64 2), .lit (.int .i64 4), .lit (.int .i64 8)]

/-- 'sealingwaxlaw01.WordsLong': WHATEVER THE INPUT: true; the input reads as it did. -/
def wordsLongSpec : ChangeSpec := { name := "wordsLong", fn := fun _ => fun
  | [d] => { results := [.lit (.bool true)], args := [d] }
  | _ => none }
def wordsLongRow : OpenClaim := { program := "ythefmkmgiblngabdoor", sum := "6df514c908976ff86aa3398960cb5b18e442e871c084343126f72b3badd1d448", func := "sealingwax/sealingwaxlaw01.WordsLong", spec := "wordsLong", named := ["sealingwax/words.sizes"], apart := false, laid := [("sealingwax/words.sizes", laid_sealingwax_words_sizes)] }
def WordsLongSaid : Prop := wordsLongRow.holds Tryd.pinned (OpenSpec.ofChange wordsLongSpec)

/-- ITS FALSE NEIGHBOUR: 'it returns false'. Refute it at one input. -/
def wordsLongWrong : ChangeSpec := { name := "wordsLong", fn := fun _ => fun
  | [d] => { results := [.lit (.bool false)], args := [d] }
  | _ => none }
def WordsLongWrongFalsely : Prop := wordsLongRow.holds Tryd.pinned (OpenSpec.ofChange wordsLongWrong)

/-- 'sealingwaxlaw01.WordsRow': WHATEVER THE INPUT: true; the input reads as it did. -/
def wordsRowSpec : ChangeSpec := { name := "wordsRow", fn := fun _ => fun
  | [d1, d2] => { results := [.lit (.bool true)], args := [d1, d2] }
  | _ => none }
def wordsRowRow : OpenClaim := { program := "ythefmkmgiblngabdoor", sum := "6df514c908976ff86aa3398960cb5b18e442e871c084343126f72b3badd1d448", func := "sealingwax/sealingwaxlaw01.WordsRow", spec := "wordsRow", named := ["sealingwax/words.sizes"], apart := false, laid := [("sealingwax/words.sizes", laid_sealingwax_words_sizes)] }
def WordsRowSaid : Prop := wordsRowRow.holds Tryd.pinned (OpenSpec.ofChange wordsRowSpec)

/-- ITS FALSE NEIGHBOUR: 'it returns false'. Refute it at one input. -/
def wordsRowWrong : ChangeSpec := { name := "wordsRow", fn := fun _ => fun
  | [d1, d2] => { results := [.lit (.bool false)], args := [d1, d2] }
  | _ => none }
def WordsRowWrongFalsely : Prop := wordsRowRow.holds Tryd.pinned (OpenSpec.ofChange wordsRowWrong)

/-- 'sealingwaxlaw01.WordsTexts': WHATEVER THE INPUT: true; the input reads as it did. -/
def wordsTextsSpec : ChangeSpec := { name := "wordsTexts", fn := fun _ => fun
  | [d] => { results := [.lit (.bool true)], args := [d] }
  | _ => none }
def wordsTextsRow : OpenClaim := { program := "ythefmkmgiblngabdoor", sum := "6df514c908976ff86aa3398960cb5b18e442e871c084343126f72b3badd1d448", func := "sealingwax/sealingwaxlaw01.WordsTexts", spec := "wordsTexts", named := ["sealingwax/words.sizes"], apart := false, laid := [("sealingwax/words.sizes", laid_sealingwax_words_sizes)] }
def WordsTextsSaid : Prop := wordsTextsRow.holds Tryd.pinned (OpenSpec.ofChange wordsTextsSpec)

/-- ITS FALSE NEIGHBOUR: 'it returns false'. Refute it at one input. -/
def wordsTextsWrong : ChangeSpec := { name := "wordsTexts", fn := fun _ => fun
  | [d] => { results := [.lit (.bool false)], args := [d] }
  | _ => none }
def WordsTextsWrongFalsely : Prop := wordsTextsRow.holds Tryd.pinned (OpenSpec.ofChange wordsTextsWrong)

/- THE SECOND FORM. 'bulk': how many values and letters a reading holds, each counted each time it is reached (what is shared counts as often as it is met; a slice's spare places count too). A statement '..UptoSaid' is the law's where the arguments, and the package variables that the reading takes, are together of bulk at most 1048576: NARROWER than '..Said'. Prove '..Said' where nothing that the law and all that it calls make is longer than what came in: it says more and counts as full. Else prove '..UptoSaid'. A law counts once. -/
mutual
def uptoBulk {H : Type} : DataW H → Nat
  | .lit (.string bytes) => bytes.length + 1
  | .lit _ => 1
  | .nil => 1
  | .ptr d => uptoBulk d + 1
  | .slice elems spare => uptoBulkAll elems + uptoBulkAll spare + 1
  | .agg parts => uptoBulkAll parts + 1
  | .iface _ d => uptoBulk d + 1
  | .map entries => uptoBulkEntries entries + 1
  | .held _ => 1
def uptoBulkAll {H : Type} : List (DataW H) → Nat
  | [] => 0
  | d :: r => uptoBulk d + uptoBulkAll r
def uptoBulkEntries {H : Type} : List (Lit × DataW H) → Nat
  | [] => 0
  | x :: r => uptoBulkEntry x + uptoBulkEntries r
def uptoBulkEntry {H : Type} : Lit × DataW H → Nat
  | (.string bytes, d) => bytes.length + uptoBulk d + 1
  | (_, d) => uptoBulk d + 1
 end
def uptoSmall : (H : Type) → List (DataW H) → Bool := fun _ ds => decide (uptoBulkAll ds ≤ 1048576)
def OpenSpec.upto (s : _root_.Go.ChangeSpec) : _root_.Go.OpenSpec := { _root_.Go.OpenSpec.ofChange s with cond := some uptoSmall }

/-- 'sealingwaxlaw01.WordsLong', WHERE WHAT IT READS IS OF BULK AT MOST 1048576: true; the input reads as it did. -/
def wordsLongUptoRow : OpenClaim := { program := "ythefmkmgiblngabdoor", sum := "6df514c908976ff86aa3398960cb5b18e442e871c084343126f72b3badd1d448", func := "sealingwax/sealingwaxlaw01.WordsLong", spec := "wordsLong", named := ["sealingwax/words.sizes"], apart := false, laid := [("sealingwax/words.sizes", laid_sealingwax_words_sizes)], narrowed := true }
def WordsLongUptoSaid : Prop := wordsLongUptoRow.holds Tryd.pinned (OpenSpec.upto wordsLongSpec)

/-- 'sealingwaxlaw01.WordsRow', WHERE WHAT IT READS IS OF BULK AT MOST 1048576: true; the input reads as it did. -/
def wordsRowUptoRow : OpenClaim := { program := "ythefmkmgiblngabdoor", sum := "6df514c908976ff86aa3398960cb5b18e442e871c084343126f72b3badd1d448", func := "sealingwax/sealingwaxlaw01.WordsRow", spec := "wordsRow", named := ["sealingwax/words.sizes"], apart := false, laid := [("sealingwax/words.sizes", laid_sealingwax_words_sizes)], narrowed := true }
def WordsRowUptoSaid : Prop := wordsRowUptoRow.holds Tryd.pinned (OpenSpec.upto wordsRowSpec)

/-- 'sealingwaxlaw01.WordsTexts', WHERE WHAT IT READS IS OF BULK AT MOST 1048576: true; the input reads as it did. -/
def wordsTextsUptoRow : OpenClaim := { program := "ythefmkmgiblngabdoor", sum := "6df514c908976ff86aa3398960cb5b18e442e871c084343126f72b3badd1d448", func := "sealingwax/sealingwaxlaw01.WordsTexts", spec := "wordsTexts", named := ["sealingwax/words.sizes"], apart := false, laid := [("sealingwax/words.sizes", laid_sealingwax_words_sizes)], narrowed := true }
def WordsTextsUptoSaid : Prop := wordsTextsUptoRow.holds Tryd.pinned (OpenSpec.upto wordsTextsSpec)

end Rows
end Go.Proofs.YthefmkmgiblngabDoor
