/-
  NARROWER THAN 'FOR EVERY INPUT', by the rows' own cells (each row's printed sentence says how): WordsPut: laid · WordsGet: laid · WordsBack: laid · WordsWay: laid · WordsFit: laid · WordsCut: laid.
  DERIVED. THE GIVEN ROWS OF THIS SEAT. 6 by the template 'for every input the law returns true; each argument reads behind the call as it read before'; 0 by the template 'total and deterministic' (their statements: YthefmkmgiblngaaDoorTotals.lean).
  GIVEN WITH THE SEED: the statements are not yours to turn. If you find one false, say at which input.
  Laid BY PROGRAM, IN A SANDBOX (cutbox-rows.mjs): the forced cells as the released guide's own fill.sh prints them over the translation df7a0a8aa16af40f… (all of the seat's roots in one cut). By AI agents, Wed Nov 11 2026. No macro, syntax, notation, axiom, sorry.
-/
import Derived.Test.YthefmkmgiblngaaDoorChecked
import GoSem.Claim
import GoSem.ClaimJoined
import GoSem.ClaimMapViews
import Derived.JoinedTies
import Derived.KernelRfl
namespace Go.Proofs.YthefmkmgiblngaaDoor
/- THE CELL 'sum', in the pinned program and in every row, IS THE sha256 OF THE DUMP (.gsa) THAT YthefmkmgiblngaaDoorProg.lean LOADS. Nothing in Lean hashes anything: it is a label: what it is worth is what the hold of that sum in a sandbox is worth. -/
noncomputable def Tryd.pinned : Pinned := { name := "ythefmkmgiblngaadoor", sum := "df7a0a8aa16af40f5883609a1cf5f913cf504059effbc04a044986e42b70f7d1", checked := Tryd.checked }
namespace Rows
def none {H : Type} : Left H := { results := [], args := [] }

/- WHAT THE LISTED PACKAGE-LEVEL VARIABLES READ AS WHEN THE CALL BEGINS. Each datum BY PROGRAM (the guide's laid-datum.mjs) off the statement by which the dump's own 'gosem.cut.vars' lays the variable. In a bare row this is a premise. The card (YthefmkmgiblngaaDoorCards.lean) ties it to the program's text. -/
def laid_sealingwax_words_sizes {H : Type} : DataW H := .agg [.lit (.int .i64 1), .lit (.int .i64 2), .lit (.int .i64 4), .lit (.int .i64 8)]

/-- 'sealingwaxlaw01.WordsPut': WHATEVER THE INPUT: true; the input reads as it did. -/
def wordsPutSpec : ChangeSpec := { name := "wordsPut", fn := fun _ => fun
  | [d1, d2, d3] => { results := [.lit (.bool true)], args := [d1, d2, d3] }
  | _ => none }
def wordsPutRow : OpenClaim := { program := "ythefmkmgiblngaadoor", sum := "df7a0a8aa16af40f5883609a1cf5f913cf504059effbc04a044986e42b70f7d1", func := "sealingwax/sealingwaxlaw01.WordsPut", spec := "wordsPut", named := ["sealingwax/words.sizes"], apart := false, laid := [("sealingwax/words.sizes", laid_sealingwax_words_sizes)] }
def WordsPutSaid : Prop := wordsPutRow.holds Tryd.pinned (OpenSpec.ofChange wordsPutSpec)

/-- ITS FALSE NEIGHBOUR: 'it returns false'. Refute it at one input. -/
def wordsPutWrong : ChangeSpec := { name := "wordsPut", fn := fun _ => fun
  | [d1, d2, d3] => { results := [.lit (.bool false)], args := [d1, d2, d3] }
  | _ => none }
def WordsPutWrongFalsely : Prop := wordsPutRow.holds Tryd.pinned (OpenSpec.ofChange wordsPutWrong)

/-- 'sealingwaxlaw01.WordsGet': WHATEVER THE INPUT: true; the input reads as it did. -/
def wordsGetSpec : ChangeSpec := { name := "wordsGet", fn := fun _ => fun
  | [d1, d2, d3] => { results := [.lit (.bool true)], args := [d1, d2, d3] }
  | _ => none }
def wordsGetRow : OpenClaim := { program := "ythefmkmgiblngaadoor", sum := "df7a0a8aa16af40f5883609a1cf5f913cf504059effbc04a044986e42b70f7d1", func := "sealingwax/sealingwaxlaw01.WordsGet", spec := "wordsGet", named := ["sealingwax/words.sizes"], apart := false, laid := [("sealingwax/words.sizes", laid_sealingwax_words_sizes)] }
def WordsGetSaid : Prop := wordsGetRow.holds Tryd.pinned (OpenSpec.ofChange wordsGetSpec)

/-- ITS FALSE NEIGHBOUR: 'it returns false'. Refute it at one input. -/
def wordsGetWrong : ChangeSpec := { name := "wordsGet", fn := fun _ => fun
  | [d1, d2, d3] => { results := [.lit (.bool false)], args := [d1, d2, d3] }
  | _ => none }
def WordsGetWrongFalsely : Prop := wordsGetRow.holds Tryd.pinned (OpenSpec.ofChange wordsGetWrong)

/-- 'sealingwaxlaw01.WordsBack': WHATEVER THE INPUT: true; the input reads as it did. -/
def wordsBackSpec : ChangeSpec := { name := "wordsBack", fn := fun _ => fun
  | [d1, d2, d3] => { results := [.lit (.bool true)], args := [d1, d2, d3] }
  | _ => none }
def wordsBackRow : OpenClaim := { program := "ythefmkmgiblngaadoor", sum := "df7a0a8aa16af40f5883609a1cf5f913cf504059effbc04a044986e42b70f7d1", func := "sealingwax/sealingwaxlaw01.WordsBack", spec := "wordsBack", named := ["sealingwax/words.sizes"], apart := false, laid := [("sealingwax/words.sizes", laid_sealingwax_words_sizes)] }
def WordsBackSaid : Prop := wordsBackRow.holds Tryd.pinned (OpenSpec.ofChange wordsBackSpec)

/-- ITS FALSE NEIGHBOUR: 'it returns false'. Refute it at one input. -/
def wordsBackWrong : ChangeSpec := { name := "wordsBack", fn := fun _ => fun
  | [d1, d2, d3] => { results := [.lit (.bool false)], args := [d1, d2, d3] }
  | _ => none }
def WordsBackWrongFalsely : Prop := wordsBackRow.holds Tryd.pinned (OpenSpec.ofChange wordsBackWrong)

/-- 'sealingwaxlaw01.WordsWay': WHATEVER THE INPUT: true; the input reads as it did. -/
def wordsWaySpec : ChangeSpec := { name := "wordsWay", fn := fun _ => fun
  | [d1, d2, d3] => { results := [.lit (.bool true)], args := [d1, d2, d3] }
  | _ => none }
def wordsWayRow : OpenClaim := { program := "ythefmkmgiblngaadoor", sum := "df7a0a8aa16af40f5883609a1cf5f913cf504059effbc04a044986e42b70f7d1", func := "sealingwax/sealingwaxlaw01.WordsWay", spec := "wordsWay", named := ["sealingwax/words.sizes"], apart := false, laid := [("sealingwax/words.sizes", laid_sealingwax_words_sizes)] }
def WordsWaySaid : Prop := wordsWayRow.holds Tryd.pinned (OpenSpec.ofChange wordsWaySpec)

/-- ITS FALSE NEIGHBOUR: 'it returns false'. Refute it at one input. -/
def wordsWayWrong : ChangeSpec := { name := "wordsWay", fn := fun _ => fun
  | [d1, d2, d3] => { results := [.lit (.bool false)], args := [d1, d2, d3] }
  | _ => none }
def WordsWayWrongFalsely : Prop := wordsWayRow.holds Tryd.pinned (OpenSpec.ofChange wordsWayWrong)

/-- 'sealingwaxlaw01.WordsFit': WHATEVER THE INPUT: true; the input reads as it did. -/
def wordsFitSpec : ChangeSpec := { name := "wordsFit", fn := fun _ => fun
  | [d1, d2, d3] => { results := [.lit (.bool true)], args := [d1, d2, d3] }
  | _ => none }
def wordsFitRow : OpenClaim := { program := "ythefmkmgiblngaadoor", sum := "df7a0a8aa16af40f5883609a1cf5f913cf504059effbc04a044986e42b70f7d1", func := "sealingwax/sealingwaxlaw01.WordsFit", spec := "wordsFit", named := ["sealingwax/words.sizes"], apart := false, laid := [("sealingwax/words.sizes", laid_sealingwax_words_sizes)] }
def WordsFitSaid : Prop := wordsFitRow.holds Tryd.pinned (OpenSpec.ofChange wordsFitSpec)

/-- ITS FALSE NEIGHBOUR: 'it returns false'. Refute it at one input. -/
def wordsFitWrong : ChangeSpec := { name := "wordsFit", fn := fun _ => fun
  | [d1, d2, d3] => { results := [.lit (.bool false)], args := [d1, d2, d3] }
  | _ => none }
def WordsFitWrongFalsely : Prop := wordsFitRow.holds Tryd.pinned (OpenSpec.ofChange wordsFitWrong)

/-- 'sealingwaxlaw01.WordsCut': WHATEVER THE INPUT: true; the input reads as it did. -/
def wordsCutSpec : ChangeSpec := { name := "wordsCut", fn := fun _ => fun
  | [d1, d2, d3] => { results := [.lit (.bool true)], args := [d1, d2, d3] }
  | _ => none }
def wordsCutRow : OpenClaim := { program := "ythefmkmgiblngaadoor", sum := "df7a0a8aa16af40f5883609a1cf5f913cf504059effbc04a044986e42b70f7d1", func := "sealingwax/sealingwaxlaw01.WordsCut", spec := "wordsCut", named := ["sealingwax/words.sizes"], apart := false, laid := [("sealingwax/words.sizes", laid_sealingwax_words_sizes)] }
def WordsCutSaid : Prop := wordsCutRow.holds Tryd.pinned (OpenSpec.ofChange wordsCutSpec)

/-- ITS FALSE NEIGHBOUR: 'it returns false'. Refute it at one input. -/
def wordsCutWrong : ChangeSpec := { name := "wordsCut", fn := fun _ => fun
  | [d1, d2, d3] => { results := [.lit (.bool false)], args := [d1, d2, d3] }
  | _ => none }
def WordsCutWrongFalsely : Prop := wordsCutRow.holds Tryd.pinned (OpenSpec.ofChange wordsCutWrong)

/- THE SECOND FORM. 'bulk': how many values and letters a reading holds, each counted each time it is reached (what is shared counts as often as it is met; a slice's spare places count too). A statement '..UptoSaid' is the law's where the arguments, and the package variables that the reading takes, are together of bulk at most 1048576: NARROWER than '..Said'. Prove '..Said' where nothing that the law and all that it calls make is longer than what came in: it says more and counts as full. Else prove '..UptoSaid'. A law counts once. -/
mutual
def uptoBulk {H : Type} : DataW H → Nat
  | .lit (.string bytes) => bytes.length + 1
  | .lit _ => 1
  | .nil => 1
  | .ptr d => uptoBulk d + 1
  | .slice elems spare => uptoBulkAll elems + uptoBulkAll spare + 1
  | .agg parts => uptoBulkAll parts + 1
  | .iface _ d => uptoBulk d + 1
  | .map entries => uptoBulkEntries entries + 1
  | .held _ => 1
def uptoBulkAll {H : Type} : List (DataW H) → Nat
  | [] => 0
  | d :: r => uptoBulk d + uptoBulkAll r
def uptoBulkEntries {H : Type} : List (Lit × DataW H) → Nat
  | [] => 0
  | x :: r => uptoBulkEntry x + uptoBulkEntries r
def uptoBulkEntry {H : Type} : Lit × DataW H → Nat
  | (.string bytes, d) => bytes.length + uptoBulk d + 1
  | (_, d) => uptoBulk d + 1
 end
def uptoSmall : (H : Type) → List (DataW H) → Bool := fun _ ds => decide (uptoBulkAll ds ≤ 1048576)
def OpenSpec.upto (s : _root_.Go.ChangeSpec) : _root_.Go.OpenSpec := { _root_.Go.OpenSpec.ofChange s with cond := some uptoSmall }

/-- 'sealingwaxlaw01.WordsPut', WHERE WHAT IT READS IS OF BULK AT MOST 1048576: true; the input reads as it did. -/
def wordsPutUptoRow : OpenClaim := { program := "ythefmkmgiblngaadoor", sum := "df7a0a8aa16af40f5883609a1cf5f913cf504059effbc04a044986e42b70f7d1", func := "sealingwax/sealingwaxlaw01.WordsPut", spec := "wordsPut", named := ["sealingwax/words.sizes"], apart := false, laid := [("sealingwax/words.sizes", laid_sealingwax_words_sizes)], narrowed := true }
def WordsPutUptoSaid : Prop := wordsPutUptoRow.holds Tryd.pinned (OpenSpec.upto wordsPutSpec)

/-- 'sealingwaxlaw01.WordsGet', WHERE WHAT IT READS IS OF BULK AT MOST 1048576: true; the input reads as it did. -/
def wordsGetUptoRow : OpenClaim := { program := "ythefmkmgiblngaadoor", sum := "df7a0a8aa16af40f5883609a1cf5f913cf504059effbc04a044986e42b70f7d1", func := "sealingwax/sealingwaxlaw01.WordsGet", spec := "wordsGet", named := ["sealingwax/words.sizes"], apart := false, laid := [("sealingwax/words.sizes", laid_sealingwax_words_sizes)], narrowed := true }
def WordsGetUptoSaid : Prop := wordsGetUptoRow.holds Tryd.pinned (OpenSpec.upto wordsGetSpec)

/-- 'sealingwaxlaw01.WordsBack', WHERE WHAT IT READS IS OF BULK AT MOST 1048576: true; the input reads as it did. -/
def wordsBackUptoRow : OpenClaim := { program := "ythefmkmgiblngaadoor", sum := "df7a0a8aa16af40f5883609a1cf5f913cf504059effbc04a044986e42b70f7d1", func := "sealingwax/sealingwaxlaw01.WordsBack", spec := "wordsBack", named := ["sealingwax/words.sizes"], apart := false, laid := [("sealingwax/words.sizes", laid_sealingwax_words_sizes)], narrowed := true }
def WordsBackUptoSaid : Prop := wordsBackUptoRow.holds Tryd.pinned (OpenSpec.upto wordsBackSpec)

/-- 'sealingwaxlaw01.WordsWay', WHERE WHAT IT READS IS OF BULK AT MOST 1048576: true; the input reads as it did. -/
def wordsWayUptoRow : OpenClaim := { program := "ythefmkmgiblngaadoor", sum := "df7a0a8aa16af40f5883609a1cf5f913cf504059effbc04a044986e42b70f7d1", func := "sealingwax/sealingwaxlaw01.WordsWay", spec := "wordsWay", named := ["sealingwax/words.sizes"], apart := false, laid := [("sealingwax/words.sizes", laid_sealingwax_words_sizes)], narrowed := true }
def WordsWayUptoSaid : Prop := wordsWayUptoRow.holds Tryd.pinned (OpenSpec.upto wordsWaySpec)

/-- 'sealingwaxlaw01.WordsFit', WHERE WHAT IT READS IS OF BULK AT MOST 1048576: true; the input reads as it did. -/
def wordsFitUptoRow : OpenClaim := { program := "ythefmkmgiblngaadoor", sum := "df7a0a8aa16af40f5883609a1cf5f913cf504059effbc04a044986e42b70f7d1", func := "sealingwax/sealingwaxlaw01.WordsFit", spec := "wordsFit", named := ["sealingwax/words.sizes"], apart := false, laid := [("sealingwax/words.sizes", laid_sealingwax_words_sizes)], narrowed := true }
def WordsFitUptoSaid : Prop := wordsFitUptoRow.holds Tryd.pinned (OpenSpec.upto wordsFitSpec)

/-- 'sealingwaxlaw01.WordsCut', WHERE WHAT IT READS IS OF BULK AT MOST 1048576: true; the input reads as it did. -/
def wordsCutUptoRow : OpenClaim := { program := "ythefmkmgiblngaadoor", sum := "df7a0a8aa16af40f5883609a1cf5f913cf504059effbc04a044986e42b70f7d1", func := "sealingwax/sealingwaxlaw01.WordsCut", spec := "wordsCut", named := ["sealingwax/words.sizes"], apart := false, laid := [("sealingwax/words.sizes", laid_sealingwax_words_sizes)], narrowed := true }
def WordsCutUptoSaid : Prop := wordsCutUptoRow.holds Tryd.pinned (OpenSpec.upto wordsCutSpec)

end Rows
end Go.Proofs.YthefmkmgiblngaaDoor
