/-
  NARROWER THAN 'FOR EVERY INPUT', by the rows' own cells (each row's printed sentence says how): FrontierPlay: laid · FrontierNone: laid · FrontierRoot: laid · FrontierOn: laid · FrontierFull: laid.
  DERIVED. THE GIVEN ROWS OF THIS SEAT. 5 by the template 'for every input the law returns true; each argument reads behind the call as it read before'; 0 by the template 'total and deterministic' (their statements: YtnhfadjlajljlaaDoorTotals.lean).
  GIVEN WITH THE SEED: the statements are not yours to turn. If you find one false, say at which input.
  Laid BY PROGRAM, IN A SANDBOX (cutbox-rows.mjs): the forced cells as the released guide's own fill.sh prints them over the translation d4b9ffb66eb0d45d… (all of the seat's roots in one cut). By AI agents, Wed Nov 11 2026. No macro, syntax, notation, axiom, sorry.
-/
import Derived.Test.YtnhfadjlajljlaaDoorChecked
import GoSem.Claim
import GoSem.ClaimJoined
import GoSem.ClaimMapViews
import Derived.JoinedTies
import Derived.KernelRfl
namespace Go.Proofs.YtnhfadjlajljlaaDoor
/- THE CELL 'sum', in the pinned program and in every row, IS THE sha256 OF THE DUMP (.gsa) THAT YtnhfadjlajljlaaDoorProg.lean LOADS. Nothing in Lean hashes anything: it is a label: what it is worth is what the hold of that sum in a sandbox is worth. -/
noncomputable def Tryd.pinned : Pinned := { name := "ytnhfadjlajljlaadoor", sum := "d4b9ffb66eb0d45de48137ad90e6eca4cde8364e9c7713bbbdae9ccd16be5068", checked := Tryd.checked }
namespace Rows
def none {H : Type} : Left H := { results := [], args := [] }

/- WHAT THE LISTED PACKAGE-LEVEL VARIABLES READ AS WHEN THE CALL BEGINS. Each datum BY PROGRAM (the guide's laid-datum.mjs) off the statement by which the dump's own 'gosem.cut.vars' lays the variable. In a bare row this is a premise. The card (YtnhfadjlajljlaaDoorCards.lean) ties it to the program's text. -/
def laid_math_bits_deBruijn32tab {H : Type} : DataW H := .agg [.lit (.int .u8 0), .lit (.int .u8 1), .lit (.int .u8 28), .lit (.int .u8 2), .lit (.int .u8 29), .lit (.int .u8 14), .lit (.int .u8 24), .lit (.int .u8 3), .lit (.int .u8 30), .lit (.int .u8 22), .lit (.int .u8 20), .lit (.int .u8 15), .lit (.int .u8 25), .lit (.int .u8 17), .lit (.int .u8 4), .lit (.int .u8 8), .lit (.int .u8 31), .lit (.int .u8 27), .lit (.int .u8 13), .lit (.int .u8 23), .lit (.int .u8 21), .lit (.int .u8 19), .lit (.int .u8 16), .lit (.int .u8 7), .lit (.int .u8 26), .lit (.int .u8 12), .lit (.int .u8 18), .lit (.int .u8 6), .lit (.int .u8 11), .lit (.int .u8 5), .lit (.int .u8 10), .lit (.int .u8 9)]
def laid_math_bits_deBruijn64tab {H : Type} : DataW H := .agg [.lit (.int .u8 0), .lit (.int .u8 1), .lit (.int .u8 56), .lit (.int .u8 2), .lit (.int .u8 57), .lit (.int .u8 49), .lit (.int .u8 28), .lit (.int .u8 3), .lit (.int .u8 61), .lit (.int .u8 58), .lit (.int .u8 42), .lit (.int .u8 50), .lit (.int .u8 38), .lit (.int .u8 29), .lit (.int .u8 17), .lit (.int .u8 4), .lit (.int .u8 62), .lit (.int .u8 47), .lit (.int .u8 59), .lit (.int .u8 36), .lit (.int .u8 45), .lit (.int .u8 43), .lit (.int .u8 51), .lit (.int .u8 22), .lit (.int .u8 53), .lit (.int .u8 39), .lit (.int .u8 33), .lit (.int .u8 30), .lit (.int .u8 24), .lit (.int .u8 18), .lit (.int .u8 12), .lit (.int .u8 5), .lit (.int .u8 63), .lit (.int .u8 55), .lit (.int .u8 48), .lit (.int .u8 27), .lit (.int .u8 60), .lit (.int .u8 41), .lit (.int .u8 37), .lit (.int .u8 16), .lit (.int .u8 46), .lit (.int .u8 35), .lit (.int .u8 44), .lit (.int .u8 21), .lit (.int .u8 52), .lit (.int .u8 32), .lit (.int .u8 23), .lit (.int .u8 11), .lit (.int .u8 54), .lit (.int .u8 26), .lit (.int .u8 40), .lit (.int .u8 15), .lit (.int .u8 34), .lit (.int .u8 20), .lit (.int .u8 31), .lit (.int .u8 10), .lit (.int .u8 25), .lit (.int .u8 14), .lit (.int .u8 19), .lit (.int .u8 9), .lit (.int .u8 13), .lit (.int .u8 8), .lit (.int .u8 7), .lit (.int .u8 6)]
def laid_sealingwax_sealingwaxref02_k {H : Type} : DataW H := .agg [.lit (.int .u32 1116352408), .lit (.int .u32 1899447441), .lit (.int .u32 3049323471), .lit (.int .u32 3921009573), .lit (.int .u32 961987163), .lit (.int .u32 1508970993), .lit (.int .u32 2453635748), .lit (.int .u32 2870763221), .lit (.int .u32 3624381080), .lit (.int .u32 310598401), .lit (.int .u32 607225278), .lit (.int .u32 1426881987), .lit (.int .u32 1925078388), .lit (.int .u32 2162078206), .lit (.int .u32 2614888103), .lit (.int .u32 3248222580), .lit (.int .u32 3835390401), .lit (.int .u32 4022224774), .lit (.int .u32 264347078), .lit (.int .u32 604807628), .lit (.int .u32 770255983), .lit (.int .u32 1249150122), .lit (.int .u32 1555081692), .lit (.int .u32 1996064986), .lit (.int .u32 2554220882), .lit (.int .u32 2821834349), .lit (.int .u32 2952996808), .lit (.int .u32 3210313671), .lit (.int .u32 3336571891), .lit (.int .u32 3584528711), .lit (.int .u32 113926993), .lit (.int .u32 338241895), .lit (.int .u32 666307205), .lit (.int .u32 773529912), .lit (.int .u32 1294757372), .lit (.int .u32 1396182291), .lit (.int .u32 1695183700), .lit (.int .u32 1986661051), .lit (.int .u32 2177026350), .lit (.int .u32 2456956037), .lit (.int .u32 2730485921), .lit (.int .u32 2820302411), .lit (.int .u32 3259730800), .lit (.int .u32 3345764771), .lit (.int .u32 3516065817), .lit (.int .u32 3600352804), .lit (.int .u32 4094571909), .lit (.int .u32 275423344), .lit (.int .u32 430227734), .lit (.int .u32 506948616), .lit (.int .u32 659060556), .lit (.int .u32 883997877), .lit (.int .u32 958139571), .lit (.int .u32 1322822218), .lit (.int .u32 1537002063), .lit (.int .u32 1747873779), .lit (.int .u32 1955562222), .lit (.int .u32 2024104815), .lit (.int .u32 2227730452), .lit (.int .u32 2361852424), .lit (.int .u32 2428436474), .lit (.int .u32 2756734187), .lit (.int .u32 3204031479), .lit (.int .u32 3329325298)]
def laid_sealingwax_sha_k {H : Type} : DataW H := .agg [.lit (.int .u32 1116352408), .lit (.int .u32 1899447441), .lit (.int .u32 3049323471), .lit (.int .u32 3921009573), .lit (.int .u32 961987163), .lit (.int .u32 1508970993), .lit (.int .u32 2453635748), .lit (.int .u32 2870763221), .lit (.int .u32 3624381080), .lit (.int .u32 310598401), .lit (.int .u32 607225278), .lit (.int .u32 1426881987), .lit (.int .u32 1925078388), .lit (.int .u32 2162078206), .lit (.int .u32 2614888103), .lit (.int .u32 3248222580), .lit (.int .u32 3835390401), .lit (.int .u32 4022224774), .lit (.int .u32 264347078), .lit (.int .u32 604807628), .lit (.int .u32 770255983), .lit (.int .u32 1249150122), .lit (.int .u32 1555081692), .lit (.int .u32 1996064986), .lit (.int .u32 2554220882), .lit (.int .u32 2821834349), .lit (.int .u32 2952996808), .lit (.int .u32 3210313671), .lit (.int .u32 3336571891), .lit (.int .u32 3584528711), .lit (.int .u32 113926993), .lit (.int .u32 338241895), .lit (.int .u32 666307205), .lit (.int .u32 773529912), .lit (.int .u32 1294757372), .lit (.int .u32 1396182291), .lit (.int .u32 1695183700), .lit (.int .u32 1986661051), .lit (.int .u32 2177026350), .lit (.int .u32 2456956037), .lit (.int .u32 2730485921), .lit (.int .u32 2820302411), .lit (.int .u32 3259730800), .lit (.int .u32 3345764771), .lit (.int .u32 3516065817), .lit (.int .u32 3600352804), .lit (.int .u32 4094571909), .lit (.int .u32 275423344), .lit (.int .u32 430227734), .lit (.int .u32 506948616), .lit (.int .u32 659060556), .lit (.int .u32 883997877), .lit (.int .u32 958139571), .lit (.int .u32 1322822218), .lit (.int .u32 1537002063), .lit (.int .u32 1747873779), .lit (.int .u32 1955562222), .lit (.int .u32 2024104815), .lit (.int .u32 2227730452), .lit (.int .u32 2361852424), .lit (.int .u32 2428436474), .lit (.int .u32 2756734187), .lit (.int .u32 3204031479), .lit (.int .u32 3329325298)]
def laid_sealingwax_words_sizes {H : Type} : DataW H := .agg [.lit (.int .i64 1), .lit (.int .i64 2), .lit (.int .i64 4), .lit (.int .i64 8)]

/-- 'sealingwaxlaw10.FrontierPlay': WHATEVER THE INPUT: true; the input reads as it did. -/
def frontierPlaySpec : ChangeSpec := { name := "frontierPlay", fn := fun _ => fun
  | [d1, d2, d3] => { results := [.lit (.bool true)], args := [d1, d2, d3] }
  | _ => none }
def frontierPlayRow : OpenClaim := { program := "ytnhfadjlajljlaadoor", sum := "d4b9ffb66eb0d45de48137ad90e6eca4cde8364e9c7713bbbdae9ccd16be5068", func := "sealingwax/sealingwaxlaw10.FrontierPlay", spec := "frontierPlay", unfollowed := true, recurses := true, named := ["math/bits.deBruijn32tab", "math/bits.deBruijn64tab", "sealingwax/words.sizes", "sealingwax/sha.k", "sealingwax/sealingwaxref02.k"], apart := false, laid := [("math/bits.deBruijn32tab", laid_math_bits_deBruijn32tab), ("math/bits.deBruijn64tab", laid_math_bits_deBruijn64tab), ("sealingwax/sealingwaxref02.k", laid_sealingwax_sealingwaxref02_k), ("sealingwax/sha.k", laid_sealingwax_sha_k), ("sealingwax/words.sizes", laid_sealingwax_words_sizes)] }
def FrontierPlaySaid : Prop := frontierPlayRow.holds Tryd.pinned (OpenSpec.ofChange frontierPlaySpec)

/-- ITS FALSE NEIGHBOUR: 'it returns false'. Refute it at one input. -/
def frontierPlayWrong : ChangeSpec := { name := "frontierPlay", fn := fun _ => fun
  | [d1, d2, d3] => { results := [.lit (.bool false)], args := [d1, d2, d3] }
  | _ => none }
def FrontierPlayWrongFalsely : Prop := frontierPlayRow.holds Tryd.pinned (OpenSpec.ofChange frontierPlayWrong)

/-- 'sealingwaxlaw10.FrontierNone': WHATEVER THE INPUT: true; the input reads as it did. -/
def frontierNoneSpec : ChangeSpec := { name := "frontierNone", fn := fun _ => fun
  | [d] => { results := [.lit (.bool true)], args := [d] }
  | _ => none }
def frontierNoneRow : OpenClaim := { program := "ytnhfadjlajljlaadoor", sum := "d4b9ffb66eb0d45de48137ad90e6eca4cde8364e9c7713bbbdae9ccd16be5068", func := "sealingwax/sealingwaxlaw10.FrontierNone", spec := "frontierNone", unfollowed := true, recurses := true, named := ["math/bits.deBruijn32tab", "math/bits.deBruijn64tab", "sealingwax/words.sizes", "sealingwax/sha.k"], apart := false, laid := [("math/bits.deBruijn32tab", laid_math_bits_deBruijn32tab), ("math/bits.deBruijn64tab", laid_math_bits_deBruijn64tab), ("sealingwax/sha.k", laid_sealingwax_sha_k), ("sealingwax/words.sizes", laid_sealingwax_words_sizes)] }
def FrontierNoneSaid : Prop := frontierNoneRow.holds Tryd.pinned (OpenSpec.ofChange frontierNoneSpec)

/-- ITS FALSE NEIGHBOUR: 'it returns false'. Refute it at one input. -/
def frontierNoneWrong : ChangeSpec := { name := "frontierNone", fn := fun _ => fun
  | [d] => { results := [.lit (.bool false)], args := [d] }
  | _ => none }
def FrontierNoneWrongFalsely : Prop := frontierNoneRow.holds Tryd.pinned (OpenSpec.ofChange frontierNoneWrong)

/-- 'sealingwaxlaw10.FrontierRoot': WHATEVER THE INPUT: true; the input reads as it did. -/
def frontierRootSpec : ChangeSpec := { name := "frontierRoot", fn := fun _ => fun
  | [d] => { results := [.lit (.bool true)], args := [d] }
  | _ => none }
def frontierRootRow : OpenClaim := { program := "ytnhfadjlajljlaadoor", sum := "d4b9ffb66eb0d45de48137ad90e6eca4cde8364e9c7713bbbdae9ccd16be5068", func := "sealingwax/sealingwaxlaw10.FrontierRoot", spec := "frontierRoot", unfollowed := true, recurses := true, named := ["sealingwax/sha.k", "sealingwax/words.sizes", "math/bits.deBruijn32tab", "math/bits.deBruijn64tab"], apart := false, laid := [("math/bits.deBruijn32tab", laid_math_bits_deBruijn32tab), ("math/bits.deBruijn64tab", laid_math_bits_deBruijn64tab), ("sealingwax/sha.k", laid_sealingwax_sha_k), ("sealingwax/words.sizes", laid_sealingwax_words_sizes)] }
def FrontierRootSaid : Prop := frontierRootRow.holds Tryd.pinned (OpenSpec.ofChange frontierRootSpec)

/-- ITS FALSE NEIGHBOUR: 'it returns false'. Refute it at one input. -/
def frontierRootWrong : ChangeSpec := { name := "frontierRoot", fn := fun _ => fun
  | [d] => { results := [.lit (.bool false)], args := [d] }
  | _ => none }
def FrontierRootWrongFalsely : Prop := frontierRootRow.holds Tryd.pinned (OpenSpec.ofChange frontierRootWrong)

/-- 'sealingwaxlaw10.FrontierOn': WHATEVER THE INPUT: true; the input reads as it did. -/
def frontierOnSpec : ChangeSpec := { name := "frontierOn", fn := fun _ => fun
  | [d1, d2] => { results := [.lit (.bool true)], args := [d1, d2] }
  | _ => none }
def frontierOnRow : OpenClaim := { program := "ytnhfadjlajljlaadoor", sum := "d4b9ffb66eb0d45de48137ad90e6eca4cde8364e9c7713bbbdae9ccd16be5068", func := "sealingwax/sealingwaxlaw10.FrontierOn", spec := "frontierOn", unfollowed := true, recurses := true, named := ["math/bits.deBruijn32tab", "math/bits.deBruijn64tab", "sealingwax/words.sizes", "sealingwax/sha.k"], apart := false, laid := [("math/bits.deBruijn32tab", laid_math_bits_deBruijn32tab), ("math/bits.deBruijn64tab", laid_math_bits_deBruijn64tab), ("sealingwax/sha.k", laid_sealingwax_sha_k), ("sealingwax/words.sizes", laid_sealingwax_words_sizes)] }
def FrontierOnSaid : Prop := frontierOnRow.holds Tryd.pinned (OpenSpec.ofChange frontierOnSpec)

/-- ITS FALSE NEIGHBOUR: 'it returns false'. Refute it at one input. -/
def frontierOnWrong : ChangeSpec := { name := "frontierOn", fn := fun _ => fun
  | [d1, d2] => { results := [.lit (.bool false)], args := [d1, d2] }
  | _ => none }
def FrontierOnWrongFalsely : Prop := frontierOnRow.holds Tryd.pinned (OpenSpec.ofChange frontierOnWrong)

/-- 'sealingwaxlaw10.FrontierFull': WHATEVER THE INPUT: true; the input reads as it did. -/
def frontierFullSpec : ChangeSpec := { name := "frontierFull", fn := fun _ => fun
  | [d1, d2] => { results := [.lit (.bool true)], args := [d1, d2] }
  | _ => none }
def frontierFullRow : OpenClaim := { program := "ytnhfadjlajljlaadoor", sum := "d4b9ffb66eb0d45de48137ad90e6eca4cde8364e9c7713bbbdae9ccd16be5068", func := "sealingwax/sealingwaxlaw10.FrontierFull", spec := "frontierFull", unfollowed := true, recurses := true, named := ["sealingwax/words.sizes", "sealingwax/sha.k", "math/bits.deBruijn32tab", "math/bits.deBruijn64tab"], apart := false, laid := [("math/bits.deBruijn32tab", laid_math_bits_deBruijn32tab), ("math/bits.deBruijn64tab", laid_math_bits_deBruijn64tab), ("sealingwax/sha.k", laid_sealingwax_sha_k), ("sealingwax/words.sizes", laid_sealingwax_words_sizes)] }
def FrontierFullSaid : Prop := frontierFullRow.holds Tryd.pinned (OpenSpec.ofChange frontierFullSpec)

/-- ITS FALSE NEIGHBOUR: 'it returns false'. Refute it at one input. -/
def frontierFullWrong : ChangeSpec := { name := "frontierFull", fn := fun _ => fun
  | [d1, d2] => { results := [.lit (.bool false)], args := [d1, d2] }
  | _ => none }
def FrontierFullWrongFalsely : Prop := frontierFullRow.holds Tryd.pinned (OpenSpec.ofChange frontierFullWrong)

/- THE SECOND FORM. 'bulk': how many values and letters a reading holds, each counted each time it is reached (what is shared counts as often as it is met; a slice's spare places count too). A statement '..UptoSaid' is the law's where the arguments, and the package variables that the reading takes, are together of bulk at most 1048576: NARROWER than '..Said'. Prove '..Said' where nothing that the law and all that it calls make is longer than what came in: it says more and counts as full. Else prove '..UptoSaid'. A law counts once. -/
mutual
def uptoBulk {H : Type} : DataW H → Nat
  | .lit (.string bytes) => bytes.length + 1
  | .lit _ => 1
  | .nil => 1
  | .ptr d => uptoBulk d + 1
  | .slice elems spare => uptoBulkAll elems + uptoBulkAll spare + 1
  | .agg parts => uptoBulkAll parts + 1
  | .iface _ d => uptoBulk d + 1
  | .map entries => uptoBulkEntries entries + 1
  | .held _ => 1
def uptoBulkAll {H : Type} : List (DataW H) → Nat
  | [] => 0
  | d :: r => uptoBulk d + uptoBulkAll r
def uptoBulkEntries {H : Type} : List (Lit × DataW H) → Nat
  | [] => 0
  | x :: r => uptoBulkEntry x + uptoBulkEntries r
def uptoBulkEntry {H : Type} : Lit × DataW H → Nat
  | (.string bytes, d) => bytes.length + uptoBulk d + 1
  | (_, d) => uptoBulk d + 1
 end
def uptoSmall : (H : Type) → List (DataW H) → Bool := fun _ ds => decide (uptoBulkAll ds ≤ 1048576)
def OpenSpec.upto (s : _root_.Go.ChangeSpec) : _root_.Go.OpenSpec := { _root_.Go.OpenSpec.ofChange s with cond := some uptoSmall }

/-- 'sealingwaxlaw10.FrontierPlay', WHERE WHAT IT READS IS OF BULK AT MOST 1048576: true; the input reads as it did. -/
def frontierPlayUptoRow : OpenClaim := { program := "ytnhfadjlajljlaadoor", sum := "d4b9ffb66eb0d45de48137ad90e6eca4cde8364e9c7713bbbdae9ccd16be5068", func := "sealingwax/sealingwaxlaw10.FrontierPlay", spec := "frontierPlay", unfollowed := true, recurses := true, named := ["math/bits.deBruijn32tab", "math/bits.deBruijn64tab", "sealingwax/words.sizes", "sealingwax/sha.k", "sealingwax/sealingwaxref02.k"], apart := false, laid := [("math/bits.deBruijn32tab", laid_math_bits_deBruijn32tab), ("math/bits.deBruijn64tab", laid_math_bits_deBruijn64tab), ("sealingwax/sealingwaxref02.k", laid_sealingwax_sealingwaxref02_k), ("sealingwax/sha.k", laid_sealingwax_sha_k), ("sealingwax/words.sizes", laid_sealingwax_words_sizes)], narrowed := true }
def FrontierPlayUptoSaid : Prop := frontierPlayUptoRow.holds Tryd.pinned (OpenSpec.upto frontierPlaySpec)

/-- 'sealingwaxlaw10.FrontierNone', WHERE WHAT IT READS IS OF BULK AT MOST 1048576: true; the input reads as it did. -/
def frontierNoneUptoRow : OpenClaim := { program := "ytnhfadjlajljlaadoor", sum := "d4b9ffb66eb0d45de48137ad90e6eca4cde8364e9c7713bbbdae9ccd16be5068", func := "sealingwax/sealingwaxlaw10.FrontierNone", spec := "frontierNone", unfollowed := true, recurses := true, named := ["math/bits.deBruijn32tab", "math/bits.deBruijn64tab", "sealingwax/words.sizes", "sealingwax/sha.k"], apart := false, laid := [("math/bits.deBruijn32tab", laid_math_bits_deBruijn32tab), ("math/bits.deBruijn64tab", laid_math_bits_deBruijn64tab), ("sealingwax/sha.k", laid_sealingwax_sha_k), ("sealingwax/words.sizes", laid_sealingwax_words_sizes)], narrowed := true }
def FrontierNoneUptoSaid : Prop := frontierNoneUptoRow.holds Tryd.pinned (OpenSpec.upto frontierNoneSpec)

/-- 'sealingwaxlaw10.FrontierRoot', WHERE WHAT IT READS IS OF BULK AT MOST 1048576: true; the input reads as it did. -/
def frontierRootUptoRow : OpenClaim := { program := "ytnhfadjlajljlaadoor", sum := "d4b9ffb66eb0d45de48137ad90e6eca4cde8364e9c7713bbbdae9ccd16be5068", func := "sealingwax/sealingwaxlaw10.FrontierRoot", spec := "frontierRoot", unfollowed := true, recurses := true, named := ["sealingwax/sha.k", "sealingwax/words.sizes", "math/bits.deBruijn32tab", "math/bits.deBruijn64tab"], apart := false, laid := [("math/bits.deBruijn32tab", laid_math_bits_deBruijn32tab), ("math/bits.deBruijn64tab", laid_math_bits_deBruijn64tab), ("sealingwax/sha.k", laid_sealingwax_sha_k), ("sealingwax/words.sizes", laid_sealingwax_words_sizes)], narrowed := true }
def FrontierRootUptoSaid : Prop := frontierRootUptoRow.holds Tryd.pinned (OpenSpec.upto frontierRootSpec)

/-- 'sealingwaxlaw10.FrontierOn', WHERE WHAT IT READS IS OF BULK AT MOST 1048576: true; the input reads as it did. -/
def frontierOnUptoRow : OpenClaim := { program := "ytnhfadjlajljlaadoor", sum := "d4b9ffb66eb0d45de48137ad90e6eca4cde8364e9c7713bbbdae9ccd16be5068", func := "sealingwax/sealingwaxlaw10.FrontierOn", spec := "frontierOn", unfollowed := true, recurses := true, named := ["math/bits.deBruijn32tab", "math/bits.deBruijn64tab", "sealingwax/words.sizes", "sealingwax/sha.k"], apart := false, laid := [("math/bits.deBruijn32tab", laid_math_bits_deBruijn32tab), ("math/bits.deBruijn64tab", laid_math_bits_deBruijn64tab), ("sealingwax/sha.k", laid_sealingwax_sha_k), ("sealingwax/words.sizes", laid_sealingwax_words_sizes)], narrowed := true }
def FrontierOnUptoSaid : Prop := frontierOnUptoRow.holds Tryd.pinned (OpenSpec.upto frontierOnSpec)

/-- 'sealingwaxlaw10.FrontierFull', WHERE WHAT IT READS IS OF BULK AT MOST 1048576: true; the input reads as it did. -/
def frontierFullUptoRow : OpenClaim := { program := "ytnhfadjlajljlaadoor", sum := "d4b9ffb66eb0d45de48137ad90e6eca4cde8364e9c7713bbbdae9ccd16be5068", func := "sealingwax/sealingwaxlaw10.FrontierFull", spec := "frontierFull", unfollowed := true, recurses := true, named := ["sealingwax/words.sizes", "sealingwax/sha.k", "math/bits.deBruijn32tab", "math/bits.deBruijn64tab"], apart := false, laid := [("math/bits.deBruijn32tab", laid_math_bits_deBruijn32tab), ("math/bits.deBruijn64tab", laid_math_bits_deBruijn64tab), ("sealingwax/sha.k", laid_sealingwax_sha_k), ("sealingwax/words.sizes", laid_sealingwax_words_sizes)], narrowed := true }
def FrontierFullUptoSaid : Prop := frontierFullUptoRow.holds Tryd.pinned (OpenSpec.upto frontierFullSpec)

end Rows
end Go.Proofs.YtnhfadjlajljlaaDoor
