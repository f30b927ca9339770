/-
  No cell of these rows narrows 'for every input' (looked for: loops, veiled, ifaces, maps, wideKeys, modest, calm, conditions, laid).
  DERIVED. THE GIVEN ROWS OF THIS SEAT. 5 by the template 'for every input the law returns true; each argument reads behind the call as it read before'; 0 by the template 'total and deterministic' (their statements: YthlaackalmgfnabTotals.lean).
  GIVEN WITH THE SEED: the statements are not yours to turn. If you find one false, say at which input.
  Laid BY PROGRAM, IN A SANDBOX (cutbox-rows.mjs): the forced cells as the released guide's own fill.sh prints them over the translation 24602b1e92a47fd2… (all of the seat's roots in one cut). By AI agents, Wed Nov 11 2026. No macro, syntax, notation, axiom, sorry.
-/
import Derived.Test.YthlaackalmgfnabChecked
import GoSem.Claim
import GoSem.ClaimJoined
import GoSem.ClaimMapViews
import Derived.JoinedTies
import Derived.KernelRfl
namespace Go.Proofs.Ythlaackalmgfnab
/- THE CELL 'sum', in the pinned program and in every row, IS THE sha256 OF THE DUMP (.gsa) THAT YthlaackalmgfnabProg.lean LOADS. Nothing in Lean hashes anything: it is a label: what it is worth is what the hold of that sum in a sandbox is worth. -/
noncomputable def Try.pinned : Pinned := { name := "ythlaackalmgfnab", sum := "24602b1e92a47fd251937a79f782f09b25a419c77ac75cfb1f3f21c18120f800", checked := Try.checked }
namespace Rows
def none {H : Type} : Left H := { results := [], args := [] }

/-- 'sealingwaxlaw04.DeviceAlone': WHATEVER THE INPUT: true; the input reads as it did. -/
def deviceAloneSpec : ChangeSpec := { name := "deviceAlone", fn := fun _ => fun
  | [d1, d2, d3] => { results := [.lit (.bool true)], args := [d1, d2, d3] }
  | _ => none }
def deviceAloneRow : OpenClaim := { program := "ythlaackalmgfnab", sum := "24602b1e92a47fd251937a79f782f09b25a419c77ac75cfb1f3f21c18120f800", func := "sealingwax/sealingwaxlaw04.DeviceAlone", spec := "deviceAlone", inPlace := ["sync/atomic.AddInt64", "sync/atomic.LoadInt64"], unfollowed := true, recurses := true, apart := false }
def DeviceAloneSaid : Prop := deviceAloneRow.holds Try.pinned (OpenSpec.ofChange deviceAloneSpec)

/-- ITS FALSE NEIGHBOUR: 'it returns false'. Refute it at one input. -/
def deviceAloneWrong : ChangeSpec := { name := "deviceAlone", fn := fun _ => fun
  | [d1, d2, d3] => { results := [.lit (.bool false)], args := [d1, d2, d3] }
  | _ => none }
def DeviceAloneWrongFalsely : Prop := deviceAloneRow.holds Try.pinned (OpenSpec.ofChange deviceAloneWrong)

/-- 'sealingwaxlaw04.DeviceTamper': WHATEVER THE INPUT: true; the input reads as it did. -/
def deviceTamperSpec : ChangeSpec := { name := "deviceTamper", fn := fun _ => fun
  | [d1, d2, d3] => { results := [.lit (.bool true)], args := [d1, d2, d3] }
  | _ => none }
def deviceTamperRow : OpenClaim := { program := "ythlaackalmgfnab", sum := "24602b1e92a47fd251937a79f782f09b25a419c77ac75cfb1f3f21c18120f800", func := "sealingwax/sealingwaxlaw04.DeviceTamper", spec := "deviceTamper", inPlace := ["sync/atomic.AddInt64", "sync/atomic.LoadInt64"], unfollowed := true, recurses := true, apart := false }
def DeviceTamperSaid : Prop := deviceTamperRow.holds Try.pinned (OpenSpec.ofChange deviceTamperSpec)

/-- ITS FALSE NEIGHBOUR: 'it returns false'. Refute it at one input. -/
def deviceTamperWrong : ChangeSpec := { name := "deviceTamper", fn := fun _ => fun
  | [d1, d2, d3] => { results := [.lit (.bool false)], args := [d1, d2, d3] }
  | _ => none }
def DeviceTamperWrongFalsely : Prop := deviceTamperRow.holds Try.pinned (OpenSpec.ofChange deviceTamperWrong)

/-- 'sealingwaxlaw04.DevicePending': WHATEVER THE INPUT: true; the input reads as it did. -/
def devicePendingSpec : ChangeSpec := { name := "devicePending", fn := fun _ => fun
  | [d1, d2] => { results := [.lit (.bool true)], args := [d1, d2] }
  | _ => none }
def devicePendingRow : OpenClaim := { program := "ythlaackalmgfnab", sum := "24602b1e92a47fd251937a79f782f09b25a419c77ac75cfb1f3f21c18120f800", func := "sealingwax/sealingwaxlaw04.DevicePending", spec := "devicePending", inPlace := ["sync/atomic.AddInt64", "sync/atomic.LoadInt64"], unfollowed := true, recurses := true, apart := false }
def DevicePendingSaid : Prop := devicePendingRow.holds Try.pinned (OpenSpec.ofChange devicePendingSpec)

/-- ITS FALSE NEIGHBOUR: 'it returns false'. Refute it at one input. -/
def devicePendingWrong : ChangeSpec := { name := "devicePending", fn := fun _ => fun
  | [d1, d2] => { results := [.lit (.bool false)], args := [d1, d2] }
  | _ => none }
def DevicePendingWrongFalsely : Prop := devicePendingRow.holds Try.pinned (OpenSpec.ofChange devicePendingWrong)

/-- 'sealingwaxlaw04.DeviceKept': WHATEVER THE INPUT: true; the input reads as it did. -/
def deviceKeptSpec : ChangeSpec := { name := "deviceKept", fn := fun _ => fun
  | [d1, d2] => { results := [.lit (.bool true)], args := [d1, d2] }
  | _ => none }
def deviceKeptRow : OpenClaim := { program := "ythlaackalmgfnab", sum := "24602b1e92a47fd251937a79f782f09b25a419c77ac75cfb1f3f21c18120f800", func := "sealingwax/sealingwaxlaw04.DeviceKept", spec := "deviceKept", inPlace := ["sync/atomic.AddInt64", "sync/atomic.LoadInt64"], unfollowed := true, recurses := true, apart := false }
def DeviceKeptSaid : Prop := deviceKeptRow.holds Try.pinned (OpenSpec.ofChange deviceKeptSpec)

/-- ITS FALSE NEIGHBOUR: 'it returns false'. Refute it at one input. -/
def deviceKeptWrong : ChangeSpec := { name := "deviceKept", fn := fun _ => fun
  | [d1, d2] => { results := [.lit (.bool false)], args := [d1, d2] }
  | _ => none }
def DeviceKeptWrongFalsely : Prop := deviceKeptRow.holds Try.pinned (OpenSpec.ofChange deviceKeptWrong)

/-- 'sealingwaxlaw04.DeviceDown': WHATEVER THE INPUT: true; the input reads as it did. -/
def deviceDownSpec : ChangeSpec := { name := "deviceDown", fn := fun _ => fun
  | [d1, d2, d3] => { results := [.lit (.bool true)], args := [d1, d2, d3] }
  | _ => none }
def deviceDownRow : OpenClaim := { program := "ythlaackalmgfnab", sum := "24602b1e92a47fd251937a79f782f09b25a419c77ac75cfb1f3f21c18120f800", func := "sealingwax/sealingwaxlaw04.DeviceDown", spec := "deviceDown", inPlace := ["sync/atomic.AddInt64", "sync/atomic.LoadInt64"], unfollowed := true, recurses := true, apart := false }
def DeviceDownSaid : Prop := deviceDownRow.holds Try.pinned (OpenSpec.ofChange deviceDownSpec)

/-- ITS FALSE NEIGHBOUR: 'it returns false'. Refute it at one input. -/
def deviceDownWrong : ChangeSpec := { name := "deviceDown", fn := fun _ => fun
  | [d1, d2, d3] => { results := [.lit (.bool false)], args := [d1, d2, d3] }
  | _ => none }
def DeviceDownWrongFalsely : Prop := deviceDownRow.holds Try.pinned (OpenSpec.ofChange deviceDownWrong)

/- THE SECOND FORM. 'bulk': how many values and letters a reading holds, each counted each time it is reached (what is shared counts as often as it is met; a slice's spare places count too). A statement '..UptoSaid' is the law's where the arguments, and the package variables that the reading takes, are together of bulk at most 1048576: NARROWER than '..Said'. Prove '..Said' where nothing that the law and all that it calls make is longer than what came in: it says more and counts as full. Else prove '..UptoSaid'. A law counts once. -/
mutual
def uptoBulk {H : Type} : DataW H → Nat
  | .lit (.string bytes) => bytes.length + 1
  | .lit _ => 1
  | .nil => 1
  | .ptr d => uptoBulk d + 1
  | .slice elems spare => uptoBulkAll elems + uptoBulkAll spare + 1
  | .agg parts => uptoBulkAll parts + 1
  | .iface _ d => uptoBulk d + 1
  | .map entries => uptoBulkEntries entries + 1
  | .held _ => 1
def uptoBulkAll {H : Type} : List (DataW H) → Nat
  | [] => 0
  | d :: r => uptoBulk d + uptoBulkAll r
def uptoBulkEntries {H : Type} : List (Lit × DataW H) → Nat
  | [] => 0
  | x :: r => uptoBulkEntry x + uptoBulkEntries r
def uptoBulkEntry {H : Type} : Lit × DataW H → Nat
  | (.string bytes, d) => bytes.length + uptoBulk d + 1
  | (_, d) => uptoBulk d + 1
 end
def uptoSmall : (H : Type) → List (DataW H) → Bool := fun _ ds => decide (uptoBulkAll ds ≤ 1048576)
def OpenSpec.upto (s : _root_.Go.ChangeSpec) : _root_.Go.OpenSpec := { _root_.Go.OpenSpec.ofChange s with cond := some uptoSmall }

/-- 'sealingwaxlaw04.DeviceAlone', WHERE WHAT IT READS IS OF BULK AT MOST 1048576: true; the input reads as it did. -/
def deviceAloneUptoRow : OpenClaim := { program := "ythlaackalmgfnab", sum := "24602b1e92a47fd251937a79f782f09b25a419c77ac75cfb1f3f21c18120f800", func := "sealingwax/sealingwaxlaw04.DeviceAlone", spec := "deviceAlone", inPlace := ["sync/atomic.AddInt64", "sync/atomic.LoadInt64"], unfollowed := true, recurses := true, apart := false, narrowed := true }
def DeviceAloneUptoSaid : Prop := deviceAloneUptoRow.holds Try.pinned (OpenSpec.upto deviceAloneSpec)

/-- 'sealingwaxlaw04.DeviceTamper', WHERE WHAT IT READS IS OF BULK AT MOST 1048576: true; the input reads as it did. -/
def deviceTamperUptoRow : OpenClaim := { program := "ythlaackalmgfnab", sum := "24602b1e92a47fd251937a79f782f09b25a419c77ac75cfb1f3f21c18120f800", func := "sealingwax/sealingwaxlaw04.DeviceTamper", spec := "deviceTamper", inPlace := ["sync/atomic.AddInt64", "sync/atomic.LoadInt64"], unfollowed := true, recurses := true, apart := false, narrowed := true }
def DeviceTamperUptoSaid : Prop := deviceTamperUptoRow.holds Try.pinned (OpenSpec.upto deviceTamperSpec)

/-- 'sealingwaxlaw04.DevicePending', WHERE WHAT IT READS IS OF BULK AT MOST 1048576: true; the input reads as it did. -/
def devicePendingUptoRow : OpenClaim := { program := "ythlaackalmgfnab", sum := "24602b1e92a47fd251937a79f782f09b25a419c77ac75cfb1f3f21c18120f800", func := "sealingwax/sealingwaxlaw04.DevicePending", spec := "devicePending", inPlace := ["sync/atomic.AddInt64", "sync/atomic.LoadInt64"], unfollowed := true, recurses := true, apart := false, narrowed := true }
def DevicePendingUptoSaid : Prop := devicePendingUptoRow.holds Try.pinned (OpenSpec.upto devicePendingSpec)

/-- 'sealingwaxlaw04.DeviceKept', WHERE WHAT IT READS IS OF BULK AT MOST 1048576: true; the input reads as it did. -/
def deviceKeptUptoRow : OpenClaim := { program := "ythlaackalmgfnab", sum := "24602b1e92a47fd251937a79f782f09b25a419c77ac75cfb1f3f21c18120f800", func := "sealingwax/sealingwaxlaw04.DeviceKept", spec := "deviceKept", inPlace := ["sync/atomic.AddInt64", "sync/atomic.LoadInt64"], unfollowed := true, recurses := true, apart := false, narrowed := true }
def DeviceKeptUptoSaid : Prop := deviceKeptUptoRow.holds Try.pinned (OpenSpec.upto deviceKeptSpec)

/-- 'sealingwaxlaw04.DeviceDown', WHERE WHAT IT READS IS OF BULK AT MOST 1048576: true; the input reads as it did. -/
def deviceDownUptoRow : OpenClaim := { program := "ythlaackalmgfnab", sum := "24602b1e92a47fd251937a79f782f09b25a419c77ac75cfb1f3f21c18120f800", func := "sealingwax/sealingwaxlaw04.DeviceDown", spec := "deviceDown", inPlace := ["sync/atomic.AddInt64", "sync/atomic.LoadInt64"], unfollowed := true, recurses := true, apart := false, narrowed := true }
def DeviceDownUptoSaid : Prop := deviceDownUptoRow.holds Try.pinned (OpenSpec.upto deviceDownSpec)

end Rows
end Go.Proofs.Ythlaackalmgfnab
