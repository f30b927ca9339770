/- DeviceFail's loop: its body, its frame, what holds ahead of a round. -/
import Derived.Test.YthlaackalmgfnaaEs
import Derived.Test.YthlaackalmgfnaaEc
import Derived.Deep.CutRange
namespace Go.Proofs.Ythlaackalmgfnaa
open Go.RowKit

/-- The body of a loop of a code: the first one that stands there. -/
def loopOf : Code → Option Code
  | .block _ x => loopOf x
  | .scope x => loopOf x
  | .loop x => some x
  | .seq x y => (loopOf x).orElse fun _ => loopOf y
  | .cond _ x y => (loopOf x).orElse fun _ => loopOf y
  | _ => none
def fbodyOf (fn : Func) : Code := ((fn.body.bind loopOf).getD .skip)
set_option maxRecDepth 1000000 in
/-- The frame at the head of a round. -/
def ffr (u cc : Nat → Value) (x0 x1 x4 : Value) (ka : Option Addr) (kl kc g p1 p2 left m : Nat) : Act := ⟨#[x0, x1, .slice ka kl kc, .pointer (some ⟨g, 0, none⟩), x4, cc 5, u 6, .pointer (some ⟨p1, 0, none⟩), .pointer (some ⟨p2, 0, none⟩), .int .i64 (left : Int), .int .i64 (m : Int), u 11, u 12, u 13, u 14, u 15, u 16, cc 17, cc 18, cc 19, cc 20, cc 21, cc 22, cc 23, cc 24, cc 25, cc 26, cc 27, cc 28, cc 29, cc 30, cc 31, cc 32, cc 33, cc 34, cc 35, cc 36, cc 37, cc 38, cc 39, cc 40, cc 41, cc 42, cc 43, cc 44, cc 45, cc 46, cc 47, cc 48, cc 49, cc 50, cc 51, cc 52, cc 53, cc 54, cc 55, cc 56, u 57, u 58, u 59, u 60, u 61, u 62, u 63, u 64, u 65, u 66, u 67, u 68, u 69, u 70, u 71, u 72, u 73, u 74, u 75, u 76, u 77, u 78, u 79, u 80, u 81, u 82, u 83, u 84, u 85, u 86, u 87, u 88, u 89, u 90, u 91, u 92, u 93, u 94, u 95, u 96, u 97, u 98, u 99, u 100, u 101, u 102, u 103, u 104, u 105, u 106, u 107, u 108, u 109, u 110, u 111, u 112, u 113, u 114, u 115, u 116, u 117, u 118, u 119, u 120, u 121, u 122, u 123, u 124, u 125, u 126, u 127, u 128, u 129, u 130, u 131, u 132, u 133, u 134, u 135, u 136, u 137, u 138, u 139, u 140, u 141, u 142, u 143, u 144, u 145, u 146, u 147, u 148, u 149, u 150, u 151, u 152, u 153, u 154, u 155, u 156, u 157, u 158, u 159, u 160, u 161, u 162, u 163, u 164, u 165, u 166, u 167, u 168, u 169, u 170, u 171, u 172, u 173, u 174, u 175, u 176, u 177, u 178, u 179, u 180, u 181, u 182, u 183, u 184, u 185, u 186, u 187, u 188, u 189, u 190, u 191, u 192, u 193, u 194, u 195, u 196, u 197, u 198, u 199, u 200, u 201, u 202, u 203, cc 204, cc 205, cc 206, cc 207, cc 208, cc 209, cc 210, cc 211, cc 212, cc 213, cc 214, cc 215, cc 216, cc 217, cc 218, cc 219, cc 220, cc 221, cc 222, cc 223, cc 224, cc 225, cc 226, cc 227, cc 228, cc 229], []⟩
/-- What is the same in all rounds. -/
structure FK (w0 : World) (g : Nat) (a' : Option Addr) (c' : Nat) (ys : List DoX) (k : List Int) (ka : Option Addr) (kc st0 : Nat) : Prop where
  box : ∀ wr, Below w0.heap.size w0 wr → wr.cell? ⟨g, 1, none⟩ = some (.slice a' ys.length c')
  dos : DosAt w0 a' ys
  keep : IntsAt w0 (.slice ka k.length kc) k
  few : ys.length ≤ 60
  much : ∀ x ∈ ys, x.k.length ≤ 100
  st : st0 ≤ 61
/-- What holds ahead of a round. -/
structure FR (w0 : World) (p1 p2 : Nat) (k : List Int) (st0 left m : Nat) (o : Dv) (wr : World) : Prop where
  lt : left < 20
  wf : Wf o
  up : o.up = true
  starts : o.starts = st0
  few : o.acts.length ≤ 60 + m
  sys : Sys w0 [(p1, wF o left k), (p2, o)] [] [] [] wr
def fWI (w0 : World) (cc : Nat → Value) (x0 x1 x4 : Value) (ka : Option Addr) (kc g p1 p2 : Nat) (k : List Int) (st0 ny : Nat) (a : Act) (wr : World) : Prop :=
  ∃ (u : Nat → Value) (left m : Nat) (o : Dv), m ≤ ny ∧ FR w0 p1 p2 k st0 left m o wr ∧ a = ffr u cc x0 x1 x4 ka k.length kc g p1 p2 left m
def fmu (ny : Nat) (a : Act) (_ : World) : Nat := ny - (intOf (a.tmps.getD 10 undef)).toNat
theorem fWI_intro {w0 : World} {cc : Nat → Value} {x0 x1 x4 : Value} {ka : Option Addr} {kc g p1 p2 : Nat} {k : List Int} {st0 ny : Nat} {a : Act} {wr : World} (left m : Nat) (o : Dv) (hm : m ≤ ny) (h : FR w0 p1 p2 k st0 left m o wr) (e : a = ffr (fun q => a.tmps.getD q undef) cc x0 x1 x4 ka k.length kc g p1 p2 left m) : fWI w0 cc x0 x1 x4 ka kc g p1 p2 k st0 ny a wr := ⟨_, left, m, o, hm, h, e⟩
end Go.Proofs.Ythlaackalmgfnaa
