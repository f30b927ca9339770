/- The hash of a text, as plain functions: nothing of the program. -/
import Derived.Test.YtficmbaffkkfhabDoorSm
namespace Go.Proofs.YtficmbaffkkfhabDoor
open Go.RowKit

/-- A block's byte, as a word. -/
def byAt (l : List UInt8) (i : Nat) : W32 := bw (l.getD i 0)
/-- The words that so many bytes of a block fill. -/
def fill (l : List UInt8) : Nat → Nat → W32
  | 0 => fun _ => 0
  | i + 1 => upd (fill l i) (i / 4) (fill l i (i / 4) <<< 8 ||| byAt l i)
/-- So many words more. -/
def schT (l : List UInt8) : Nat → Nat → W32
  | 0 => fill l 64
  | t + 1 => upd (schT l t) (t + 16) (s1 (schT l t (t + 14)) + schT l t (t + 9) + s0 (schT l t (t + 1)) + schT l t t)
/-- A block's 64 words. -/
def sch (l : List UInt8) : Nat → W32 := schT l 48
/-- The words that the rounds add. -/
def kList : List Nat := [1116352408, 1899447441, 3049323471, 3921009573, 961987163, 1508970993, 2453635748, 2870763221, 3624381080, 310598401, 607225278, 1426881987, 1925078388, 2162078206, 2614888103, 3248222580, 3835390401, 4022224774, 264347078, 604807628, 770255983, 1249150122, 1555081692, 1996064986, 2554220882, 2821834349, 2952996808, 3210313671, 3336571891, 3584528711, 113926993, 338241895, 666307205, 773529912, 1294757372, 1396182291, 1695183700, 1986661051, 2177026350, 2456956037, 2730485921, 2820302411, 3259730800, 3345764771, 3516065817, 3600352804, 4094571909, 275423344, 430227734, 506948616, 659060556, 883997877, 958139571, 1322822218, 1537002063, 1747873779, 1955562222, 2024104815, 2227730452, 2361852424, 2428436474, 2756734187, 3204031479, 3329325298]
def kk (t : Nat) : W32 := BitVec.ofNat 32 (kList.getD t 0)
/-- The first of a round's two sums. -/
def tOne (v : Nat → W32) (k w : W32) : W32 := v 7 + S1 (v 4) + chw (v 4) (v 5) (v 6) + k + w
/-- The second one. -/
def tTwo (v : Nat → W32) : W32 := S0 (v 0) + maw (v 0) (v 1) (v 2)
/-- A round. -/
def turn (v : Nat → W32) (k w : W32) : Nat → W32 := fun j => if j = 0 then tOne v k w + tTwo v else if j = 4 then v 3 + tOne v k w else v (j - 1)
/-- So many rounds. -/
def turns (wd s : Nat → W32) : Nat → Nat → W32
  | 0 => s
  | t + 1 => turn (turns wd s t) (kk t) (wd t)
/-- The state behind one more block. -/
def bhd (s : Nat → W32) (l : List UInt8) : Nat → W32 := fun j => s j + turns (sch l) s 64 j
def iList : List Nat := [1779033703, 3144134277, 1013904242, 2773480762, 1359893119, 2600822924, 528734635, 1541459225]
/-- The first state. -/
def ini (j : Nat) : W32 := BitVec.ofNat 32 (iList.getD j 0)
end Go.Proofs.YtficmbaffkkfhabDoor
