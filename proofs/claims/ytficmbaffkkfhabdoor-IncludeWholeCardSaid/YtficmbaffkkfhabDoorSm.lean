/- Plain facts on words of 32 bits, and arrays of them: nothing of the program. -/
import Derived.Test.YtficmbaffkkfhabDoorM2
import Derived.WalkSpells
import Derived.WalkLawsBesides
namespace Go.Proofs.YtficmbaffkkfhabDoor
open Go.RowKit

/-- A word of 32 bits. -/
abbrev W32 := BitVec 32
/-- A word as a number. -/
def iw (x : W32) : Int := (x.toNat : Int)
theorem iw_nonneg (x : W32) : 0 ≤ iw x := by unfold iw; omega
theorem iw_lt (x : W32) : iw x < 4294967296 := by have := x.isLt; unfold iw; omega
theorem iw_inj {x y : W32} (h : iw x = iw y) : x = y := by
  unfold iw at h; exact BitVec.eq_of_toNat_eq (by omega)
theorem iw_and (a b : W32) : bits .and .u32 (iw a) (iw b) = iw (a &&& b) := by
  unfold iw; rw [u32_and_nat _ _ a.isLt b.isLt, BitVec.toNat_and]
theorem iw_or (a b : W32) : bits .or .u32 (iw a) (iw b) = iw (a ||| b) := by
  unfold iw; rw [u32_or_nat _ _ a.isLt b.isLt, BitVec.toNat_or]
theorem iw_xor (a b : W32) : bits .xor .u32 (iw a) (iw b) = iw (a ^^^ b) := by
  unfold iw; rw [u32_xor_nat _ _ a.isLt b.isLt, BitVec.toNat_xor]
theorem iw_max : IntKind.u32.max = iw (BitVec.allOnes 32) := by decide
theorem iw_not (a : W32) : bits .xor .u32 IntKind.u32.max (iw a) = iw (~~~a) := by
  rw [iw_max, iw_xor, BitVec.allOnes_xor]
theorem iw_add (a b : W32) : IntKind.u32.wrap (iw a + iw b) = iw (a + b) := by
  rw [IntKind.wrap_u32']; unfold iw; rw [BitVec.toNat_add]; omega
theorem iw_add' (a b : W32) : (iw a + iw b) % 4294967296 = iw (a + b) := by
  rw [← IntKind.wrap_u32', iw_add]
theorem iw_shl (a : W32) (n : Nat) : IntKind.u32.wrap (iw a * 2 ^ n) = iw (a <<< n) := by
  rw [IntKind.wrap_u32']; unfold iw; rw [BitVec.toNat_shiftLeft, Nat.shiftLeft_eq]
  simp
theorem iw_shr (a : W32) (n : Nat) : iw a / 2 ^ n = iw (a >>> n) := by
  unfold iw; rw [BitVec.toNat_ushiftRight, Nat.shiftRight_eq_div_pow]
  simp
/-- A byte as a word. -/
def bw (b : UInt8) : W32 := BitVec.ofNat 32 b.toNat
theorem iw_bw (b : UInt8) : iw (bw b) = (b.toNat : Int) := by
  have := UInt8.toNat_lt b
  unfold iw bw; simp
  try omega

/-- A word's n lowest bits taken round to its top. -/
def rr (x : W32) (n : Nat) : W32 := x >>> n ||| x <<< (32 - n)
def S0 (x : W32) : W32 := rr x 2 ^^^ rr x 13 ^^^ rr x 22
def S1 (x : W32) : W32 := rr x 6 ^^^ rr x 11 ^^^ rr x 25
def s0 (x : W32) : W32 := rr x 7 ^^^ rr x 18 ^^^ x >>> 3
def s1 (x : W32) : W32 := rr x 17 ^^^ rr x 19 ^^^ x >>> 10
def chw (x y z : W32) : W32 := x &&& y ^^^ ~~~x &&& z
def maw (x y z : W32) : W32 := x &&& y ^^^ x &&& z ^^^ y &&& z

/-- Another value at one place. -/
def upd (f : Nat → W32) (i : Nat) (x : W32) : Nat → W32 := fun j => if j = i then x else f j
theorem upd_same (f : Nat → W32) (i : Nat) (x : W32) : upd f i x i = x := by simp [upd]
theorem upd_other (f : Nat → W32) {i j : Nat} (x : W32) (h : j ≠ i) : upd f i x j = f j := by simp [upd, h]
/-- An array of n words. -/
def cf (n : Nat) (f : Nat → W32) : Array Value := ((List.range n).map fun j => Value.int .u32 (iw (f j))).toArray
@[simp] theorem cf_size (n : Nat) (f : Nat → W32) : (cf n f).size = n := by simp [cf]
theorem cf_get {n : Nat} (f : Nat → W32) {i : Nat} (h : i < n) : (cf n f)[i]? = some (.int .u32 (iw (f i))) := by
  simp [cf, h]
theorem cf_set {n : Nat} (f : Nat → W32) {i : Nat} (x : W32) (h : i < n) : (cf n f).setIfInBounds i (.int .u32 (iw x)) = cf n (upd f i x) := by
  apply Array.ext_getElem?
  intro j
  rw [Array.getElem?_setIfInBounds]
  by_cases hj : j < n
  · by_cases e : i = j
    · subst e; rw [cf_get (upd f i x) hj, upd_same]; simp [h]
    · rw [if_neg e, cf_get _ hj, cf_get _ hj, upd_other _ _ (fun h => e h.symm)]
  · have h1 : (cf n (upd f i x))[j]? = none := Array.getElem?_eq_none (by simp; omega)
    have h2 : (cf n f)[j]? = none := Array.getElem?_eq_none (by simp; omega)
    rw [h1, if_neg (by omega), h2]
theorem cf_one (n : Nat) (f : Nat → W32) : (cf n f).all (·.oneCell') = true := by
  simp [cf]
  intro i _; rfl
theorem cf_congr {n : Nat} {f g : Nat → W32} (h : ∀ i, i < n → f i = g i) : cf n f = cf n g := by
  unfold cf
  congr 1
  apply List.map_congr_left
  intro i hi
  rw [h i (by simpa using hi)]
theorem cf_inj {n : Nat} {f g : Nat → W32} (h : cf n f = cf n g) : ∀ i, i < n → f i = g i := by
  intro i hi
  have h1 := cf_get f hi
  have h2 := cf_get g hi
  rw [h, h2] at h1
  simp at h1
  exact (iw_inj h1).symm
end Go.Proofs.YtficmbaffkkfhabDoor
