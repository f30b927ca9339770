/- Laws on a heap's blocks behind a store. -/
import Derived.Test.YtficmbaffkkfhaaDoorW1
import Derived.WalkSpells
import Derived.WalkLawsBesides
import Derived.Test.YtficmbaffkkfhaaDoorChecked
import Derived.WalkKit
/- Plain facts on words of 32 bits, and arrays of them: nothing of the program. -/
namespace Go.Proofs.YtficmbaffkkfhaaDoor
open Go.RowKit

/-- A word of 32 bits. -/
abbrev W32 := BitVec 32
/-- A word as a number. -/
def iw (x : W32) : Int := (x.toNat : Int)
theorem iw_nonneg (x : W32) : 0 ≤ iw x := by unfold iw; omega
theorem iw_lt (x : W32) : iw x < 4294967296 := by have := x.isLt; unfold iw; omega
theorem iw_inj {x y : W32} (h : iw x = iw y) : x = y := by
  unfold iw at h; exact BitVec.eq_of_toNat_eq (by omega)
theorem iw_and (a b : W32) : bits .and .u32 (iw a) (iw b) = iw (a &&& b) := by
  unfold iw; rw [u32_and_nat _ _ a.isLt b.isLt, BitVec.toNat_and]
theorem iw_or (a b : W32) : bits .or .u32 (iw a) (iw b) = iw (a ||| b) := by
  unfold iw; rw [u32_or_nat _ _ a.isLt b.isLt, BitVec.toNat_or]
theorem iw_xor (a b : W32) : bits .xor .u32 (iw a) (iw b) = iw (a ^^^ b) := by
  unfold iw; rw [u32_xor_nat _ _ a.isLt b.isLt, BitVec.toNat_xor]
theorem iw_max : IntKind.u32.max = iw (BitVec.allOnes 32) := by decide
theorem iw_not (a : W32) : bits .xor .u32 IntKind.u32.max (iw a) = iw (~~~a) := by
  rw [iw_max, iw_xor, BitVec.allOnes_xor]
theorem iw_add (a b : W32) : IntKind.u32.wrap (iw a + iw b) = iw (a + b) := by
  rw [IntKind.wrap_u32']; unfold iw; rw [BitVec.toNat_add]; omega
theorem iw_add' (a b : W32) : (iw a + iw b) % 4294967296 = iw (a + b) := by
  rw [← IntKind.wrap_u32', iw_add]
theorem iw_shl (a : W32) (n : Nat) : IntKind.u32.wrap (iw a * 2 ^ n) = iw (a <<< n) := by
  rw [IntKind.wrap_u32']; unfold iw; rw [BitVec.toNat_shiftLeft, Nat.shiftLeft_eq]
  simp
theorem iw_shr (a : W32) (n : Nat) : iw a / 2 ^ n = iw (a >>> n) := by
  unfold iw; rw [BitVec.toNat_ushiftRight, Nat.shiftRight_eq_div_pow]
  simp
/-- A byte as a word. -/
def bw (b : UInt8) : W32 := BitVec.ofNat 32 b.toNat
theorem iw_bw (b : UInt8) : iw (bw b) = (b.toNat : Int) := by
  have := UInt8.toNat_lt b
  unfold iw bw; simp
  try omega

/-- A word's n lowest bits taken round to its top. -/
def rr (x : W32) (n : Nat) : W32 := x >>> n ||| x <<< (32 - n)
def S0 (x : W32) : W32 := rr x 2 ^^^ rr x 13 ^^^ rr x 22
def S1 (x : W32) : W32 := rr x 6 ^^^ rr x 11 ^^^ rr x 25
def s0 (x : W32) : W32 := rr x 7 ^^^ rr x 18 ^^^ x >>> 3
def s1 (x : W32) : W32 := rr x 17 ^^^ rr x 19 ^^^ x >>> 10
def chw (x y z : W32) : W32 := x &&& y ^^^ ~~~x &&& z
def maw (x y z : W32) : W32 := x &&& y ^^^ x &&& z ^^^ y &&& z

/-- Another value at one place. -/
def upd (f : Nat → W32) (i : Nat) (x : W32) : Nat → W32 := fun j => if j = i then x else f j
theorem upd_same (f : Nat → W32) (i : Nat) (x : W32) : upd f i x i = x := by simp [upd]
theorem upd_other (f : Nat → W32) {i j : Nat} (x : W32) (h : j ≠ i) : upd f i x j = f j := by simp [upd, h]
/-- An array of n words. -/
def cf (n : Nat) (f : Nat → W32) : Array Value := ((List.range n).map fun j => Value.int .u32 (iw (f j))).toArray
@[simp] theorem cf_size (n : Nat) (f : Nat → W32) : (cf n f).size = n := by simp [cf]
theorem cf_get {n : Nat} (f : Nat → W32) {i : Nat} (h : i < n) : (cf n f)[i]? = some (.int .u32 (iw (f i))) := by
  simp [cf, h]
theorem cf_set {n : Nat} (f : Nat → W32) {i : Nat} (x : W32) (h : i < n) : (cf n f).setIfInBounds i (.int .u32 (iw x)) = cf n (upd f i x) := by
  apply Array.ext_getElem?
  intro j
  rw [Array.getElem?_setIfInBounds]
  by_cases hj : j < n
  · by_cases e : i = j
    · subst e; rw [cf_get (upd f i x) hj, upd_same]; simp [h]
    · rw [if_neg e, cf_get _ hj, cf_get _ hj, upd_other _ _ (fun h => e h.symm)]
  · have h1 : (cf n (upd f i x))[j]? = none := Array.getElem?_eq_none (by simp; omega)
    have h2 : (cf n f)[j]? = none := Array.getElem?_eq_none (by simp; omega)
    rw [h1, if_neg (by omega), h2]
theorem cf_one (n : Nat) (f : Nat → W32) : (cf n f).all (·.oneCell') = true := by
  simp [cf]
  intro i _; rfl
theorem cf_congr {n : Nat} {f g : Nat → W32} (h : ∀ i, i < n → f i = g i) : cf n f = cf n g := by
  unfold cf
  congr 1
  apply List.map_congr_left
  intro i hi
  rw [h i (by simpa using hi)]
theorem cf_inj {n : Nat} {f g : Nat → W32} (h : cf n f = cf n g) : ∀ i, i < n → f i = g i := by
  intro i hi
  have h1 := cf_get f hi
  have h2 := cf_get g hi
  rw [h, h2] at h1
  simp at h1
  exact (iw_inj h1).symm
end Go.Proofs.YtficmbaffkkfhaaDoor

/- Contracts of the small functions of package sha on words of 32 bits. -/
namespace Go.Proofs.YtficmbaffkkfhaaDoor
open Go.RowKit

theorem ret_w {a b : Int} (h : a = b) : Ending.returned (.int .u32 a) = .returned (.int .u32 b) := by rw [h]
theorem rr_raw (x : W32) (n : Nat) : bits .or .u32 (IntKind.u32.wrap (iw x * 2 ^ (32 - n))) (iw x / 2 ^ n) = iw (rr x n) := by
  rw [iw_shl, iw_shr, iw_or, BitVec.or_comm]; rfl
theorem rr_raw' (x : W32) (n : Nat) : bits .or .u32 (iw x / 2 ^ n) (IntKind.u32.wrap (iw x * 2 ^ (32 - n))) = iw (rr x n) := by
  rw [iw_shl, iw_shr, iw_or]; rfl
theorem rr_2 (x : W32) : bits .or .u32 (IntKind.u32.wrap (iw x * 1073741824)) (iw x / 4) = iw (rr x 2) := rr_raw x 2
theorem rr_2' (x : W32) : bits .or .u32 (iw x / 4) (IntKind.u32.wrap (iw x * 1073741824)) = iw (rr x 2) := rr_raw' x 2
theorem rotl_2 (x : W32) (w : World) :
    Calls Tryd.prog 63 #[.int .u32 (iw x), .int .i64 (-2)] w fun e w' => e = .returned (.int .u32 (iw (rr x 2))) ∧ w' = w := by
  have h0 := iw_nonneg x
  have h1 := iw_lt x
  have e : Hid (bits .or .u32 (IntKind.u32.wrap (iw x * 1073741824)) (iw x / 4) = iw (rr x 2)) := rr_2 x
  generalize iw (rr x 2) = R at *
  generalize iw x = X at *
  have hb : bits .and .u64 (IntKind.u64.wrap (-2)) 31 = 30 := by kernel_rfl
  go_enter Tryd.func63, Tryd.ntmps63
  go_wp2
  go_ret
  exact ⟨ret_w e.out, rfl⟩
theorem right_2 (x : W32) (w : World) :
    Calls Tryd.prog 61 #[.int .u32 (iw x), .int .i64 2] w fun e w' => e = .returned (.int .u32 (iw (rr x 2))) ∧ w' = w := by
  have hc : Hid (∀ w : World, Calls Tryd.prog 63 #[.int .u32 (iw x), .int .i64 (-2)] w fun e w' => e = .returned (.int .u32 (iw (rr x 2))) ∧ w' = w) := rotl_2 x
  generalize iw (rr x 2) = R at *
  generalize iw x = X at *
  go_enter Tryd.func61, Tryd.ntmps61
  go_wp2_with (go_at_call 63; refine (hc.out _).mono ?_; rintro e w' ⟨rfl, rfl⟩)
  go_ret
  exact ⟨rfl, rfl⟩
theorem rr_6 (x : W32) : bits .or .u32 (IntKind.u32.wrap (iw x * 67108864)) (iw x / 64) = iw (rr x 6) := rr_raw x 6
theorem rr_6' (x : W32) : bits .or .u32 (iw x / 64) (IntKind.u32.wrap (iw x * 67108864)) = iw (rr x 6) := rr_raw' x 6
theorem rotl_6 (x : W32) (w : World) :
    Calls Tryd.prog 63 #[.int .u32 (iw x), .int .i64 (-6)] w fun e w' => e = .returned (.int .u32 (iw (rr x 6))) ∧ w' = w := by
  have h0 := iw_nonneg x
  have h1 := iw_lt x
  have e : Hid (bits .or .u32 (IntKind.u32.wrap (iw x * 67108864)) (iw x / 64) = iw (rr x 6)) := rr_6 x
  generalize iw (rr x 6) = R at *
  generalize iw x = X at *
  have hb : bits .and .u64 (IntKind.u64.wrap (-6)) 31 = 26 := by kernel_rfl
  go_enter Tryd.func63, Tryd.ntmps63
  go_wp2
  go_ret
  exact ⟨ret_w e.out, rfl⟩
theorem right_6 (x : W32) (w : World) :
    Calls Tryd.prog 61 #[.int .u32 (iw x), .int .i64 6] w fun e w' => e = .returned (.int .u32 (iw (rr x 6))) ∧ w' = w := by
  have hc : Hid (∀ w : World, Calls Tryd.prog 63 #[.int .u32 (iw x), .int .i64 (-6)] w fun e w' => e = .returned (.int .u32 (iw (rr x 6))) ∧ w' = w) := rotl_6 x
  generalize iw (rr x 6) = R at *
  generalize iw x = X at *
  go_enter Tryd.func61, Tryd.ntmps61
  go_wp2_with (go_at_call 63; refine (hc.out _).mono ?_; rintro e w' ⟨rfl, rfl⟩)
  go_ret
  exact ⟨rfl, rfl⟩
theorem rr_7 (x : W32) : bits .or .u32 (IntKind.u32.wrap (iw x * 33554432)) (iw x / 128) = iw (rr x 7) := rr_raw x 7
theorem rr_7' (x : W32) : bits .or .u32 (iw x / 128) (IntKind.u32.wrap (iw x * 33554432)) = iw (rr x 7) := rr_raw' x 7
theorem rotl_7 (x : W32) (w : World) :
    Calls Tryd.prog 63 #[.int .u32 (iw x), .int .i64 (-7)] w fun e w' => e = .returned (.int .u32 (iw (rr x 7))) ∧ w' = w := by
  have h0 := iw_nonneg x
  have h1 := iw_lt x
  have e : Hid (bits .or .u32 (IntKind.u32.wrap (iw x * 33554432)) (iw x / 128) = iw (rr x 7)) := rr_7 x
  generalize iw (rr x 7) = R at *
  generalize iw x = X at *
  have hb : bits .and .u64 (IntKind.u64.wrap (-7)) 31 = 25 := by kernel_rfl
  go_enter Tryd.func63, Tryd.ntmps63
  go_wp2
  go_ret
  exact ⟨ret_w e.out, rfl⟩
theorem right_7 (x : W32) (w : World) :
    Calls Tryd.prog 61 #[.int .u32 (iw x), .int .i64 7] w fun e w' => e = .returned (.int .u32 (iw (rr x 7))) ∧ w' = w := by
  have hc : Hid (∀ w : World, Calls Tryd.prog 63 #[.int .u32 (iw x), .int .i64 (-7)] w fun e w' => e = .returned (.int .u32 (iw (rr x 7))) ∧ w' = w) := rotl_7 x
  generalize iw (rr x 7) = R at *
  generalize iw x = X at *
  go_enter Tryd.func61, Tryd.ntmps61
  go_wp2_with (go_at_call 63; refine (hc.out _).mono ?_; rintro e w' ⟨rfl, rfl⟩)
  go_ret
  exact ⟨rfl, rfl⟩
theorem rr_11 (x : W32) : bits .or .u32 (IntKind.u32.wrap (iw x * 2097152)) (iw x / 2048) = iw (rr x 11) := rr_raw x 11
theorem rr_11' (x : W32) : bits .or .u32 (iw x / 2048) (IntKind.u32.wrap (iw x * 2097152)) = iw (rr x 11) := rr_raw' x 11
theorem rotl_11 (x : W32) (w : World) :
    Calls Tryd.prog 63 #[.int .u32 (iw x), .int .i64 (-11)] w fun e w' => e = .returned (.int .u32 (iw (rr x 11))) ∧ w' = w := by
  have h0 := iw_nonneg x
  have h1 := iw_lt x
  have e : Hid (bits .or .u32 (IntKind.u32.wrap (iw x * 2097152)) (iw x / 2048) = iw (rr x 11)) := rr_11 x
  generalize iw (rr x 11) = R at *
  generalize iw x = X at *
  have hb : bits .and .u64 (IntKind.u64.wrap (-11)) 31 = 21 := by kernel_rfl
  go_enter Tryd.func63, Tryd.ntmps63
  go_wp2
  go_ret
  exact ⟨ret_w e.out, rfl⟩
theorem right_11 (x : W32) (w : World) :
    Calls Tryd.prog 61 #[.int .u32 (iw x), .int .i64 11] w fun e w' => e = .returned (.int .u32 (iw (rr x 11))) ∧ w' = w := by
  have hc : Hid (∀ w : World, Calls Tryd.prog 63 #[.int .u32 (iw x), .int .i64 (-11)] w fun e w' => e = .returned (.int .u32 (iw (rr x 11))) ∧ w' = w) := rotl_11 x
  generalize iw (rr x 11) = R at *
  generalize iw x = X at *
  go_enter Tryd.func61, Tryd.ntmps61
  go_wp2_with (go_at_call 63; refine (hc.out _).mono ?_; rintro e w' ⟨rfl, rfl⟩)
  go_ret
  exact ⟨rfl, rfl⟩
theorem rr_13 (x : W32) : bits .or .u32 (IntKind.u32.wrap (iw x * 524288)) (iw x / 8192) = iw (rr x 13) := rr_raw x 13
theorem rr_13' (x : W32) : bits .or .u32 (iw x / 8192) (IntKind.u32.wrap (iw x * 524288)) = iw (rr x 13) := rr_raw' x 13
theorem rotl_13 (x : W32) (w : World) :
    Calls Tryd.prog 63 #[.int .u32 (iw x), .int .i64 (-13)] w fun e w' => e = .returned (.int .u32 (iw (rr x 13))) ∧ w' = w := by
  have h0 := iw_nonneg x
  have h1 := iw_lt x
  have e : Hid (bits .or .u32 (IntKind.u32.wrap (iw x * 524288)) (iw x / 8192) = iw (rr x 13)) := rr_13 x
  generalize iw (rr x 13) = R at *
  generalize iw x = X at *
  have hb : bits .and .u64 (IntKind.u64.wrap (-13)) 31 = 19 := by kernel_rfl
  go_enter Tryd.func63, Tryd.ntmps63
  go_wp2
  go_ret
  exact ⟨ret_w e.out, rfl⟩
theorem right_13 (x : W32) (w : World) :
    Calls Tryd.prog 61 #[.int .u32 (iw x), .int .i64 13] w fun e w' => e = .returned (.int .u32 (iw (rr x 13))) ∧ w' = w := by
  have hc : Hid (∀ w : World, Calls Tryd.prog 63 #[.int .u32 (iw x), .int .i64 (-13)] w fun e w' => e = .returned (.int .u32 (iw (rr x 13))) ∧ w' = w) := rotl_13 x
  generalize iw (rr x 13) = R at *
  generalize iw x = X at *
  go_enter Tryd.func61, Tryd.ntmps61
  go_wp2_with (go_at_call 63; refine (hc.out _).mono ?_; rintro e w' ⟨rfl, rfl⟩)
  go_ret
  exact ⟨rfl, rfl⟩
theorem rr_17 (x : W32) : bits .or .u32 (IntKind.u32.wrap (iw x * 32768)) (iw x / 131072) = iw (rr x 17) := rr_raw x 17
theorem rr_17' (x : W32) : bits .or .u32 (iw x / 131072) (IntKind.u32.wrap (iw x * 32768)) = iw (rr x 17) := rr_raw' x 17
theorem rotl_17 (x : W32) (w : World) :
    Calls Tryd.prog 63 #[.int .u32 (iw x), .int .i64 (-17)] w fun e w' => e = .returned (.int .u32 (iw (rr x 17))) ∧ w' = w := by
  have h0 := iw_nonneg x
  have h1 := iw_lt x
  have e : Hid (bits .or .u32 (IntKind.u32.wrap (iw x * 32768)) (iw x / 131072) = iw (rr x 17)) := rr_17 x
  generalize iw (rr x 17) = R at *
  generalize iw x = X at *
  have hb : bits .and .u64 (IntKind.u64.wrap (-17)) 31 = 15 := by kernel_rfl
  go_enter Tryd.func63, Tryd.ntmps63
  go_wp2
  go_ret
  exact ⟨ret_w e.out, rfl⟩
theorem right_17 (x : W32) (w : World) :
    Calls Tryd.prog 61 #[.int .u32 (iw x), .int .i64 17] w fun e w' => e = .returned (.int .u32 (iw (rr x 17))) ∧ w' = w := by
  have hc : Hid (∀ w : World, Calls Tryd.prog 63 #[.int .u32 (iw x), .int .i64 (-17)] w fun e w' => e = .returned (.int .u32 (iw (rr x 17))) ∧ w' = w) := rotl_17 x
  generalize iw (rr x 17) = R at *
  generalize iw x = X at *
  go_enter Tryd.func61, Tryd.ntmps61
  go_wp2_with (go_at_call 63; refine (hc.out _).mono ?_; rintro e w' ⟨rfl, rfl⟩)
  go_ret
  exact ⟨rfl, rfl⟩
theorem rr_18 (x : W32) : bits .or .u32 (IntKind.u32.wrap (iw x * 16384)) (iw x / 262144) = iw (rr x 18) := rr_raw x 18
theorem rr_18' (x : W32) : bits .or .u32 (iw x / 262144) (IntKind.u32.wrap (iw x * 16384)) = iw (rr x 18) := rr_raw' x 18
theorem rotl_18 (x : W32) (w : World) :
    Calls Tryd.prog 63 #[.int .u32 (iw x), .int .i64 (-18)] w fun e w' => e = .returned (.int .u32 (iw (rr x 18))) ∧ w' = w := by
  have h0 := iw_nonneg x
  have h1 := iw_lt x
  have e : Hid (bits .or .u32 (IntKind.u32.wrap (iw x * 16384)) (iw x / 262144) = iw (rr x 18)) := rr_18 x
  generalize iw (rr x 18) = R at *
  generalize iw x = X at *
  have hb : bits .and .u64 (IntKind.u64.wrap (-18)) 31 = 14 := by kernel_rfl
  go_enter Tryd.func63, Tryd.ntmps63
  go_wp2
  go_ret
  exact ⟨ret_w e.out, rfl⟩
theorem right_18 (x : W32) (w : World) :
    Calls Tryd.prog 61 #[.int .u32 (iw x), .int .i64 18] w fun e w' => e = .returned (.int .u32 (iw (rr x 18))) ∧ w' = w := by
  have hc : Hid (∀ w : World, Calls Tryd.prog 63 #[.int .u32 (iw x), .int .i64 (-18)] w fun e w' => e = .returned (.int .u32 (iw (rr x 18))) ∧ w' = w) := rotl_18 x
  generalize iw (rr x 18) = R at *
  generalize iw x = X at *
  go_enter Tryd.func61, Tryd.ntmps61
  go_wp2_with (go_at_call 63; refine (hc.out _).mono ?_; rintro e w' ⟨rfl, rfl⟩)
  go_ret
  exact ⟨rfl, rfl⟩
theorem rr_19 (x : W32) : bits .or .u32 (IntKind.u32.wrap (iw x * 8192)) (iw x / 524288) = iw (rr x 19) := rr_raw x 19
theorem rr_19' (x : W32) : bits .or .u32 (iw x / 524288) (IntKind.u32.wrap (iw x * 8192)) = iw (rr x 19) := rr_raw' x 19
theorem rotl_19 (x : W32) (w : World) :
    Calls Tryd.prog 63 #[.int .u32 (iw x), .int .i64 (-19)] w fun e w' => e = .returned (.int .u32 (iw (rr x 19))) ∧ w' = w := by
  have h0 := iw_nonneg x
  have h1 := iw_lt x
  have e : Hid (bits .or .u32 (IntKind.u32.wrap (iw x * 8192)) (iw x / 524288) = iw (rr x 19)) := rr_19 x
  generalize iw (rr x 19) = R at *
  generalize iw x = X at *
  have hb : bits .and .u64 (IntKind.u64.wrap (-19)) 31 = 13 := by kernel_rfl
  go_enter Tryd.func63, Tryd.ntmps63
  go_wp2
  go_ret
  exact ⟨ret_w e.out, rfl⟩
theorem right_19 (x : W32) (w : World) :
    Calls Tryd.prog 61 #[.int .u32 (iw x), .int .i64 19] w fun e w' => e = .returned (.int .u32 (iw (rr x 19))) ∧ w' = w := by
  have hc : Hid (∀ w : World, Calls Tryd.prog 63 #[.int .u32 (iw x), .int .i64 (-19)] w fun e w' => e = .returned (.int .u32 (iw (rr x 19))) ∧ w' = w) := rotl_19 x
  generalize iw (rr x 19) = R at *
  generalize iw x = X at *
  go_enter Tryd.func61, Tryd.ntmps61
  go_wp2_with (go_at_call 63; refine (hc.out _).mono ?_; rintro e w' ⟨rfl, rfl⟩)
  go_ret
  exact ⟨rfl, rfl⟩
theorem rr_22 (x : W32) : bits .or .u32 (IntKind.u32.wrap (iw x * 1024)) (iw x / 4194304) = iw (rr x 22) := rr_raw x 22
theorem rr_22' (x : W32) : bits .or .u32 (iw x / 4194304) (IntKind.u32.wrap (iw x * 1024)) = iw (rr x 22) := rr_raw' x 22
theorem rotl_22 (x : W32) (w : World) :
    Calls Tryd.prog 63 #[.int .u32 (iw x), .int .i64 (-22)] w fun e w' => e = .returned (.int .u32 (iw (rr x 22))) ∧ w' = w := by
  have h0 := iw_nonneg x
  have h1 := iw_lt x
  have e : Hid (bits .or .u32 (IntKind.u32.wrap (iw x * 1024)) (iw x / 4194304) = iw (rr x 22)) := rr_22 x
  generalize iw (rr x 22) = R at *
  generalize iw x = X at *
  have hb : bits .and .u64 (IntKind.u64.wrap (-22)) 31 = 10 := by kernel_rfl
  go_enter Tryd.func63, Tryd.ntmps63
  go_wp2
  go_ret
  exact ⟨ret_w e.out, rfl⟩
theorem right_22 (x : W32) (w : World) :
    Calls Tryd.prog 61 #[.int .u32 (iw x), .int .i64 22] w fun e w' => e = .returned (.int .u32 (iw (rr x 22))) ∧ w' = w := by
  have hc : Hid (∀ w : World, Calls Tryd.prog 63 #[.int .u32 (iw x), .int .i64 (-22)] w fun e w' => e = .returned (.int .u32 (iw (rr x 22))) ∧ w' = w) := rotl_22 x
  generalize iw (rr x 22) = R at *
  generalize iw x = X at *
  go_enter Tryd.func61, Tryd.ntmps61
  go_wp2_with (go_at_call 63; refine (hc.out _).mono ?_; rintro e w' ⟨rfl, rfl⟩)
  go_ret
  exact ⟨rfl, rfl⟩
theorem rr_25 (x : W32) : bits .or .u32 (IntKind.u32.wrap (iw x * 128)) (iw x / 33554432) = iw (rr x 25) := rr_raw x 25
theorem rr_25' (x : W32) : bits .or .u32 (iw x / 33554432) (IntKind.u32.wrap (iw x * 128)) = iw (rr x 25) := rr_raw' x 25
theorem rotl_25 (x : W32) (w : World) :
    Calls Tryd.prog 63 #[.int .u32 (iw x), .int .i64 (-25)] w fun e w' => e = .returned (.int .u32 (iw (rr x 25))) ∧ w' = w := by
  have h0 := iw_nonneg x
  have h1 := iw_lt x
  have e : Hid (bits .or .u32 (IntKind.u32.wrap (iw x * 128)) (iw x / 33554432) = iw (rr x 25)) := rr_25 x
  generalize iw (rr x 25) = R at *
  generalize iw x = X at *
  have hb : bits .and .u64 (IntKind.u64.wrap (-25)) 31 = 7 := by kernel_rfl
  go_enter Tryd.func63, Tryd.ntmps63
  go_wp2
  go_ret
  exact ⟨ret_w e.out, rfl⟩
theorem right_25 (x : W32) (w : World) :
    Calls Tryd.prog 61 #[.int .u32 (iw x), .int .i64 25] w fun e w' => e = .returned (.int .u32 (iw (rr x 25))) ∧ w' = w := by
  have hc : Hid (∀ w : World, Calls Tryd.prog 63 #[.int .u32 (iw x), .int .i64 (-25)] w fun e w' => e = .returned (.int .u32 (iw (rr x 25))) ∧ w' = w) := rotl_25 x
  generalize iw (rr x 25) = R at *
  generalize iw x = X at *
  go_enter Tryd.func61, Tryd.ntmps61
  go_wp2_with (go_at_call 63; refine (hc.out _).mono ?_; rintro e w' ⟨rfl, rfl⟩)
  go_ret
  exact ⟨rfl, rfl⟩
theorem sum0_any (x : W32) (w : World) :
    Calls Tryd.prog 56 #[.int .u32 (iw x)] w fun e w' => e = .returned (.int .u32 (iw (S0 x))) ∧ w' = w := by
  have h0 := iw_nonneg x
  have h1 := iw_lt x
  have e : Hid (bits .xor .u32 (bits .xor .u32 (iw (rr x 2)) (iw (rr x 13))) (iw (rr x 22)) = iw (S0 x)) := by show _ = _; rw [iw_xor, iw_xor]; rfl
  have c0 : Hid (∀ w : World, Calls Tryd.prog 61 #[.int .u32 (iw x), .int .i64 2] w fun e w' => e = .returned (.int .u32 (iw (rr x 2))) ∧ w' = w) := right_2 x
  have c1 : Hid (∀ w : World, Calls Tryd.prog 61 #[.int .u32 (iw x), .int .i64 13] w fun e w' => e = .returned (.int .u32 (iw (rr x 13))) ∧ w' = w) := right_13 x
  have c2 : Hid (∀ w : World, Calls Tryd.prog 61 #[.int .u32 (iw x), .int .i64 22] w fun e w' => e = .returned (.int .u32 (iw (rr x 22))) ∧ w' = w) := right_22 x
  generalize iw (S0 x) = R at *
  generalize iw (rr x 2) = R0 at *
  generalize iw (rr x 13) = R1 at *
  generalize iw (rr x 22) = R2 at *
  generalize iw x = X at *
  go_enter Tryd.func56, Tryd.ntmps56
  go_wp2_with fail
  refine (c0.out _).mono ?_
  rintro e w' ⟨rfl, rfl⟩
  go_wp2_with fail
  refine (c1.out _).mono ?_
  rintro e w' ⟨rfl, rfl⟩
  go_wp2_with fail
  refine (c2.out _).mono ?_
  rintro e w' ⟨rfl, rfl⟩
  go_wp2
  go_ret
  exact ⟨ret_w e.out, rfl⟩
theorem sum1_any (x : W32) (w : World) :
    Calls Tryd.prog 54 #[.int .u32 (iw x)] w fun e w' => e = .returned (.int .u32 (iw (S1 x))) ∧ w' = w := by
  have h0 := iw_nonneg x
  have h1 := iw_lt x
  have e : Hid (bits .xor .u32 (bits .xor .u32 (iw (rr x 6)) (iw (rr x 11))) (iw (rr x 25)) = iw (S1 x)) := by show _ = _; rw [iw_xor, iw_xor]; rfl
  have c0 : Hid (∀ w : World, Calls Tryd.prog 61 #[.int .u32 (iw x), .int .i64 6] w fun e w' => e = .returned (.int .u32 (iw (rr x 6))) ∧ w' = w) := right_6 x
  have c1 : Hid (∀ w : World, Calls Tryd.prog 61 #[.int .u32 (iw x), .int .i64 11] w fun e w' => e = .returned (.int .u32 (iw (rr x 11))) ∧ w' = w) := right_11 x
  have c2 : Hid (∀ w : World, Calls Tryd.prog 61 #[.int .u32 (iw x), .int .i64 25] w fun e w' => e = .returned (.int .u32 (iw (rr x 25))) ∧ w' = w) := right_25 x
  generalize iw (S1 x) = R at *
  generalize iw (rr x 6) = R0 at *
  generalize iw (rr x 11) = R1 at *
  generalize iw (rr x 25) = R2 at *
  generalize iw x = X at *
  go_enter Tryd.func54, Tryd.ntmps54
  go_wp2_with fail
  refine (c0.out _).mono ?_
  rintro e w' ⟨rfl, rfl⟩
  go_wp2_with fail
  refine (c1.out _).mono ?_
  rintro e w' ⟨rfl, rfl⟩
  go_wp2_with fail
  refine (c2.out _).mono ?_
  rintro e w' ⟨rfl, rfl⟩
  go_wp2
  go_ret
  exact ⟨ret_w e.out, rfl⟩
theorem mix0_any (x : W32) (w : World) :
    Calls Tryd.prog 60 #[.int .u32 (iw x)] w fun e w' => e = .returned (.int .u32 (iw (s0 x))) ∧ w' = w := by
  have h0 := iw_nonneg x
  have h1 := iw_lt x
  have e : Hid (bits .xor .u32 (bits .xor .u32 (iw (rr x 7)) (iw (rr x 18))) (iw x / 8) = iw (s0 x)) := by show _ = _; rw [show iw x / (8 : Int) = iw (x >>> 3) from iw_shr x 3, iw_xor, iw_xor]; rfl
  have c0 : Hid (∀ w : World, Calls Tryd.prog 61 #[.int .u32 (iw x), .int .i64 7] w fun e w' => e = .returned (.int .u32 (iw (rr x 7))) ∧ w' = w) := right_7 x
  have c1 : Hid (∀ w : World, Calls Tryd.prog 61 #[.int .u32 (iw x), .int .i64 18] w fun e w' => e = .returned (.int .u32 (iw (rr x 18))) ∧ w' = w) := right_18 x
  generalize iw (s0 x) = R at *
  generalize iw (rr x 7) = R0 at *
  generalize iw (rr x 18) = R1 at *
  generalize iw x = X at *
  go_enter Tryd.func60, Tryd.ntmps60
  go_wp2_with fail
  refine (c0.out _).mono ?_
  rintro e w' ⟨rfl, rfl⟩
  go_wp2_with fail
  refine (c1.out _).mono ?_
  rintro e w' ⟨rfl, rfl⟩
  go_wp2
  go_ret
  exact ⟨ret_w e.out, rfl⟩
theorem mix1_any (x : W32) (w : World) :
    Calls Tryd.prog 59 #[.int .u32 (iw x)] w fun e w' => e = .returned (.int .u32 (iw (s1 x))) ∧ w' = w := by
  have h0 := iw_nonneg x
  have h1 := iw_lt x
  have e : Hid (bits .xor .u32 (bits .xor .u32 (iw (rr x 17)) (iw (rr x 19))) (iw x / 1024) = iw (s1 x)) := by show _ = _; rw [show iw x / (1024 : Int) = iw (x >>> 10) from iw_shr x 10, iw_xor, iw_xor]; rfl
  have c0 : Hid (∀ w : World, Calls Tryd.prog 61 #[.int .u32 (iw x), .int .i64 17] w fun e w' => e = .returned (.int .u32 (iw (rr x 17))) ∧ w' = w) := right_17 x
  have c1 : Hid (∀ w : World, Calls Tryd.prog 61 #[.int .u32 (iw x), .int .i64 19] w fun e w' => e = .returned (.int .u32 (iw (rr x 19))) ∧ w' = w) := right_19 x
  generalize iw (s1 x) = R at *
  generalize iw (rr x 17) = R0 at *
  generalize iw (rr x 19) = R1 at *
  generalize iw x = X at *
  go_enter Tryd.func59, Tryd.ntmps59
  go_wp2_with fail
  refine (c0.out _).mono ?_
  rintro e w' ⟨rfl, rfl⟩
  go_wp2_with fail
  refine (c1.out _).mono ?_
  rintro e w' ⟨rfl, rfl⟩
  go_wp2
  go_ret
  exact ⟨ret_w e.out, rfl⟩
theorem ch_raw (x y z : W32) : bits .xor .u32 (bits .and .u32 (iw x) (iw y)) (bits .and .u32 (bits .xor .u32 IntKind.u32.max (iw x)) (iw z)) = iw (chw x y z) := by
  rw [iw_not, iw_and, iw_and, iw_xor]; rfl
theorem ma_raw (x y z : W32) : bits .xor .u32 (bits .xor .u32 (bits .and .u32 (iw x) (iw y)) (bits .and .u32 (iw x) (iw z))) (bits .and .u32 (iw y) (iw z)) = iw (maw x y z) := by
  rw [iw_and, iw_and, iw_and, iw_xor, iw_xor]; rfl
theorem choice_any (x y z : W32) (w : World) :
    Calls Tryd.prog 55 #[.int .u32 (iw x), .int .u32 (iw y), .int .u32 (iw z)] w fun e w' => e = .returned (.int .u32 (iw (chw x y z))) ∧ w' = w := by
  have e : Hid (bits .xor .u32 (bits .and .u32 (iw x) (iw y)) (bits .and .u32 (bits .xor .u32 IntKind.u32.max (iw x)) (iw z)) = iw (chw x y z)) := ch_raw x y z
  have hs : ¬ IntKind.u32.signed = true := by decide
  generalize iw (chw x y z) = R at *
  generalize iw x = X at *
  generalize iw y = Y at *
  generalize iw z = Z at *
  go_enter Tryd.func55, Tryd.ntmps55
  go_wp2
  go_ret
  exact ⟨ret_w e.out, rfl⟩
theorem majority_any (x y z : W32) (w : World) :
    Calls Tryd.prog 57 #[.int .u32 (iw x), .int .u32 (iw y), .int .u32 (iw z)] w fun e w' => e = .returned (.int .u32 (iw (maw x y z))) ∧ w' = w := by
  have e : Hid (bits .xor .u32 (bits .xor .u32 (bits .and .u32 (iw x) (iw y)) (bits .and .u32 (iw x) (iw z))) (bits .and .u32 (iw y) (iw z)) = iw (maw x y z)) := ma_raw x y z
  generalize iw (maw x y z) = R at *
  generalize iw x = X at *
  generalize iw y = Y at *
  generalize iw z = Z at *
  go_enter Tryd.func57, Tryd.ntmps57
  go_wp2
  go_ret
  exact ⟨ret_w e.out, rfl⟩
end Go.Proofs.YtficmbaffkkfhaaDoor

/- The hash of a text, as plain functions: nothing of the program. -/
namespace Go.Proofs.YtficmbaffkkfhaaDoor
open Go.RowKit

/-- A block's byte, as a word. -/
def byAt (l : List UInt8) (i : Nat) : W32 := bw (l.getD i 0)
/-- The words that so many bytes of a block fill. -/
def fill (l : List UInt8) : Nat → Nat → W32
  | 0 => fun _ => 0
  | i + 1 => upd (fill l i) (i / 4) (fill l i (i / 4) <<< 8 ||| byAt l i)
/-- So many words more. -/
def schT (l : List UInt8) : Nat → Nat → W32
  | 0 => fill l 64
  | t + 1 => upd (schT l t) (t + 16) (s1 (schT l t (t + 14)) + schT l t (t + 9) + s0 (schT l t (t + 1)) + schT l t t)
/-- A block's 64 words. -/
def sch (l : List UInt8) : Nat → W32 := schT l 48
/-- The words that the rounds add. -/
def kList : List Nat := [1116352408, 1899447441, 3049323471, 3921009573, 961987163, 1508970993, 2453635748, 2870763221, 3624381080, 310598401, 607225278, 1426881987, 1925078388, 2162078206, 2614888103, 3248222580, 3835390401, 4022224774, 264347078, 604807628, 770255983, 1249150122, 1555081692, 1996064986, 2554220882, 2821834349, 2952996808, 3210313671, 3336571891, 3584528711, 113926993, 338241895, 666307205, 773529912, 1294757372, 1396182291, 1695183700, 1986661051, 2177026350, 2456956037, 2730485921, 2820302411, 3259730800, 3345764771, 3516065817, 3600352804, 4094571909, 275423344, 430227734, 506948616, 659060556, 883997877, 958139571, 1322822218, 1537002063, 1747873779, 1955562222, 2024104815, 2227730452, 2361852424, 2428436474, 2756734187, 3204031479, 3329325298]
def kk (t : Nat) : W32 := BitVec.ofNat 32 (kList.getD t 0)
/-- The first of a round's two sums. -/
def tOne (v : Nat → W32) (k w : W32) : W32 := v 7 + S1 (v 4) + chw (v 4) (v 5) (v 6) + k + w
/-- The second one. -/
def tTwo (v : Nat → W32) : W32 := S0 (v 0) + maw (v 0) (v 1) (v 2)
/-- A round. -/
def turn (v : Nat → W32) (k w : W32) : Nat → W32 := fun j => if j = 0 then tOne v k w + tTwo v else if j = 4 then v 3 + tOne v k w else v (j - 1)
/-- So many rounds. -/
def turns (wd s : Nat → W32) : Nat → Nat → W32
  | 0 => s
  | t + 1 => turn (turns wd s t) (kk t) (wd t)
/-- The state behind one more block. -/
def bhd (s : Nat → W32) (l : List UInt8) : Nat → W32 := fun j => s j + turns (sch l) s 64 j
def iList : List Nat := [1779033703, 3144134277, 1013904242, 2773480762, 1359893119, 2600822924, 528734635, 1541459225]
/-- The first state. -/
def ini (j : Nat) : W32 := BitVec.ofNat 32 (iList.getD j 0)
end Go.Proofs.YtficmbaffkkfhaaDoor

namespace Go.Proofs.YtficmbaffkkfhaaDoor
open Go.RowKit

theorem heap_set_same {w : World} {b o : Nat} {v : Value} {cs : Array Value} {t : TypeId} {fr : Nat × Nat} (h : w.heap[b]? = some (.cells cs t fr)) : (w.setCell ⟨b, o, none⟩ v).heap[b]? = some (.cells (cs.setIfInBounds o v) t fr) := by
  simp [World.setCell, Array.getElem?_modify, h]
theorem heap_set_size (w : World) (a : Addr) (v : Value) : (w.setCell a v).heap.size = w.heap.size := by simp [World.setCell]

theorem cell_set_ne {w : World} {b t a : Nat} {v : Value} (h : ¬ a = t) : (w.setCell ⟨b, t, none⟩ v).cell? ⟨b, a, none⟩ = w.cell? ⟨b, a, none⟩ := by
  cases hb : w.heap[b]? with
  | none =>
    have hb' : (w.setCell ⟨b, t, none⟩ v).heap[b]? = none := by simp [World.setCell, Array.getElem?_modify, hb]
    simp [World.cell?, hb, hb']
  | some o =>
    cases o with
    | cells cs e fr =>
      rw [cell_of_row _ _ _ _ _ _ (heap_set_same hb), cell_of_row _ _ _ _ _ _ hb, Array.getElem?_setIfInBounds_ne (fun e => h e.symm)]
    | _ =>
      simp [World.setCell, World.cell?, Array.getElem?_modify, hb]
theorem heap_setRow_same {w : World} {b : Nat} {cs ds : Array Value} {t : TypeId} {fr : Nat × Nat} (h : w.heap[b]? = some (.cells cs t fr)) : (w.setRow b ds).heap[b]? = some (.cells ds t fr) := by
  simp [World.setRow, Array.getElem?_modify, h]
theorem below_setRow {B b : Nat} {a w : World} (h : Below B a w) (hb : B ≤ b) (ds : Array Value) : Below B a (w.setRow b ds) :=
  h.trans ⟨rfl, rfl, rfl, by simp [World.setRow], fun k hk => by simp only [World.setRow, Array.getElem?_modify]; rw [if_neg (by omega)]⟩
theorem heap_setRow_ne {w : World} {b k : Nat} {ds : Array Value} (h : k ≠ b) : (w.setRow b ds).heap[k]? = w.heap[k]? := by
  simp only [World.setRow, Array.getElem?_modify]; rw [if_neg (by omega)]
end Go.Proofs.YtficmbaffkkfhaaDoor
