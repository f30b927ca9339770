/- CRC-32's register: by one bit, by four, by a byte, by bytes; its step is linear and one to one: nothing of the program. -/
import Derived.Test.YtalofhnjlmgloaaDoorSm
namespace Go.Proofs.YtalofhnjlmgloaaDoor
open Go.RowKit

/-- The chapter's constant. -/
def poly : W32 := 3988292384#32
/-- The register behind one bit: halved, and the constant upon it if the lowest bit was 1. -/
def bit1 (r : W32) : W32 := (r >>> 1) ^^^ (if r.getLsbD 0 then poly else 0#32)
theorem xor_swap (a b c d : W32) : (a ^^^ b) ^^^ (c ^^^ d) = (a ^^^ c) ^^^ (b ^^^ d) := by
  rw [BitVec.xor_assoc, BitVec.xor_assoc, ← BitVec.xor_assoc b, BitVec.xor_comm b c, BitVec.xor_assoc]
theorem bit1_xor (a b : W32) : bit1 (a ^^^ b) = bit1 a ^^^ bit1 b := by
  unfold bit1
  rw [xor_swap, BitVec.ushiftRight_xor_distrib, BitVec.getLsbD_xor]
  congr 1
  cases a.getLsbD 0 <;> cases b.getLsbD 0 <;> simp
theorem bit1_zero : bit1 0#32 = 0#32 := by decide
theorem bit1_top (r : W32) : (bit1 r).getLsbD 31 = r.getLsbD 0 := by
  unfold bit1
  rw [BitVec.getLsbD_xor, BitVec.getLsbD_ushiftRight]
  have h : r.getLsbD (1 + 31) = false := BitVec.getLsbD_of_ge _ _ (by omega)
  rw [h]
  cases r.getLsbD 0 <;> decide
theorem low_mod (r : W32) : r.getLsbD 0 = decide (r.toNat % 2 = 1) := by
  rw [BitVec.getLsbD, Nat.testBit_zero]
theorem bit1_even {r : W32} (h : r.getLsbD 0 = false) : bit1 r = r >>> 1 := by
  unfold bit1; rw [h]; simp
theorem bit1_odd {r : W32} (h : r.getLsbD 0 = true) : bit1 r = (r >>> 1) ^^^ poly := by
  unfold bit1; rw [h]; simp
theorem bit1_null {r : W32} (h : bit1 r = 0#32) : r = 0#32 := by
  have h0 : r.getLsbD 0 = false := by rw [← bit1_top, h]; rfl
  rw [bit1_even h0] at h
  have h1 := congrArg BitVec.toNat h
  rw [low_mod] at h0
  simp [Nat.shiftRight_eq_div_pow] at h0 h1
  exact BitVec.eq_of_toNat_eq (by simp; omega)
/-- The register behind n bits. -/
def bitN : Nat → W32 → W32
  | 0, r => r
  | n + 1, r => bitN n (bit1 r)
theorem bitN_xor : ∀ (n : Nat) (a b : W32), bitN n (a ^^^ b) = bitN n a ^^^ bitN n b
  | 0, _, _ => rfl
  | n + 1, a, b => by rw [bitN, bit1_xor, bitN_xor n]; rfl
theorem bitN_zero : ∀ n, bitN n 0#32 = 0#32
  | 0 => rfl
  | n + 1 => by rw [bitN, bit1_zero, bitN_zero n]
theorem bitN_null : ∀ (n : Nat) {r : W32}, bitN n r = 0#32 → r = 0#32
  | 0, _, h => h
  | n + 1, _, h => bit1_null (bitN_null n h)
theorem bitN_add : ∀ (n m : Nat) (r : W32), bitN (n + m) r = bitN m (bitN n r)
  | 0, m, r => by rw [Nat.zero_add]; rfl
  | n + 1, m, r => by rw [show n + 1 + m = (n + m) + 1 by omega, bitN, bitN_add n m]; rfl
theorem bitN_snoc (n : Nat) (r : W32) : bitN (n + 1) r = bit1 (bitN n r) := bitN_add n 1 r
theorem xor_null {a b : W32} (h : a ^^^ b = 0#32) : a = b := by
  have := congrArg (· ^^^ b) h
  simpa [BitVec.xor_assoc] using this
theorem bitN_inj (n : Nat) {a b : W32} (h : bitN n a = bitN n b) : a = b := by
  apply xor_null
  apply bitN_null n
  rw [bitN_xor, h, BitVec.xor_self]
/-- Lowest bits that are 0 only go. -/
theorem bitN_shift : ∀ (n : Nat) (r : W32), r.toNat % 2 ^ n = 0 → bitN n r = r >>> n
  | 0, r, _ => by simp [bitN]
  | n + 1, r, h => by
    have hd : 2 ^ (n + 1) ∣ r.toNat := Nat.dvd_of_mod_eq_zero h
    obtain ⟨q, hq⟩ := hd
    have e2 : r.toNat = 2 * (2 ^ n * q) := by rw [hq, Nat.pow_succ, Nat.mul_assoc, Nat.mul_left_comm]
    have h0 : r.getLsbD 0 = false := by rw [low_mod, e2]; simp
    rw [bitN, bit1_even h0, bitN_shift n, ← BitVec.shiftRight_add, Nat.add_comm 1 n]
    rw [BitVec.toNat_ushiftRight, Nat.shiftRight_eq_div_pow, e2]
    simp
/-- What the registers 0 to 15 come to by four bits. -/
def t4L : List Nat := [0, 498536548, 997073096, 651767980, 1994146192, 1802195444, 1303535960, 1342533948, 3988292384, 4027552580, 3604390888, 3412177804, 2607071920, 2262029012, 2685067896, 3183342108]
def t4 (n : Nat) : W32 := BitVec.ofNat 32 (t4L.getD n 0)
theorem t4_ok : ∀ n : Fin 16, bitN 4 (BitVec.ofNat 32 n.val) = t4 n.val := by decide
theorem lsb_15 (i : Nat) : (15#32).getLsbD i = decide (i < 4) := by
  rw [BitVec.getLsbD, show (15#32).toNat = 2 ^ 4 - 1 by rfl, Nat.testBit_two_pow_sub_one]
theorem cut4 (r : W32) : r = ((r >>> 4) <<< 4) ^^^ (r &&& 15#32) := by
  apply BitVec.eq_of_getLsbD_eq
  intro i hi
  rw [BitVec.getLsbD_xor, BitVec.getLsbD_and, lsb_15, BitVec.getLsbD_shiftLeft, BitVec.getLsbD_ushiftRight]
  by_cases h : i < 4
  · simp [h]
  · simp [h, hi, show 4 + (i - 4) = i by omega]
/-- The register behind four bits more, out of the table. -/
def fr4 (r : W32) : W32 := (r >>> 4) ^^^ t4 (r &&& 15#32).toNat
theorem and15 (r : W32) : (r &&& 15#32).toNat = r.toNat % 16 := by
  rw [BitVec.toNat_and, show (15#32).toNat = 2 ^ 4 - 1 by rfl, Nat.and_two_pow_sub_one_eq_mod]
theorem fr4_ok (r : W32) : fr4 r = bitN 4 r := by
  have hl := and15 r
  have h16 : r.toNat % 16 < 16 := Nat.mod_lt _ (by decide)
  have h := t4_ok ⟨(r &&& 15#32).toNat, by omega⟩
  simp only [BitVec.ofNat_toNat, BitVec.setWidth_eq] at h
  conv => rhs; rw [cut4 r]
  rw [bitN_xor, h]
  unfold fr4
  congr 1
  rw [bitN_shift]
  · apply BitVec.eq_of_getLsbD_eq
    intro i hi
    rw [BitVec.getLsbD_ushiftRight, BitVec.getLsbD_ushiftRight, BitVec.getLsbD_shiftLeft, BitVec.getLsbD_ushiftRight]
    by_cases h : 4 + i < 32
    · simp [h]
    · simp [h]
      rw [BitVec.getLsbD_of_ge _ _ (by omega)]
  · rw [BitVec.toNat_shiftLeft, Nat.shiftLeft_eq, BitVec.toNat_ushiftRight, Nat.shiftRight_eq_div_pow]
    have := r.isLt
    omega
/-- The register behind a byte, behind bytes; a sum that goes on. -/
def stepB (r : W32) (x : UInt8) : W32 := bitN 8 (r ^^^ bw x)
def crcL (r : W32) (l : List UInt8) : W32 := l.foldl stepB r
def moreL (s : W32) (l : List UInt8) : W32 := ~~~ (crcL (~~~ s) l)
theorem stepB_four (r : W32) (x : UInt8) : fr4 (fr4 (r ^^^ bw x)) = stepB r x := by
  rw [fr4_ok, fr4_ok, ← bitN_add]; rfl
theorem moreL_nil (s : W32) : moreL s [] = s := by simp [moreL, crcL]
theorem crcL_append (r : W32) (l m : List UInt8) : crcL r (l ++ m) = crcL (crcL r l) m := List.foldl_append
theorem crcL_snoc (r : W32) (l : List UInt8) (x : UInt8) : crcL r (l ++ [x]) = stepB (crcL r l) x := by rw [crcL_append]; rfl
theorem moreL_append (s : W32) (l m : List UInt8) : moreL (moreL s l) m = moreL s (l ++ m) := by
  unfold moreL; rw [BitVec.not_not, crcL_append]
theorem stepB_inj {a b : W32} {x : UInt8} (h : stepB a x = stepB b x) : a = b := by
  have := bitN_inj 8 h
  have e := congrArg (· ^^^ bw x) this
  simpa [BitVec.xor_assoc] using e
theorem crcL_inj : ∀ (l : List UInt8) {a b : W32}, crcL a l = crcL b l → a = b
  | [], _, _, h => h
  | _ :: l, _, _, h => stepB_inj (crcL_inj l h)
theorem not_inj {a b : W32} (h : ~~~ a = ~~~ b) : a = b := by
  have := congrArg (~~~ ·) h
  simpa using this
theorem moreL_eq (s : W32) (l m : List UInt8) : moreL s l = moreL s m ↔ crcL (~~~ s) l = crcL (~~~ s) m :=
  ⟨fun h => not_inj h, fun h => by unfold moreL; rw [h]⟩
theorem moreL_inj {a b : W32} (l : List UInt8) : moreL a l = moreL b l ↔ a = b :=
  ⟨fun h => not_inj (crcL_inj l (not_inj h)), fun h => by rw [h]⟩
theorem bw_xor (x y : UInt8) : bw (x ^^^ y) = bw x ^^^ bw y := by
  apply BitVec.eq_of_toNat_eq
  have h1 := UInt8.toNat_lt x
  have h2 := UInt8.toNat_lt y
  have h3 := UInt8.toNat_lt (x ^^^ y)
  rw [BitVec.toNat_xor]
  unfold bw
  simp only [BitVec.toNat_ofNat]
  rw [Nat.mod_eq_of_lt (by omega), Nat.mod_eq_of_lt (by omega), Nat.mod_eq_of_lt (by omega), UInt8.toNat_xor]
theorem crcL_xor : ∀ (l m : List UInt8) (a b : W32), l.length = m.length → crcL (a ^^^ b) (List.zipWith (· ^^^ ·) l m) = crcL a l ^^^ crcL b m
  | [], [], _, _, _ => rfl
  | x :: l, y :: m, a, b, h => by
    show crcL (stepB (a ^^^ b) (x ^^^ y)) _ = crcL (stepB a x) l ^^^ crcL (stepB b y) m
    rw [← crcL_xor l m _ _ (by simpa using h)]
    congr 1
    unfold stepB
    rw [← bitN_xor, bw_xor, xor_swap]
  | [], _ :: _, _, _, h => by simp at h
  | _ :: _, [], _, _, h => by simp at h
theorem crcL_turned (l d : List UInt8) (r : W32) (h : l.length = d.length) : crcL r (List.zipWith (· ^^^ ·) l d) = crcL r l ↔ crcL 0#32 d = 0#32 := by
  have := crcL_xor l d r 0#32 h
  rw [BitVec.xor_zero] at this
  rw [this]
  constructor
  · intro e
    have := congrArg (crcL r l ^^^ ·) e
    simpa [← BitVec.xor_assoc] using this
  · intro e; rw [e, BitVec.xor_zero]
/-- A byte may be laid upon the register ahead of the bits that come before it. -/
theorem bw_lift (x : UInt8) (n : Nat) (hn : n ≤ 24) : bitN n (bw x <<< n) = bw x := by
  have hx := UInt8.toNat_lt x
  have ex : (bw x).toNat = x.toNat := by unfold bw; simp
  have hp : (2 : Nat) ^ n ≤ 2 ^ 24 := Nat.pow_le_pow_right (by decide) hn
  have hlt : x.toNat * 2 ^ n < 2 ^ 32 := by
    have : x.toNat * 2 ^ n ≤ 255 * 2 ^ 24 := Nat.mul_le_mul (by omega) hp
    omega
  have e1 : (bw x <<< n).toNat = x.toNat * 2 ^ n := by
    rw [BitVec.toNat_shiftLeft, Nat.shiftLeft_eq, ex, Nat.mod_eq_of_lt hlt]
  rw [bitN_shift n _ (by rw [e1]; simp)]
  apply BitVec.eq_of_toNat_eq
  rw [BitVec.toNat_ushiftRight, Nat.shiftRight_eq_div_pow, e1, ex]
  exact Nat.mul_div_cancel _ (Nat.two_pow_pos n)
theorem crc_two (a b : UInt8) : crcL 0#32 [a, b] = bitN 16 (bw a ^^^ bw b <<< 8) := by
  show bitN 8 (bitN 8 (0#32 ^^^ bw a) ^^^ bw b) = _
  rw [BitVec.zero_xor]
  conv => lhs; rw [← bw_lift b 8 (by decide)]
  rw [← bitN_xor, ← bitN_add]
theorem crc_four (a b c d : UInt8) : crcL 0#32 [a, b, c, d] = bitN 32 (bw a ^^^ bw b <<< 8 ^^^ bw c <<< 16 ^^^ bw d <<< 24) := by
  show bitN 8 (bitN 8 (bitN 8 (bitN 8 (0#32 ^^^ bw a) ^^^ bw b) ^^^ bw c) ^^^ bw d) = _
  rw [BitVec.zero_xor]
  conv => lhs; rw [← bw_lift b 8 (by decide), ← bw_lift c 16 (by decide), ← bw_lift d 24 (by decide)]
  rw [← bitN_xor, ← bitN_add, ← bitN_xor, ← bitN_add, ← bitN_xor, ← bitN_add]
/-- A byte of a word, the lowest first. -/
def wb (v : W32) (i : Nat) : UInt8 := UInt8.ofNat (v.toNat / 2 ^ (8 * i))
theorem bw_bit (b : UInt8) (j : Nat) : (bw b).getLsbD j = (decide (j < 8) && b.toNat.testBit j) := by
  have hb := UInt8.toNat_lt b
  rw [BitVec.getLsbD]
  have e : (bw b).toNat = b.toNat := by unfold bw; simp
  rw [e]
  by_cases h : j < 8
  · simp [h]
  · have : (2 : Nat) ^ 8 ≤ 2 ^ j := Nat.pow_le_pow_right (by decide) (by omega)
    rw [Nat.testBit_lt_two_pow (by omega)]; simp
theorem wb_bit (v : W32) (i j : Nat) (hj : j < 8) : (wb v i).toNat.testBit j = v.getLsbD (8 * i + j) := by
  have e : (wb v i).toNat = v.toNat / 2 ^ (8 * i) % 2 ^ 8 := by unfold wb; simp
  rw [e, Nat.testBit_mod_two_pow, BitVec.getLsbD, Nat.testBit_div_two_pow]
  simp [hj]
  rw [Nat.add_comm]
theorem wb_all (v : W32) : bw (wb v 0) ^^^ bw (wb v 1) <<< 8 ^^^ bw (wb v 2) <<< 16 ^^^ bw (wb v 3) <<< 24 = v := by
  apply BitVec.eq_of_getLsbD_eq
  intro i hi
  simp only [BitVec.getLsbD_xor, BitVec.getLsbD_shiftLeft, bw_bit]
  have : i < 8 ∨ (8 ≤ i ∧ i < 16) ∨ (16 ≤ i ∧ i < 24) ∨ (24 ≤ i ∧ i < 32) := by omega
  rcases this with h | ⟨h, h'⟩ | ⟨h, h'⟩ | ⟨h, h'⟩
  · rw [wb_bit v 0 i h]
    simp [h, show i < 16 by omega, show i < 24 by omega]
  · rw [wb_bit v 1 (i - 8) (by omega), show 8 * 1 + (i - 8) = i by omega]
    simp [h', hi, show ¬ i < 8 by omega, show i - 8 < 8 by omega, show i < 24 by omega]
  · rw [wb_bit v 2 (i - 16) (by omega), show 8 * 2 + (i - 16) = i by omega]
    simp [h', hi, show ¬ i < 8 by omega, show ¬ i < 16 by omega, show i - 16 < 8 by omega, show ¬ i - 8 < 8 by omega]
  · rw [wb_bit v 3 (i - 24) (by omega), show 8 * 3 + (i - 24) = i by omega]
    simp [hi, show ¬ i < 8 by omega, show ¬ i < 16 by omega, show ¬ i < 24 by omega, show i - 24 < 8 by omega, show ¬ i - 8 < 8 by omega, show ¬ i - 16 < 8 by omega]
theorem crc_word (v : W32) : crcL 0#32 [wb v 0, wb v 1, wb v 2, wb v 3] = 0#32 ↔ v = 0#32 := by
  rw [crc_four, wb_all]
  exact ⟨bitN_null 32, fun h => by rw [h, bitN_zero]⟩
theorem crc_same (d : UInt8) : crcL 0#32 [d, d] = 0#32 ↔ d = 0 := by
  rw [crc_two]
  constructor
  · intro h
    have e := bitN_null 16 h
    have hd := UInt8.toNat_lt d
    apply UInt8.toNat_inj.1
    apply Nat.eq_of_testBit_eq
    intro j
    by_cases hj : j < 8
    · have := congrArg (fun x : W32 => x.getLsbD j) e
      simpa [BitVec.getLsbD_xor, BitVec.getLsbD_shiftLeft, bw_bit, hj] using this
    · have : (2 : Nat) ^ 8 ≤ 2 ^ j := Nat.pow_le_pow_right (by decide) (by omega)
      rw [Nat.testBit_lt_two_pow (by omega)]; simp
  · intro h; subst h; decide
/-- Bytes turned in the midst of a text. -/
theorem crcL_mid (r : W32) (a l m c : List UInt8) : crcL r (a ++ l ++ c) = crcL r (a ++ m ++ c) ↔ crcL (crcL r a) l = crcL (crcL r a) m := by
  rw [crcL_append, crcL_append, crcL_append, crcL_append]
  exact ⟨crcL_inj c, fun h => by rw [h]⟩
end Go.Proofs.YtalofhnjlmgloaaDoor
