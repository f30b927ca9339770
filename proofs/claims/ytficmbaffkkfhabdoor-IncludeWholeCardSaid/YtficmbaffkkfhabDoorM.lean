/- Plain facts on bytes and numbers: nothing of the program. -/
import Derived.WalkKit
namespace Go.Proofs.YtficmbaffkkfhabDoor
open Go.RowKit

/-- A string of these bytes. -/
def S (l : List UInt8) : ByteArray := ⟨l.toArray⟩
@[simp] theorem S_size (l : List UInt8) : (S l).size = l.length := by simp [S, ByteArray.size]
@[simp] theorem S_toList (l : List UInt8) : (S l).data.toList = l := by simp [S]
theorem S_nil : S [] = ⟨#[]⟩ := rfl
theorem S_data (s : ByteArray) : S s.data.toList = s := by simp [S]
theorem S_inj {a b : List UInt8} (h : S a = S b) : a = b := by
  have := congrArg (fun x : ByteArray => x.data.toList) h
  simpa using this

/-- The last byte of a number. -/
def by8 (n : Int) : UInt8 := UInt8.ofNat (n % 256).toNat
/-- A number's last k bytes, the most significant first. -/
def bytesOf (n : Int) : Nat → List UInt8
  | 0 => []
  | k + 1 => bytesOf (n / 256) k ++ [by8 n]
@[simp] theorem bytesOf_length (k : Nat) : ∀ n : Int, (bytesOf n k).length = k := by
  induction k with
  | zero => intro n; rfl
  | succ k ih => intro n; simp [bytesOf, ih]
/-- A string out of numbers. -/
def strOf (ns : List Int) : ByteArray := S (ns.map fun n => UInt8.ofNat n.toNat)

theorem u8_eq {a b : Nat} (h : a % 256 = b % 256) : UInt8.ofNat a = UInt8.ofNat b := by
  apply UInt8.toNat_inj.1; simp; omega
theorem by8_of {n m : Int} (h0 : 0 ≤ n) (h : n % 256 = m % 256) : UInt8.ofNat n.toNat = by8 m := u8_eq (by omega)

theorem strOf_1 (n : Int) (h0 : 0 ≤ n) : strOf [n] = S (bytesOf n 1) := by
  simp only [strOf, bytesOf, List.map, List.nil_append]
  rw [by8_of h0 rfl]
theorem strOf_2 (n : Int) (h0 : 0 ≤ n) (h1 : n < 65536) : strOf [n / 256, n % 256] = S (bytesOf n 2) := by
  simp only [strOf, bytesOf, List.map, List.nil_append, List.cons_append]
  rw [by8_of (n := n / 256) (m := n / 256) (by omega) rfl, by8_of (n := n % 256) (m := n) (by omega) (by omega)]
theorem strOf_4 (n : Int) (h0 : 0 ≤ n) (h1 : n < 4294967296) : strOf [n / 16777216, n / 65536 % 256, n / 256 % 256, n % 256] = S (bytesOf n 4) := by
  simp only [strOf, bytesOf, List.map, List.nil_append, List.cons_append]
  rw [by8_of (n := n / 16777216) (m := n / 256 / 256 / 256) (by omega) (by omega), by8_of (n := n / 65536 % 256) (m := n / 256 / 256) (by omega) (by omega), by8_of (n := n / 256 % 256) (m := n / 256) (by omega) (by omega), by8_of (n := n % 256) (m := n) (by omega) (by omega)]
theorem strOf_8 (n : Int) (h0 : 0 ≤ n) (h1 : n < 9223372036854775808) : strOf [n / 72057594037927936, n / 281474976710656 % 256, n / 1099511627776 % 256, n / 4294967296 % 256, n / 16777216 % 256, n / 65536 % 256, n / 256 % 256, n % 256] = S (bytesOf n 8) := by
  simp only [strOf, bytesOf, List.map, List.nil_append, List.cons_append]
  rw [by8_of (n := n / 72057594037927936) (m := n / 256 / 256 / 256 / 256 / 256 / 256 / 256) (by omega) (by omega), by8_of (n := n / 281474976710656 % 256) (m := n / 256 / 256 / 256 / 256 / 256 / 256) (by omega) (by omega), by8_of (n := n / 1099511627776 % 256) (m := n / 256 / 256 / 256 / 256 / 256) (by omega) (by omega), by8_of (n := n / 4294967296 % 256) (m := n / 256 / 256 / 256 / 256) (by omega) (by omega), by8_of (n := n / 16777216 % 256) (m := n / 256 / 256 / 256) (by omega) (by omega), by8_of (n := n / 65536 % 256) (m := n / 256 / 256) (by omega) (by omega), by8_of (n := n / 256 % 256) (m := n / 256) (by omega) (by omega), by8_of (n := n % 256) (m := n) (by omega) (by omega)]
/-- The number that bytes say, the most significant first. -/
def numL (l : List UInt8) : Int := l.foldl (fun a b => a * 256 + (b.toNat : Int)) 0
theorem numL_nil : numL [] = 0 := rfl
theorem numL_snoc (l : List UInt8) (b : UInt8) : numL (l ++ [b]) = numL l * 256 + (b.toNat : Int) := by simp [numL]
theorem numL_nonneg (l : List UInt8) : 0 ≤ numL l := by
  suffices h : ∀ (l : List UInt8) (a : Int), 0 ≤ a → 0 ≤ l.foldl (fun a b => a * 256 + (b.toNat : Int)) a from h l 0 (Int.le_refl _)
  intro l
  induction l with
  | nil => intro a h; exact h
  | cons b l ih => intro a h; exact ih _ (by show 0 ≤ a * 256 + (b.toNat : Int); omega)
theorem u8_lt (b : UInt8) : b.toNat < 256 := UInt8.toNat_lt b
/-- The bytes that stand at a place. -/
def win (s : ByteArray) (a k : Nat) : List UInt8 := (s.data.toList.drop a).take k
theorem win_zero (s : ByteArray) (a : Nat) : win s a 0 = [] := rfl
theorem win_length (s : ByteArray) (a k : Nat) (h : a + k ≤ s.size) : (win s a k).length = k := by
  have : s.data.toList.length = s.size := rfl
  simp only [win, List.length_take, List.length_drop]; omega
theorem win_succ (s : ByteArray) (a k : Nat) (h : a + k < s.size) : win s a (k + 1) = win s a k ++ [s[a + k]] := by
  have h2 : a + k < s.data.toList.length := h
  unfold win
  rw [List.take_add_one, List.getElem?_drop, List.getElem?_eq_getElem h2]
  rfl
theorem numL_lt (l : List UInt8) : numL l < 256 ^ l.length := by
  suffices h : ∀ (l : List UInt8) (a : Int) (m : Nat), a < 256 ^ m → l.foldl (fun a b => a * 256 + (b.toNat : Int)) a < 256 ^ (m + l.length) by
    have := h l 0 0 (by decide)
    simpa [numL] using this
  intro l
  induction l with
  | nil => intro a m h; simpa using h
  | cons b l ih =>
    intro a m h
    have hb := u8_lt b
    have h1 : a * 256 + (b.toNat : Int) < 256 ^ (m + 1) := by
      rw [Int.pow_succ]; omega
    have := ih _ _ h1
    simpa [Nat.add_assoc, Nat.add_comm 1] using this
theorem numL_cons (b : UInt8) (l : List UInt8) : numL (b :: l) = (b.toNat : Int) * 256 ^ l.length + numL l := by
  suffices h : ∀ (l : List UInt8) (a : Int), l.foldl (fun a b => a * 256 + (b.toNat : Int)) a = a * 256 ^ l.length + l.foldl (fun a b => a * 256 + (b.toNat : Int)) 0 by
    have := h l (b.toNat : Int)
    simpa [numL] using this
  intro l
  induction l with
  | nil => intro a; simp
  | cons c l ih =>
    intro a
    rw [List.foldl_cons, List.foldl_cons, ih, ih (0 * 256 + (c.toNat : Int))]
    simp only [List.length_cons, Int.pow_succ, Int.add_mul, Int.zero_mul, Int.zero_add]
    rw [show a * 256 * 256 ^ l.length = a * (256 ^ l.length * 256) by rw [Int.mul_assoc, Int.mul_comm 256]]
    omega
theorem win_cons (s : ByteArray) (a k : Nat) (h : a < s.size) : win s a (k + 1) = s[a] :: win s (a + 1) k := by
  have h2 : a < s.data.toList.length := h
  unfold win
  rw [List.drop_eq_getElem_cons h2, List.take_succ_cons]
  rfl
theorem numL_win_lt (s : ByteArray) (a k : Nat) (h : a + k ≤ s.size) : numL (win s a k) < 256 ^ k := by
  have := numL_lt (win s a k)
  rwa [win_length s a k h] at this
theorem numL_win_low (s : ByteArray) (a k : Nat) (h : a + (k + 1) ≤ s.size) (hb : ((s[a]'(by omega)).toNat : Int) < 128) : numL (win s a (k + 1)) < 128 * 256 ^ k := by
  rw [win_cons s a k (by omega), numL_cons, win_length s (a + 1) k (by omega)]
  have h1 := numL_win_lt s (a + 1) k (by omega)
  have h2 : (0 : Int) < 256 ^ k := Int.pow_pos (by decide)
  have h3 : ((s[a]'(by omega)).toNat : Int) * 256 ^ k ≤ 127 * 256 ^ k := Int.mul_le_mul_of_nonneg_right (by omega) (by omega)
  omega
theorem fit_small (s : ByteArray) (a size k : Nat) (hk : k < size) (h4 : size ≤ 4) (h : a + size ≤ s.size) : numL (win s a k) * 256 + 255 ≤ 9223372036854775807 := by
  have h1 := numL_win_lt s a k (by omega)
  have : k = 0 ∨ k = 1 ∨ k = 2 ∨ k = 3 := by omega
  rcases this with rfl | rfl | rfl | rfl <;> simp only [Int.reducePow] at h1 <;> omega
theorem fit_eight (s : ByteArray) (a k : Nat) (hk : k < 8) (h : a + 8 ≤ s.size) (hb : ((s[a]'(by omega)).toNat : Int) < 128) : numL (win s a k) * 256 + 255 ≤ 9223372036854775807 := by
  cases k with
  | zero => simp [win, numL]
  | succ k =>
    have h1 := numL_win_low s a k (by omega) hb
    have : k = 0 ∨ k = 1 ∨ k = 2 ∨ k = 3 ∨ k = 4 ∨ k = 5 ∨ k = 6 := by omega
    rcases this with rfl | rfl | rfl | rfl | rfl | rfl | rfl <;> simp only [Int.reducePow, Int.reduceMul] at h1 <;> omega
theorem or_byte (x : Int) (b : UInt8) (h0 : 0 ≤ x) (h : x * 256 + 255 ≤ 9223372036854775807) : bits BinOp.or IntKind.i64 (x * 256) (wrap64 (b.toNat : Int)) = x * 256 + (b.toNat : Int) := by
  have hb := u8_lt b
  rw [show wrap64 (b.toNat : Int) = (b.toNat : Int) by unfold wrap64; omega]
  exact bits_join .i64 63 (by decide) (fun n h₀ h₁ => by rw [IntKind.wrap_i64]; omega) 8 _ _ (by omega) (by omega) (by omega) (by omega) (by omega) (by omega)
theorem by8_num (n : Int) : ((by8 n).toNat : Int) = n % 256 := by
  unfold by8
  have : (UInt8.ofNat (n % 256).toNat).toNat = (n % 256).toNat % 256 := by simp
  omega
theorem numL_bytesOf (k : Nat) : ∀ n : Int, 0 ≤ n → n < 256 ^ k → numL (bytesOf n k) = n := by
  induction k with
  | zero => intro n h0 h1; simp at h1; simp [bytesOf, numL]; omega
  | succ k ih =>
    intro n h0 h1
    rw [Int.pow_succ] at h1
    rw [bytesOf, numL_snoc, by8_num, ih (n / 256) (by omega) (by omega)]
    omega
theorem bytesLess_num : ∀ (a b : List UInt8), a.length = b.length → Op.bytesLess a b = decide (numL a < numL b)
  | [], [], _ => by simp [Op.bytesLess]
  | [], _ :: _, h => by simp at h
  | _ :: _, [], h => by simp at h
  | x :: a, y :: b, h => by
    have hl : a.length = b.length := by simpa using h
    have ih := bytesLess_num a b hl
    rw [Op.bytesLess, ih, numL_cons, numL_cons, ← hl]
    have ha := numL_lt a
    have hb := numL_lt b
    have ha0 := numL_nonneg a
    have hb0 := numL_nonneg b
    rw [← hl] at hb
    generalize (256 : Int) ^ a.length = P at *
    rw [Bool.eq_iff_iff]
    simp only [Bool.or_eq_true, Bool.and_eq_true, decide_eq_true_eq, beq_iff_eq]
    have hxy : x < y ↔ x.toNat < y.toNat := UInt8.lt_iff_toNat_lt
    rcases Nat.lt_trichotomy x.toNat y.toNat with h1 | h1 | h1
    · have h2 : ((x.toNat : Int) + 1) * P ≤ (y.toNat : Int) * P := Int.mul_le_mul_of_nonneg_right (by omega) (by omega)
      rw [Int.add_mul] at h2
      exact ⟨fun _ => by omega, fun _ => .inl (hxy.2 h1)⟩
    · have e : x = y := UInt8.toNat_inj.1 h1
      subst e
      exact ⟨fun h => by rcases h with h | h
                         · have := hxy.1 h; omega
                         · omega, fun h => .inr ⟨rfl, by omega⟩⟩
    · have h2 : ((y.toNat : Int) + 1) * P ≤ (x.toNat : Int) * P := Int.mul_le_mul_of_nonneg_right (by omega) (by omega)
      rw [Int.add_mul] at h2
      refine ⟨fun h => ?_, fun h => by omega⟩
      rcases h with h | ⟨h, _⟩
      · have := hxy.1 h; omega
      · subst h; omega
theorem less_bytesOf (k : Nat) (n m : Int) (h0 : 0 ≤ n) (h1 : n < 256 ^ k) (g0 : 0 ≤ m) (g1 : m < 256 ^ k) : Op.bytesLess (bytesOf n k) (bytesOf m k) = decide (n < m) := by
  rw [bytesLess_num _ _ (by simp), numL_bytesOf k n h0 h1, numL_bytesOf k m g0 g1]
theorem beq_bytesOf (k : Nat) (n m : Int) (h0 : 0 ≤ n) (h1 : n < 256 ^ k) (g0 : 0 ≤ m) (g1 : m < 256 ^ k) : (bytesOf n k == bytesOf m k) = (n == m) := by
  rw [Bool.eq_iff_iff, beq_iff_eq, beq_iff_eq]
  refine ⟨fun h => ?_, fun h => by rw [h]⟩
  have := congrArg numL h
  rwa [numL_bytesOf k n h0 h1, numL_bytesOf k m g0 g1] at this
theorem toList_S (l : List UInt8) : (S l).toList = l := by rw [ByteArray.toList_eq]; rfl
theorem bytesOf_cons (k : Nat) : ∀ n : Int, bytesOf n (k + 1) = by8 (n / 256 ^ k) :: bytesOf n k := by
  induction k with
  | zero => intro n; simp [bytesOf]
  | succ k ih =>
    intro n
    rw [bytesOf, ih (n / 256)]
    rw [Int.ediv_ediv_of_nonneg (by decide), show (256 : Int) * 256 ^ k = 256 ^ (k + 1) by rw [Int.pow_succ, Int.mul_comm]]
    rfl
theorem S_cons (a : UInt8) (l : List UInt8) : S [a] ++ S l = S (a :: l) := by
  apply ByteArray.ext; simp [S]
theorem pow_ediv (n : Int) (k : Nat) : n / 256 ^ k / 256 = n / 256 ^ (k + 1) := by
  rw [Int.ediv_ediv_of_nonneg (Int.le_of_lt (Int.pow_pos (by decide))), Int.pow_succ]
end Go.Proofs.YtficmbaffkkfhabDoor
