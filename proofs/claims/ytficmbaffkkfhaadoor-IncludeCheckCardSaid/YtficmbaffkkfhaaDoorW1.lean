/- Laws of the walk: a whole array out of the middle of a block in a region that draws its order, and into it; a string copied as far as there is room; a call that turns one old block alone. -/
import Derived.WalkKit
import Derived.Deep.MidRow
import Derived.StillTailTactics
import Derived.Laws.CopyRow
import Derived.Lib.BufferWrite
import Derived.Laws.AppendOwn
/- Plain facts on bytes and numbers: nothing of the program. -/
namespace Go.Proofs.YtficmbaffkkfhaaDoor
open Go.RowKit

/-- A string of these bytes. -/
def S (l : List UInt8) : ByteArray := ⟨l.toArray⟩
@[simp] theorem S_size (l : List UInt8) : (S l).size = l.length := by simp [S, ByteArray.size]
@[simp] theorem S_toList (l : List UInt8) : (S l).data.toList = l := by simp [S]
theorem S_nil : S [] = ⟨#[]⟩ := rfl
theorem S_data (s : ByteArray) : S s.data.toList = s := by simp [S]
theorem S_inj {a b : List UInt8} (h : S a = S b) : a = b := by
  have := congrArg (fun x : ByteArray => x.data.toList) h
  simpa using this

/-- The last byte of a number. -/
def by8 (n : Int) : UInt8 := UInt8.ofNat (n % 256).toNat
/-- A number's last k bytes, the most significant first. -/
def bytesOf (n : Int) : Nat → List UInt8
  | 0 => []
  | k + 1 => bytesOf (n / 256) k ++ [by8 n]
@[simp] theorem bytesOf_length (k : Nat) : ∀ n : Int, (bytesOf n k).length = k := by
  induction k with
  | zero => intro n; rfl
  | succ k ih => intro n; simp [bytesOf, ih]
/-- A string out of numbers. -/
def strOf (ns : List Int) : ByteArray := S (ns.map fun n => UInt8.ofNat n.toNat)

theorem u8_eq {a b : Nat} (h : a % 256 = b % 256) : UInt8.ofNat a = UInt8.ofNat b := by
  apply UInt8.toNat_inj.1; simp; omega
theorem by8_of {n m : Int} (h0 : 0 ≤ n) (h : n % 256 = m % 256) : UInt8.ofNat n.toNat = by8 m := u8_eq (by omega)

theorem strOf_1 (n : Int) (h0 : 0 ≤ n) : strOf [n] = S (bytesOf n 1) := by
  simp only [strOf, bytesOf, List.map, List.nil_append]
  rw [by8_of h0 rfl]
theorem strOf_2 (n : Int) (h0 : 0 ≤ n) (h1 : n < 65536) : strOf [n / 256, n % 256] = S (bytesOf n 2) := by
  simp only [strOf, bytesOf, List.map, List.nil_append, List.cons_append]
  rw [by8_of (n := n / 256) (m := n / 256) (by omega) rfl, by8_of (n := n % 256) (m := n) (by omega) (by omega)]
theorem strOf_4 (n : Int) (h0 : 0 ≤ n) (h1 : n < 4294967296) : strOf [n / 16777216, n / 65536 % 256, n / 256 % 256, n % 256] = S (bytesOf n 4) := by
  simp only [strOf, bytesOf, List.map, List.nil_append, List.cons_append]
  rw [by8_of (n := n / 16777216) (m := n / 256 / 256 / 256) (by omega) (by omega), by8_of (n := n / 65536 % 256) (m := n / 256 / 256) (by omega) (by omega), by8_of (n := n / 256 % 256) (m := n / 256) (by omega) (by omega), by8_of (n := n % 256) (m := n) (by omega) (by omega)]
theorem strOf_8 (n : Int) (h0 : 0 ≤ n) (h1 : n < 9223372036854775808) : strOf [n / 72057594037927936, n / 281474976710656 % 256, n / 1099511627776 % 256, n / 4294967296 % 256, n / 16777216 % 256, n / 65536 % 256, n / 256 % 256, n % 256] = S (bytesOf n 8) := by
  simp only [strOf, bytesOf, List.map, List.nil_append, List.cons_append]
  rw [by8_of (n := n / 72057594037927936) (m := n / 256 / 256 / 256 / 256 / 256 / 256 / 256) (by omega) (by omega), by8_of (n := n / 281474976710656 % 256) (m := n / 256 / 256 / 256 / 256 / 256 / 256) (by omega) (by omega), by8_of (n := n / 1099511627776 % 256) (m := n / 256 / 256 / 256 / 256 / 256) (by omega) (by omega), by8_of (n := n / 4294967296 % 256) (m := n / 256 / 256 / 256 / 256) (by omega) (by omega), by8_of (n := n / 16777216 % 256) (m := n / 256 / 256 / 256) (by omega) (by omega), by8_of (n := n / 65536 % 256) (m := n / 256 / 256) (by omega) (by omega), by8_of (n := n / 256 % 256) (m := n / 256) (by omega) (by omega), by8_of (n := n % 256) (m := n) (by omega) (by omega)]
/-- The number that bytes say, the most significant first. -/
def numL (l : List UInt8) : Int := l.foldl (fun a b => a * 256 + (b.toNat : Int)) 0
theorem numL_nil : numL [] = 0 := rfl
theorem numL_snoc (l : List UInt8) (b : UInt8) : numL (l ++ [b]) = numL l * 256 + (b.toNat : Int) := by simp [numL]
theorem numL_nonneg (l : List UInt8) : 0 ≤ numL l := by
  suffices h : ∀ (l : List UInt8) (a : Int), 0 ≤ a → 0 ≤ l.foldl (fun a b => a * 256 + (b.toNat : Int)) a from h l 0 (Int.le_refl _)
  intro l
  induction l with
  | nil => intro a h; exact h
  | cons b l ih => intro a h; exact ih _ (by show 0 ≤ a * 256 + (b.toNat : Int); omega)
theorem u8_lt (b : UInt8) : b.toNat < 256 := UInt8.toNat_lt b
/-- The bytes that stand at a place. -/
def win (s : ByteArray) (a k : Nat) : List UInt8 := (s.data.toList.drop a).take k
theorem win_zero (s : ByteArray) (a : Nat) : win s a 0 = [] := rfl
theorem win_length (s : ByteArray) (a k : Nat) (h : a + k ≤ s.size) : (win s a k).length = k := by
  have : s.data.toList.length = s.size := rfl
  simp only [win, List.length_take, List.length_drop]; omega
theorem win_succ (s : ByteArray) (a k : Nat) (h : a + k < s.size) : win s a (k + 1) = win s a k ++ [s[a + k]] := by
  have h2 : a + k < s.data.toList.length := h
  unfold win
  rw [List.take_add_one, List.getElem?_drop, List.getElem?_eq_getElem h2]
  rfl
theorem numL_lt (l : List UInt8) : numL l < 256 ^ l.length := by
  suffices h : ∀ (l : List UInt8) (a : Int) (m : Nat), a < 256 ^ m → l.foldl (fun a b => a * 256 + (b.toNat : Int)) a < 256 ^ (m + l.length) by
    have := h l 0 0 (by decide)
    simpa [numL] using this
  intro l
  induction l with
  | nil => intro a m h; simpa using h
  | cons b l ih =>
    intro a m h
    have hb := u8_lt b
    have h1 : a * 256 + (b.toNat : Int) < 256 ^ (m + 1) := by
      rw [Int.pow_succ]; omega
    have := ih _ _ h1
    simpa [Nat.add_assoc, Nat.add_comm 1] using this
theorem numL_cons (b : UInt8) (l : List UInt8) : numL (b :: l) = (b.toNat : Int) * 256 ^ l.length + numL l := by
  suffices h : ∀ (l : List UInt8) (a : Int), l.foldl (fun a b => a * 256 + (b.toNat : Int)) a = a * 256 ^ l.length + l.foldl (fun a b => a * 256 + (b.toNat : Int)) 0 by
    have := h l (b.toNat : Int)
    simpa [numL] using this
  intro l
  induction l with
  | nil => intro a; simp
  | cons c l ih =>
    intro a
    rw [List.foldl_cons, List.foldl_cons, ih, ih (0 * 256 + (c.toNat : Int))]
    simp only [List.length_cons, Int.pow_succ, Int.add_mul, Int.zero_mul, Int.zero_add]
    rw [show a * 256 * 256 ^ l.length = a * (256 ^ l.length * 256) by rw [Int.mul_assoc, Int.mul_comm 256]]
    omega
theorem win_cons (s : ByteArray) (a k : Nat) (h : a < s.size) : win s a (k + 1) = s[a] :: win s (a + 1) k := by
  have h2 : a < s.data.toList.length := h
  unfold win
  rw [List.drop_eq_getElem_cons h2, List.take_succ_cons]
  rfl
theorem numL_win_lt (s : ByteArray) (a k : Nat) (h : a + k ≤ s.size) : numL (win s a k) < 256 ^ k := by
  have := numL_lt (win s a k)
  rwa [win_length s a k h] at this
theorem numL_win_low (s : ByteArray) (a k : Nat) (h : a + (k + 1) ≤ s.size) (hb : ((s[a]'(by omega)).toNat : Int) < 128) : numL (win s a (k + 1)) < 128 * 256 ^ k := by
  rw [win_cons s a k (by omega), numL_cons, win_length s (a + 1) k (by omega)]
  have h1 := numL_win_lt s (a + 1) k (by omega)
  have h2 : (0 : Int) < 256 ^ k := Int.pow_pos (by decide)
  have h3 : ((s[a]'(by omega)).toNat : Int) * 256 ^ k ≤ 127 * 256 ^ k := Int.mul_le_mul_of_nonneg_right (by omega) (by omega)
  omega
theorem fit_small (s : ByteArray) (a size k : Nat) (hk : k < size) (h4 : size ≤ 4) (h : a + size ≤ s.size) : numL (win s a k) * 256 + 255 ≤ 9223372036854775807 := by
  have h1 := numL_win_lt s a k (by omega)
  have : k = 0 ∨ k = 1 ∨ k = 2 ∨ k = 3 := by omega
  rcases this with rfl | rfl | rfl | rfl <;> simp only [Int.reducePow] at h1 <;> omega
theorem fit_eight (s : ByteArray) (a k : Nat) (hk : k < 8) (h : a + 8 ≤ s.size) (hb : ((s[a]'(by omega)).toNat : Int) < 128) : numL (win s a k) * 256 + 255 ≤ 9223372036854775807 := by
  cases k with
  | zero => simp [win, numL]
  | succ k =>
    have h1 := numL_win_low s a k (by omega) hb
    have : k = 0 ∨ k = 1 ∨ k = 2 ∨ k = 3 ∨ k = 4 ∨ k = 5 ∨ k = 6 := by omega
    rcases this with rfl | rfl | rfl | rfl | rfl | rfl | rfl <;> simp only [Int.reducePow, Int.reduceMul] at h1 <;> omega
theorem or_byte (x : Int) (b : UInt8) (h0 : 0 ≤ x) (h : x * 256 + 255 ≤ 9223372036854775807) : bits BinOp.or IntKind.i64 (x * 256) (wrap64 (b.toNat : Int)) = x * 256 + (b.toNat : Int) := by
  have hb := u8_lt b
  rw [show wrap64 (b.toNat : Int) = (b.toNat : Int) by unfold wrap64; omega]
  exact bits_join .i64 63 (by decide) (fun n h₀ h₁ => by rw [IntKind.wrap_i64]; omega) 8 _ _ (by omega) (by omega) (by omega) (by omega) (by omega) (by omega)
theorem by8_num (n : Int) : ((by8 n).toNat : Int) = n % 256 := by
  unfold by8
  have : (UInt8.ofNat (n % 256).toNat).toNat = (n % 256).toNat % 256 := by simp
  omega
theorem numL_bytesOf (k : Nat) : ∀ n : Int, 0 ≤ n → n < 256 ^ k → numL (bytesOf n k) = n := by
  induction k with
  | zero => intro n h0 h1; simp at h1; simp [bytesOf, numL]; omega
  | succ k ih =>
    intro n h0 h1
    rw [Int.pow_succ] at h1
    rw [bytesOf, numL_snoc, by8_num, ih (n / 256) (by omega) (by omega)]
    omega
theorem bytesLess_num : ∀ (a b : List UInt8), a.length = b.length → Op.bytesLess a b = decide (numL a < numL b)
  | [], [], _ => by simp [Op.bytesLess]
  | [], _ :: _, h => by simp at h
  | _ :: _, [], h => by simp at h
  | x :: a, y :: b, h => by
    have hl : a.length = b.length := by simpa using h
    have ih := bytesLess_num a b hl
    rw [Op.bytesLess, ih, numL_cons, numL_cons, ← hl]
    have ha := numL_lt a
    have hb := numL_lt b
    have ha0 := numL_nonneg a
    have hb0 := numL_nonneg b
    rw [← hl] at hb
    generalize (256 : Int) ^ a.length = P at *
    rw [Bool.eq_iff_iff]
    simp only [Bool.or_eq_true, Bool.and_eq_true, decide_eq_true_eq, beq_iff_eq]
    have hxy : x < y ↔ x.toNat < y.toNat := UInt8.lt_iff_toNat_lt
    rcases Nat.lt_trichotomy x.toNat y.toNat with h1 | h1 | h1
    · have h2 : ((x.toNat : Int) + 1) * P ≤ (y.toNat : Int) * P := Int.mul_le_mul_of_nonneg_right (by omega) (by omega)
      rw [Int.add_mul] at h2
      exact ⟨fun _ => by omega, fun _ => .inl (hxy.2 h1)⟩
    · have e : x = y := UInt8.toNat_inj.1 h1
      subst e
      exact ⟨fun h => by rcases h with h | h
                         · have := hxy.1 h; omega
                         · omega, fun h => .inr ⟨rfl, by omega⟩⟩
    · have h2 : ((y.toNat : Int) + 1) * P ≤ (x.toNat : Int) * P := Int.mul_le_mul_of_nonneg_right (by omega) (by omega)
      rw [Int.add_mul] at h2
      refine ⟨fun h => ?_, fun h => by omega⟩
      rcases h with h | ⟨h, _⟩
      · have := hxy.1 h; omega
      · subst h; omega
theorem less_bytesOf (k : Nat) (n m : Int) (h0 : 0 ≤ n) (h1 : n < 256 ^ k) (g0 : 0 ≤ m) (g1 : m < 256 ^ k) : Op.bytesLess (bytesOf n k) (bytesOf m k) = decide (n < m) := by
  rw [bytesLess_num _ _ (by simp), numL_bytesOf k n h0 h1, numL_bytesOf k m g0 g1]
theorem beq_bytesOf (k : Nat) (n m : Int) (h0 : 0 ≤ n) (h1 : n < 256 ^ k) (g0 : 0 ≤ m) (g1 : m < 256 ^ k) : (bytesOf n k == bytesOf m k) = (n == m) := by
  rw [Bool.eq_iff_iff, beq_iff_eq, beq_iff_eq]
  refine ⟨fun h => ?_, fun h => by rw [h]⟩
  have := congrArg numL h
  rwa [numL_bytesOf k n h0 h1, numL_bytesOf k m g0 g1] at this
theorem toList_S (l : List UInt8) : (S l).toList = l := by rw [ByteArray.toList_eq]; rfl
theorem bytesOf_cons (k : Nat) : ∀ n : Int, bytesOf n (k + 1) = by8 (n / 256 ^ k) :: bytesOf n k := by
  induction k with
  | zero => intro n; simp [bytesOf]
  | succ k ih =>
    intro n
    rw [bytesOf, ih (n / 256)]
    rw [Int.ediv_ediv_of_nonneg (by decide), show (256 : Int) * 256 ^ k = 256 ^ (k + 1) by rw [Int.pow_succ, Int.mul_comm]]
    rfl
theorem S_cons (a : UInt8) (l : List UInt8) : S [a] ++ S l = S (a :: l) := by
  apply ByteArray.ext; simp [S]
theorem pow_ediv (n : Int) (k : Nat) : n / 256 ^ k / 256 = n / 256 ^ (k + 1) := by
  rw [Int.ediv_ediv_of_nonneg (Int.le_of_lt (Int.pow_pos (by decide))), Int.pow_succ]
end Go.Proofs.YtficmbaffkkfhaaDoor

/- Plain facts on arrays of bytes: nothing of the program. -/
namespace Go.Proofs.YtficmbaffkkfhaaDoor
open Go.RowKit

/-- Bytes as an array's cells. -/
def hv (l : List UInt8) : Array Value := (l.map fun b => Value.int .u8 (b.toNat : Int)).toArray
@[simp] theorem hv_size (l : List UInt8) : (hv l).size = l.length := by simp [hv]
theorem hv_one (l : List UInt8) : (hv l).all (·.oneCell') = true := by
  simp [hv]
  intro i _; rfl
theorem hv_inj {a b : List UInt8} (h : hv a = hv b) : a = b := by
  have h1 := congrArg Array.toList h
  simp only [hv] at h1
  revert h1 b
  induction a with
  | nil => intro b _ h; cases b with
    | nil => rfl
    | cons y b => simp at h
  | cons x a ih => intro b _ h; cases b with
    | nil => simp at h
    | cons y b =>
      simp only [List.map_cons, List.cons.injEq, Value.int.injEq, true_and] at h
      obtain ⟨h1, h2⟩ := h
      have e : x = y := UInt8.toNat_inj.1 (by omega)
      subst e
      rw [ih (b := b) (by simp [hv, h2]) h2]
/-- Filled up with zero bytes to n. -/
def padTo (n : Nat) (l : List UInt8) : List UInt8 := l ++ List.replicate (n - l.length) 0
theorem padTo_length {n : Nat} {l : List UInt8} (h : l.length ≤ n) : (padTo n l).length = n := by simp [padTo]; omega
theorem padTo_full {n : Nat} {l : List UInt8} (h : l.length = n) : padTo n l = l := by simp [padTo, h]
theorem padTo_set (n : Nat) (l : List UInt8) (b : UInt8) (h : l.length < n) : (hv (padTo n l)).setIfInBounds l.length (.int .u8 (b.toNat : Int)) = hv (padTo n (l ++ [b])) := by
  obtain ⟨m, hm⟩ : ∃ m, n - l.length = m + 1 := ⟨n - l.length - 1, by omega⟩
  have hm2 : n - (l ++ [b]).length = m := by simp; omega
  unfold padTo
  rw [hm, hm2, List.replicate_succ]
  apply Array.toList_inj.1
  simp only [hv, List.setIfInBounds_toArray, List.map_append, List.map_cons]
  rw [List.set_append_right _ _ (by simp)]
  simp
end Go.Proofs.YtficmbaffkkfhaaDoor

namespace Go.Proofs.YtficmbaffkkfhaaDoor
open Go.RowKit

/-- A load of a whole array or struct where the order of reads is open. -/
theorem still_load_mid {P : Program} {ops : Array Oper} {w : World} {Q : Act → Prop} {a : Act} {o : Oper} {rest : List Oper} (hgd : o.guard = none) (ty : TypeId) (x : Operand) (ho : o.op = .load ty x) (b off : Nat) (d : TypeDesc) (C : Array Value)
    (hx : a.eval x = .pointer (some ⟨b, off, none⟩)) (hc : w.rangeAt b off C.toList) (hu : P.underlying ty = some d) (hd : d.isRow = true) (hi : (P.info? ty).map (·.size) = some C.size)
    (h : wpStill P ops w Q rest (a.put o.dst (.agg C))) : wpStill P ops w Q (o :: rest) a :=
  wpStill_step fun K hK => by
    have hw : Region.wanted o (yielded ops a.tmps) = true := by simp [Region.wanted, hgd]
    rw [if_pos hw]
    have hl := run_loadVar_mid (P := P) w b off ty C.toList d hc hu hd (by rw [hi, Array.length_toList])
    unfold Oper.still execOp
    simp only [ho, hx, Instr.loadAt, Instr.sureAddr, Sem.run_bind, Sem.run_pure, Result.andThen_ok, hl]
    exact ⟨rfl, hK _ h⟩
/-- A store of a whole array into the middle of a block that is known whole. -/
theorem store_midR {P : Program} {ops : Array Oper} {rest : List Oper} {o : Oper} {a : Act} {w : World} {Q : Exit → Act → World → Prop} (hgd : o.guard = none) (ty : TypeId) (x y : Operand) (ho : o.op = .store ty x y)
    (b off : Nat) (cells cur new : Array Value) (t : TypeId) (hx : a.eval x = .pointer (some ⟨b, off, none⟩)) (hy : a.eval y = .agg cells)
    (hg : w.heap[b]? = some (.cells cur t (0, 0))) (hfit : off + cells.size ≤ cur.size) (hi : (P.info? ty).map (·.size) = some cells.size) (h1 : cells.all (·.oneCell') = true)
    (hnew : (cur.toList.take off ++ cells.toList ++ cur.toList.drop (off + cells.size)).toArray = new)
    (h : wpList P ops Q rest (a.put o.dst undef) (w.setRow b new)) : wpList P ops Q (o :: rest) a w :=
  wpList_plain hgd fun K hK => by
    have := run_storeCells_at P b off t cells.toList 0 cur w hg (by simpa using hfit) (fun v hv => (Array.all_eq_true_iff_forall_mem.1 h1) v (by simpa using hv))
    simp only [Nat.add_zero, Array.length_toList] at this
    rw [hnew] at this
    have hs : (storeVar ty ⟨b, off, none⟩ (.agg cells)).run P w = .ok () (w.setRow b new) := by
      cases hq : P.info? ty with
      | none => simp [hq] at hi
      | some i =>
        have hs : cells.size = i.size := by simp [hq] at hi; omega
        simp [storeVar, sizeOf, typeInfo, hq, Value.cells, hs, this]
    unfold Oper.wp execOp
    simp only [ho, hx, hy, Instr.storeAt, Instr.sureAddr, Sem.run_bind, Sem.run_pure, Result.andThen_ok, hs]
    exact hK _ _ h
/-- An operation without a guard comes up. -/
theorem step_plain {P : Program} {ops : Array Oper} {o : Oper} {a : Act} {w : World} {K : Act → World → Prop} {Q : Exit → Act → World → Prop} {E : Prop} (hgd : o.guard = none) (h : o.wp P a w K Q) : if Region.wanted o (yielded ops a.tmps) = true then Oper.wp P o a w K Q else E := by
  rw [if_pos (by simp [Region.wanted, hgd])]; exact h
/-- An operation whose guard lets it by comes up. -/
theorem step_want {P : Program} {ops : Array Oper} {o : Oper} {a : Act} {w : World} {K : Act → World → Prop} {Q : Exit → Act → World → Prop} {E : Prop} (hw : Region.wanted o (yielded ops a.tmps) = true) (h : o.wp P a w K Q) : if Region.wanted o (yielded ops a.tmps) = true then Oper.wp P o a w K Q else E := by
  rw [if_pos hw]; exact h
/-- The same at one operation. -/
theorem wp_store_midR {P : Program} {o : Oper} {a : Act} {w : World} {K : Act → World → Prop} {Q : Exit → Act → World → Prop} (ty : TypeId) (x y : Operand) (ho : o.op = .store ty x y)
    (b off : Nat) (cells cur new : Array Value) (t : TypeId) (hx : a.eval x = .pointer (some ⟨b, off, none⟩)) (hy : a.eval y = .agg cells)
    (hg : w.heap[b]? = some (.cells cur t (0, 0))) (hfit : off + cells.size ≤ cur.size) (hi : (P.info? ty).map (·.size) = some cells.size) (h1 : cells.all (·.oneCell') = true)
    (hnew : (cur.toList.take off ++ cells.toList ++ cur.toList.drop (off + cells.size)).toArray = new)
    (h : K (a.put o.dst undef) (w.setRow b new)) : o.wp P a w K Q := by
  have := run_storeCells_at P b off t cells.toList 0 cur w hg (by simpa using hfit) (fun v hv => (Array.all_eq_true_iff_forall_mem.1 h1) v (by simpa using hv))
  simp only [Nat.add_zero, Array.length_toList] at this
  rw [hnew] at this
  have hs : (storeVar ty ⟨b, off, none⟩ (.agg cells)).run P w = .ok () (w.setRow b new) := by
    cases hq : P.info? ty with
    | none => simp [hq] at hi
    | some i =>
      have hs : cells.size = i.size := by simp [hq] at hi; omega
      simp [storeVar, sizeOf, typeInfo, hq, Value.cells, hs, this]
  unfold Oper.wp execOp
  simp only [ho, hx, hy, Instr.storeAt, Instr.sureAddr, Sem.run_bind, Sem.run_pure, Result.andThen_ok, hs]
  exact h
/-- append where there is room, into a row that is known whole, as one step. -/
theorem step_append_row {P : Program} {ops : Array Oper} {o : Oper} {a : Act} {w : World} {K : Act → World → Prop} {Q : Exit → Act → World → Prop} {E : Prop}
    (hgd : o.guard = none) (s x : Operand) (t : TypeId) (hop : o.op = Op.call { callee := Callee.builtin Builtin.append, args := #[s, x], argTypes := #[t, t] })
    (e : TypeId) (ht : P.underlying t = some (.slice e)) (hi : (P.info? e).map (·.size) = some 1)
    (g sLen sCap : Nat) (hs : a.eval s = .slice (some ⟨g, 0, none⟩) sLen sCap) (cur new : Array Value) (hg : w.heap[g]? = some (.cells cur e (0, 0)))
    (ad : Addr) (m c : Nat) (news : List Value) (hx : a.eval x = .slice (some ad) m c) (hl : news.length = m) (hnews : ∀ j u, news[j]? = some u → w.cell? (ad.add j) = some u) (h1 : ∀ u ∈ news, u.oneCell' = true)
    (hroom : sLen + m ≤ sCap) (hfit : sLen + m ≤ cur.size) (hnew : (cur.toList.take sLen ++ news ++ cur.toList.drop (sLen + m)).toArray = new)
    (h : K (a.put o.dst (.slice (some ⟨g, 0, none⟩) (sLen + m) sCap)) (w.setRow g new)) :
    if Region.wanted o (yielded ops a.tmps) = true then Oper.wp P o a w K Q else E := by
  have hw : Region.wanted o (yielded ops a.tmps) = true := by simp [Region.wanted, hgd]
  rw [if_pos hw]
  cases hq : P.info? e with
  | none => simp [hq] at hi
  | some i =>
    have hsz : i.size = 1 := by simpa [hq] using hi
    have hrun := run_append_room (P := P) w t o.type e i ht hq g sLen sCap cur hg ad m c news (by rw [hsz, hl]; omega) hnews h1 hroom (by rw [hsz, hl]; omega)
    rw [hsz, Nat.mul_one, hl, hnew] at hrun
    unfold Oper.wp
    simp [execOp, hop, resolve, invoke, builtin, hs, hx, hrun, Result.andThen]
    exact h
/-- 'copy(dst, s)', s a string, as far as there is room. -/
theorem run_copy_string_min {P : Program} (w : World) (dT sT ty elem : TypeId) (g o dLen dCap : Nat) (l : List UInt8) (cur new : Array Value) (t : TypeId)
    (hu : P.underlying dT = some (.slice elem)) (hs : (P.info? elem).map (·.size) = some 1) (hg : w.heap[g]? = some (.cells cur t (0, 0))) (m : Nat) (hm : Nat.min l.length dLen = m) (hfit : o + m ≤ cur.size)
    (hnew : (cur.toList.take o ++ (hv (l.take m)).toList ++ cur.toList.drop (o + m)).toArray = new) :
    (Builtin.copy_ #[dT, sT] ty #[.slice (some ⟨g, o, none⟩) dLen dCap, .string (S l)]).run P w = .ok (goInt m) (w.setRow g new) := by
  have hml : m ≤ l.length := by rw [← hm]; exact Nat.min_le_left _ _
  have hlen : ((hv (l.take m)).toList).length = m := by simp [hv]; omega
  have hst := run_storeCells_at P g o t (hv (l.take m)).toList 0 cur w hg (by rw [hlen]; simpa using hfit) (by
    intro v hv'
    simp only [hv, List.mem_map] at hv'
    obtain ⟨b, _, rfl⟩ := hv'
    rfl)
  rw [hlen] at hst
  simp only [Nat.add_zero] at hst
  rw [hnew] at hst
  have htk : List.take m (List.map (fun b : UInt8 => Value.int IntKind.u8 (b.toNat : Int)) l) = (hv (l.take m)).toList := by
    simp [hv]
  cases hq : P.info? elem with
  | none => simp [hq] at hs
  | some i =>
    simp [Builtin.copy_, run_underlying hu, Builtin.lenOf, Builtin.firstCells, sizeOf, typeInfo, hq, hm]
    rw [htk, hst]
    simp [Result.andThen]

theorem loadFrom {P : Program} (w : World) (b o : Nat) (C : Array Value) (n : Nat) (hn : C.size = n) (h : w.rangeAt b o C.toList) : (loadCellsFrom ⟨b, o, none⟩ 0 n #[]).run P w = .ok C w := by
  subst hn
  have := run_loadCells_list (P := P) w ⟨b, o, none⟩ C.toList (fun j v hv => by
    rw [Addr.add_mid]; exact h j v hv)
  simpa [loadCells] using this
theorem storeTo {P : Program} (w : World) (b off : Nat) (cells cur new : Array Value) (t : TypeId) (hg : w.heap[b]? = some (.cells cur t (0, 0))) (hfit : off + cells.size ≤ cur.size) (h1 : cells.all (·.oneCell') = true)
    (hnew : (cur.toList.take off ++ cells.toList ++ cur.toList.drop (off + cells.size)).toArray = new) : (storeCells ⟨b, off, none⟩ cells.toList 0).run P w = .ok () (w.setRow b new) := by
  have := run_storeCells_at P b off t cells.toList 0 cur w hg (by simpa using hfit) (fun v hv => (Array.all_eq_true_iff_forall_mem.1 h1) v (by simpa using hv))
  simp only [Nat.add_zero, Array.length_toList] at this
  rw [hnew] at this
  exact this
theorem range_row {w : World} {b : Nat} {C : Array Value} {t : TypeId} {fr : Nat × Nat} (hg : w.heap[b]? = some (.cells C t fr)) : w.rangeAt b 0 C.toList := fun j v hj => by
  rw [cell_of_row _ _ _ _ _ _ hg, Nat.zero_add, ← Array.getElem?_toList]; exact hj
/-- Of the old blocks one alone may have turned. -/
structure But (b : Nat) (w w' : World) : Prop where
  os : w'.os = w.os
  tape : w'.tape = w.tape
  output : w'.output = w.output
  size : w.heap.size ≤ w'.heap.size
  block : ∀ k, k < w.heap.size → k ≠ b → w'.heap[k]? = w.heap[k]?
theorem But.refl (b : Nat) (w : World) : But b w w := ⟨rfl, rfl, rfl, Nat.le_refl _, fun _ _ _ => rfl⟩
theorem But.trans {b : Nat} {u v w : World} (h : But b u v) (k : But b v w) : But b u w :=
  ⟨k.os.trans h.os, k.tape.trans h.tape, k.output.trans h.output, Nat.le_trans h.size k.size, fun i hi hn => (k.block i (Nat.lt_of_lt_of_le hi h.size) hn).trans (h.block i hi hn)⟩
theorem But.of_below {b : Nat} {w w' : World} (h : Below w.heap.size w w') : But b w w' := ⟨h.os, h.tape, h.output, h.size, fun k hk _ => h.block k hk⟩
theorem But.below {b B : Nat} {w w' : World} (h : But b w w') (hb : B ≤ b) (hB : B ≤ w.heap.size) : Below B w w' := ⟨h.os, h.tape, h.output, h.size, fun k hk => h.block k (by omega) (by omega)⟩
theorem But.setRow {b : Nat} {u w : World} (h : But b u w) (C : Array Value) : But b u (w.setRow b C) :=
  h.trans ⟨rfl, rfl, rfl, by simp [World.setRow], fun k _ hn => by simp only [World.setRow, Array.getElem?_modify]; rw [if_neg (by omega)]⟩
theorem But.setCell {b o : Nat} {u w : World} (h : But b u w) (v : Value) : But b u (w.setCell ⟨b, o, none⟩ v) :=
  h.trans ⟨rfl, rfl, rfl, by simp [World.setCell], fun k _ hn => Below.heap_setCell _ _ _ _ hn⟩
theorem But.drew {b : Nat} {u w : World} (h : But b u w) : But b u w.drew := ⟨h.os, h.tape, h.output, h.size, h.block⟩
theorem But.far {b : Nat} {w w' : World} (h : But b w w') (hb : w.heap.size ≤ b) : Below w.heap.size w w' := h.below hb (Nat.le_refl _)
end Go.Proofs.YtficmbaffkkfhaaDoor
