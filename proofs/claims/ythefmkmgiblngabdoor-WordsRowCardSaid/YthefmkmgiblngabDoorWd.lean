/- Contract of strings.Clone (a string's bytes, in new memory), of words.PutText and of words.GetText. -/
import Derived.Test.YthefmkmgiblngabDoorWc
import Derived.Lib.UnsafeStr
import Derived.Lib.BufferWrite
import Derived.Deep.OwnRows
import Derived.Deep.WholeRow
namespace Go.Proofs.YthefmkmgiblngabDoor
open Go.RowKit

theorem info_u8 : (Tryd.prog.info? 5).map (fun i => (i.zero, i.size, i.bytes)) = some (some (.int .u8 0), 1, 1) := by kernel_rfl
theorem cells_u8 : Tryd.prog.cellsOf 5 = 1 := by kernel_rfl

theorem mkN (n : Nat) (hn : n ≤ 140737488351232) (w : World) : (Instr.makeSlice 25 (.int .i64 (n : Int)) (.int .i64 (n : Int))).run Tryd.prog w = .ok (.slice (some ⟨w.heap.size, 0, none⟩) n n) (w.alloc (.cells (madeCells #[.int .u8 0] n) 5)) :=
  run_make_row' 25 5 (.int .u8 0) 1 Tryd.underlying25 info_u8 rfl .i64 .i64 n (by omega) (by omega) w
theorem cpN (s : ByteArray) (ty : TypeId) (w : World) : (Builtin.copy_ #[25, 9] ty #[.slice (some ⟨w.heap.size, 0, none⟩) s.size s.size, .string s]).run Tryd.prog (w.alloc (.cells (madeCells #[.int .u8 0] s.size) 5)) = .ok (goInt s.size) (w.alloc (.cells (Lib.byteCells s.data.toList).toArray 5)) := by
  have hsz : (madeCells #[Value.int .u8 0] s.size).size = s.size := by simp [madeCells]
  have h := Lib.run_copy_row_string (P := Tryd.prog) (w.alloc (.cells (madeCells #[.int .u8 0] s.size) 5)) 25 9 ty 5 w.heap.size 0 s.size s.size s (madeCells #[.int .u8 0] s.size) 5 Tryd.underlying25 (by
    have := info_u8
    cases hi : Tryd.prog.info? 5 with
    | none => rw [hi] at this; cases this
    | some i => rw [hi] at this; simp at this; simp [this]) (heap_alloc_new _ _) (Nat.le_refl _) (by rw [hsz]; omega)
  rw [World.setRow_alloc_new] at h
  rw [h]
  congr 4
  simp [hsz]
theorem usN (s : ByteArray) (hs : s.size ≤ 140737488351232) (h0 : s.size ≠ 0) (ty : TypeId) (w : World) : (Builtin.unsafeString_ #[49, 3] ty #[.pointer (some ⟨w.heap.size, 0, none⟩), .int .i64 (s.size : Int)]).run Tryd.prog (w.alloc (.cells (Lib.byteCells s.data.toList).toArray 5)) = .ok (.string s) ((w.alloc (.cells (Lib.byteCells s.data.toList).toArray 5)).freeze ⟨w.heap.size, 0, none⟩ s.size) := by
  have hl : s.data.toList.length = s.size := rfl
  have h := Lib.run_unsafeString_row (P := Tryd.prog) (w.alloc (.cells (Lib.byteCells s.data.toList).toArray 5)) 49 3 ty 5 Tryd.underlying49 cells_u8 w.heap.size s.size (by
    unfold World.shape?; rw [heap_alloc_new]; simp [Lib.byteCells]) s.data.toList (by intro h; rw [h] at hl; simp at hl; omega) (by omega) (by omega) (by
    intro j x hj
    have e : (⟨w.heap.size, 0, none⟩ : Addr).add j = ⟨w.heap.size, j, none⟩ := by simp [Addr.add]; omega
    rw [e, World.cell?_alloc_at _ _ _ _ rfl]
    simp [Lib.byteCells] at hj ⊢
    exact ⟨x, hj, rfl⟩)
  rw [hl] at h
  exact h

set_option maxRecDepth 100000 in
theorem clone0_any (s : ByteArray) (w : World) (hs : s.size ≤ 140737488351232) :
    Calls Tryd.prog 17 #[.string s] w fun e w' => e = .returned (.string s) ∧ Below w.heap.size w w' := by
  by_cases h0 : s.size = 0
  · have hs0 : s = ⟨#[]⟩ := by
      cases s with | mk d => cases d with | mk l => cases l with
        | nil => rfl
        | cons a l => simp [ByteArray.size] at h0
    subst hs0
    go_enter Tryd.func17, Tryd.ntmps17
    go_wp2
    go_ret
    exact ⟨rfl, Below.refl _ _⟩
  · have hmk := mkN s.size hs
    have hcp := cpN s
    have hus := usN s hs h0
    have hne : ((s.size : Int) == 0) = false := beq_eq_false_iff_ne.2 (by omega)
    have hpos : (0 : Int) < (s.size : Int) := by omega
    go_enter Tryd.func17, Tryd.ntmps17
    go_wp2
    go_ret
    exact ⟨rfl, Lib.below_freeze ((Below.refl _ _).alloc (Nat.le_refl _) _) (Nat.le_refl _) _⟩
theorem clone_any (s : ByteArray) (w : World) (hs : s.size ≤ 140737488351232) :
    Calls Tryd.prog 16 #[.string s] w fun e w' => e = .returned (.string s) ∧ Below w.heap.size w w' := by
  go_enter Tryd.func16, Tryd.ntmps16
  go_wp2_with (go_at_call 17; refine (clone0_any _ _ hs).mono ?_; rintro e w' ⟨rfl, hb⟩)
  go_ret
  exact ⟨rfl, hb⟩

/-- What PutText writes. -/
def putT (l : List UInt8) : List UInt8 := bytesOf l.length 2 ++ l
theorem ret_se {a b : ByteArray} (n : Int) (h : a = b) : Ending.returned (.tuple #[.string a, .int .i64 n]) = .returned (.tuple #[.string b, .int .i64 n]) := by rw [h]
theorem S_append (a b : List UInt8) : S a ++ S b = S (a ++ b) := by
  apply ByteArray.ext; simp [S]
theorem S_app (a : List UInt8) (s : ByteArray) : S a ++ s = S (a ++ s.data.toList) := by
  rw [← S_append, S_data]
set_option maxRecDepth 100000 in
theorem putText_yes (s : ByteArray) (w : World) (hT : Tab w) (hs : s.size ≤ 65535) :
    Calls Tryd.prog 6 #[.string s] w fun e w' => e = .returned (.tuple #[.string (S (putT s.data.toList)), .int .i64 0]) ∧ Below w.heap.size w w' := by
  have hL : Hid (putL s.size 2 = bytesOf s.size 2) := by
    show _ = _
    unfold putL
    rw [show fitB (s.size : Int) 2 = true by simp [fitB, lim]; omega]; rfl
  have hln : Hid ((putL s.size 2).length ≤ 2) := by show _ ≤ _; rw [hL.out]; simp
  have hnl : ¬ (65535 : Int) < (s.size : Int) := by omega
  have hs1 : s.size ≤ 140737488351232 := by omega
  have HS : Hid (s.size ≤ 65535) := hs
  clear hs
  go_enter Tryd.func6, Tryd.ntmps6
  go_wp2_with fail
  refine (put_any s.size 2 _ hT (by omega)).mono ?_
  rintro e w' ⟨rfl, hb⟩
  have hp2 : (S (putL s.size 2)).size ≤ 2 := by rw [S_size]; exact hln.out
  have HP : Hid (S (putL s.size 2) ++ s = S (putT s.data.toList)) := by show _ = _; rw [hL.out, S_app]; rfl
  clear hL hln
  generalize S (putL s.size 2) = p at *
  have hsum : ¬ p.size + s.size > 9223372036854775807 := by omega
  go_wp2
  go_ret2
  exact ⟨ret_se 0 HP.out, hb⟩
theorem putText_no (s : ByteArray) (w : World) (h : 65535 < s.size) (hs : s.size ≤ 140737488351232) :
    Calls Tryd.prog 6 #[.string s] w fun e w' => e = .returned (.tuple #[.string (S []), .int .i64 3]) ∧ w' = w := by
  go_enter Tryd.func6, Tryd.ntmps6
  go_wp2
  go_ret2
  exact ⟨rfl, rfl⟩

theorem ret_gt {a b : ByteArray} {n m : Int} (h : a = b) (k : n = m) : Ending.returned (.tuple #[.string a, .int .i64 n, .bool true]) = .returned (.tuple #[.string b, .int .i64 m, .bool true]) := by rw [h, k]
theorem extract_win (s : ByteArray) (a n : Nat) : s.extract a (a + n) = S (win s a n) := by
  apply ByteArray.ext
  apply Array.toList_inj.1
  rw [Lib.extract_data, S_toList, show a + n - a = n by omega]
  rfl
set_option maxRecDepth 100000 in
theorem getText_yes (s : ByteArray) (a n : Nat) (w : World) (hT : Tab w) (hs : s.size ≤ 140737488351232) (hg : getB s a 2 = true) (hn : numL (win s a 2) = n) (h : a + 2 + n ≤ s.size) :
    Calls Tryd.prog 12 #[.string s, .int .i64 a] w fun e w' => e = .returned (.tuple #[.string (S (win s (a + 2) n)), .int .i64 (a + 2 + n), .bool true]) ∧ Below w.heap.size w w' := by
  have hv : getV s a 2 = .tuple #[.int .i64 n, .int .i64 (a + 2), .bool true] := by rw [getV_yes hg]; show Value.tuple #[.int .i64 (numL (win s a 2)), _, _] = _; rw [hn]
  have hst : stB s (a + 2) n = true := stB_iff.2 (by omega)
  clear hn
  go_enter Tryd.func12, Tryd.ntmps12
  go_wp2_with (first | (go_at_call 10; refine (get_any _ _ _ _ hT hs (by omega)).mono ?_; rintro e w' ⟨rfl, rfl⟩) | (go_at_call 15; refine (stands_any _ _ _ _ hs (by omega)).mono ?_; rintro e w' ⟨rfl, rfl⟩))
  have hle : (s.extract (a + 2) (a + 2 + n)).size ≤ 140737488351232 := by rw [ByteArray.size_extract]; omega
  refine (clone_any _ _ hle).mono ?_
  rintro e w' ⟨rfl, hb⟩
  go_wp2
  go_ret3
  exact ⟨ret_gt (extract_win s (a + 2) n) rfl, hb⟩
theorem getText_noget (s : ByteArray) (a : Int) (w : World) (hT : Tab w) (hs : s.size ≤ 140737488351232) (ha : -9223372036854775808 ≤ a ∧ a ≤ 9223372036854775807) (hg : getB s a 2 = false) :
    Calls Tryd.prog 12 #[.string s, .int .i64 a] w fun e w' => e = .returned (.tuple #[.string (S []), .int .i64 0, .bool false]) ∧ Below w.heap.size w w' := by
  have hv : getV s a 2 = .tuple #[.int .i64 0, .int .i64 0, .bool false] := getV_no hg
  go_enter Tryd.func12, Tryd.ntmps12
  go_wp2_with (first | (go_at_call 10; refine (get_any _ _ _ _ hT hs ha).mono ?_; rintro e w' ⟨rfl, rfl⟩))
  go_ret3
  exact ⟨rfl, Below.refl _ _⟩
theorem getText_short (s : ByteArray) (a n : Nat) (w : World) (hT : Tab w) (hs : s.size ≤ 140737488351232) (hg : getB s a 2 = true) (hn : numL (win s a 2) = n) (ha : a ≤ s.size) (h : s.size < a + 2 + n) :
    Calls Tryd.prog 12 #[.string s, .int .i64 a] w fun e w' => e = .returned (.tuple #[.string (S []), .int .i64 0, .bool false]) ∧ Below w.heap.size w w' := by
  have hv : getV s a 2 = .tuple #[.int .i64 n, .int .i64 (a + 2), .bool true] := by rw [getV_yes hg]; show Value.tuple #[.int .i64 (numL (win s a 2)), _, _] = _; rw [hn]
  have hst : stB s (a + 2) n = false := stB_not.2 (by omega)
  clear hn
  go_enter Tryd.func12, Tryd.ntmps12
  go_wp2_with (first | (go_at_call 10; refine (get_any _ _ _ _ hT hs (by omega)).mono ?_; rintro e w' ⟨rfl, rfl⟩) | (go_at_call 15; refine (stands_any _ _ _ _ hs (by omega)).mono ?_; rintro e w' ⟨rfl, rfl⟩))
  go_ret3
  exact ⟨rfl, Below.refl _ _⟩
theorem getB_iff2 {s : ByteArray} {a : Int} : getB s a 2 = true ↔ 0 ≤ a ∧ a + 2 ≤ s.size := by
  unfold getB
  rw [show isSz 2 = true from rfl, show ((2 : Int) == 8) = false from rfl]
  simp [stB]
  omega
/-- The number of bytes of the text that stands at a place. -/
def tlen (s : ByteArray) (a : Nat) : Nat := (numL (win s a 2)).toNat
theorem tlen_eq (s : ByteArray) (a : Nat) : numL (win s a 2) = tlen s a := by
  have := numL_nonneg (win s a 2)
  unfold tlen; omega
/-- Does a text stand there? -/
def txtB (s : ByteArray) (a : Int) : Bool := decide (0 ≤ a) && decide (a + 2 ≤ s.size) && decide (a + 2 + tlen s a.toNat ≤ s.size)
/-- What GetText answers. -/
def txtV (s : ByteArray) (a : Int) : Value := if txtB s a then .tuple #[.string (S (win s (a.toNat + 2) (tlen s a.toNat))), .int .i64 (a + 2 + tlen s a.toNat), .bool true] else .tuple #[.string (S []), .int .i64 0, .bool false]
theorem txtV_yes {s : ByteArray} {a : Int} (h : txtB s a = true) : txtV s a = .tuple #[.string (S (win s (a.toNat + 2) (tlen s a.toNat))), .int .i64 (a + 2 + tlen s a.toNat), .bool true] := by simp [txtV, h]
theorem txtV_no {s : ByteArray} {a : Int} (h : txtB s a = false) : txtV s a = .tuple #[.string (S []), .int .i64 0, .bool false] := by simp [txtV, h]
theorem txtB_iff {s : ByteArray} {a : Int} : txtB s a = true ↔ 0 ≤ a ∧ a + 2 ≤ s.size ∧ a + 2 + tlen s a.toNat ≤ s.size := by simp [txtB, and_assoc]
theorem txtB_not {s : ByteArray} {a : Int} (h : ¬ (0 ≤ a ∧ a + 2 ≤ s.size ∧ a + 2 + tlen s a.toNat ≤ s.size)) : txtB s a = false := by
  cases hb : txtB s a with
  | false => rfl
  | true => exact absurd (txtB_iff.1 hb) h
/-- GetText, for every argument. -/
theorem getText_any (s : ByteArray) (a : Int) (w : World) (hT : Tab w) (hs : s.size ≤ 140737488351232) (ha : -9223372036854775808 ≤ a ∧ a ≤ 9223372036854775807) :
    Calls Tryd.prog 12 #[.string s, .int .i64 a] w fun e w' => e = .returned (txtV s a) ∧ Below w.heap.size w w' := by
  cases hg : getB s a 2 with
  | false =>
    rw [txtV_no (txtB_not (fun h => by rw [getB_iff2.2 ⟨h.1, h.2.1⟩] at hg; cases hg))]
    exact getText_noget s a w hT hs ha hg
  | true =>
    obtain ⟨h0, h1⟩ := getB_iff2.1 hg
    obtain ⟨a, rfl⟩ := Int.eq_ofNat_of_zero_le h0
    have ht := tlen_eq s a
    have hcast : ((a : Int)).toNat = a := by omega
    by_cases hle : a + 2 + tlen s a ≤ s.size
    · rw [txtV_yes (txtB_iff.2 ⟨h0, h1, by rw [hcast]; omega⟩), hcast]
      exact getText_yes s a _ w hT hs hg ht hle
    · rw [txtV_no (txtB_not (fun h => by rw [hcast] at h; omega))]
      exact getText_short s a _ w hT hs hg ht (by omega) (by omega)

/-- What PutText answers. -/
def putTV (s : ByteArray) : Value := if s.size ≤ 65535 then .tuple #[.string (S (putT s.data.toList)), .int .i64 0] else .tuple #[.string (S []), .int .i64 3]
theorem putTV_yes {s : ByteArray} (h : s.size ≤ 65535) : putTV s = .tuple #[.string (S (putT s.data.toList)), .int .i64 0] := by simp [putTV, h]
theorem putTV_no {s : ByteArray} (h : 65535 < s.size) : putTV s = .tuple #[.string (S []), .int .i64 3] := by simp only [putTV]; rw [if_neg (by omega)]
/-- PutText, for every argument. -/
theorem putText_any (s : ByteArray) (w : World) (hT : Tab w) (hs : s.size ≤ 140737488351232) :
    Calls Tryd.prog 6 #[.string s] w fun e w' => e = .returned (putTV s) ∧ Below w.heap.size w w' := by
  by_cases h : s.size ≤ 65535
  · rw [putTV_yes h]; exact putText_yes s w hT h
  · rw [putTV_no (by omega)]
    refine (putText_no s w (by omega) hs).mono ?_
    rintro e w' ⟨rfl, rfl⟩
    exact ⟨rfl, Below.refl _ _⟩
end Go.Proofs.YthefmkmgiblngabDoor
