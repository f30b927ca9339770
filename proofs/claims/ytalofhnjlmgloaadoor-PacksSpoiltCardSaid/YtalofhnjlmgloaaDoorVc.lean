/- Contract of words.Get: the number that stands at a place. -/
import Derived.Test.YtalofhnjlmgloaaDoorVb
namespace Go.Proofs.YtalofhnjlmgloaaDoor
open Go.RowKit

theorem ret_get {a b c d : Int} (h : a = b) (k : c = d) : Ending.returned (.tuple #[.int .i64 a, .int .i64 c, .bool true]) = .returned (.tuple #[.int .i64 b, .int .i64 d, .bool true]) := by rw [h, k]

set_option maxRecDepth 100000 in
set_option maxHeartbeats 800000 in
theorem get_yes (s : ByteArray) (a size : Nat) (w : World) (hT : Tab w) (hs : s.size ≤ 140737488351232) (hz : isSz size = true) (ha : a + size ≤ s.size)
    (hfit : ∀ k, k < size → numL (win s a k) * 256 + 255 ≤ 9223372036854775807) (h8 : (((size : Int) == 8) = false) ∨ ((((size : Int) == 8) = true) ∧ ∀ h : a < s.size, ((s[a]'h).toNat : Int) < 128)) :
    Calls Tryd.prog 35 #[.string s, .int .i64 a, .int .i64 size] w fun e w' => e = .returned (.tuple #[.int .i64 (numL (win s a size)), .int .i64 (a + size), .bool true]) ∧ w' = w := by
  have hsz : (size : Int) = 1 ∨ (size : Int) = 2 ∨ (size : Int) = 4 ∨ (size : Int) = 8 := isSz_of hz
  have hst : stB s a size = true := stB_iff.2 (by omega)
  have hlt : a < s.size := by omega
  rcases h8 with h8 | ⟨h8, hb⟩
  rotate_left
  have hb0 := hb hlt
  have hb1 : ¬ (128 : Int) ≤ ((s[a]'hlt).toNat : Int) := by omega
  clear hb
  all_goals
    go_enter Tryd.func35, Tryd.ntmps35
    go_wp2_with (first | (go_at_call 45; refine (isSize_any _ _ hT).mono ?_; rintro e w' ⟨rfl, rfl⟩) | (go_at_call 46; refine (stands_any _ _ _ _ hs (by omega)).mono ?_; rintro e w' ⟨rfl, rfl⟩))
    go_loop [6, 29] (fun n i => ∃ k : Nat, k ≤ size ∧ i = .int .i64 k ∧ n = .int .i64 (numL (win s a k))) (fun _ i => size - (intOf i).toNat)
    case atStart => exact ⟨0, Nat.zero_le _, rfl, rfl⟩
    case round =>
      obtain ⟨k, hk, rfl, rfl⟩ := hrel
      have h0 := numL_nonneg (win s a k)
      by_cases hlt2 : k < size
      · have hf := hfit k hlt2
        have HS : Hid (numL (win s a (k + 1)) = numL (win s a k) * 256 + (s[a + k].toNat : Int)) := by
          show _ = _; rw [win_succ s a k (by omega), numL_snoc]
        generalize numL (win s a k) = x at *
        have HO : Hid (bits BinOp.or IntKind.i64 (x * 256) (wrap64 (s[a + k].toNat : Int)) = x * 256 + (s[a + k].toNat : Int)) := or_byte x _ h0 hf
        go_wp2
        go_round
        case rel => exact ⟨k + 1, by omega, by go_num, by rw [HS.out, HO.out]⟩
        case measure => simp [intOf]; omega
      · obtain rfl : k = size := by omega
        go_wp2
        go_ret3
        exact ⟨rfl, rfl⟩

theorem get_nosize (s : ByteArray) (a size : Int) (w : World) (hT : Tab w) (hz : isSz size = false) :
    Calls Tryd.prog 35 #[.string s, .int .i64 a, .int .i64 size] w fun e w' => e = .returned (.tuple #[.int .i64 0, .int .i64 0, .bool false]) ∧ w' = w := by
  go_enter Tryd.func35, Tryd.ntmps35
  go_wp2_with (first | (go_at_call 45; refine (isSize_any _ _ hT).mono ?_; rintro e w' ⟨rfl, rfl⟩))
  go_ret3
  exact ⟨rfl, rfl⟩
theorem get_short (s : ByteArray) (a size : Int) (w : World) (hT : Tab w) (hs : s.size ≤ 140737488351232) (ha : -9223372036854775808 ≤ a ∧ a ≤ 9223372036854775807) (hz : isSz size = true) (hst : stB s a size = false) :
    Calls Tryd.prog 35 #[.string s, .int .i64 a, .int .i64 size] w fun e w' => e = .returned (.tuple #[.int .i64 0, .int .i64 0, .bool false]) ∧ w' = w := by
  go_enter Tryd.func35, Tryd.ntmps35
  go_wp2_with (first | (go_at_call 45; refine (isSize_any _ _ hT).mono ?_; rintro e w' ⟨rfl, rfl⟩) | (go_at_call 46; refine (stands_any _ _ _ _ hs ha).mono ?_; rintro e w' ⟨rfl, rfl⟩))
  go_ret3
  exact ⟨rfl, rfl⟩
theorem get_high (s : ByteArray) (a : Nat) (w : World) (hT : Tab w) (hs : s.size ≤ 140737488351232) (ha : a + 8 ≤ s.size) (hb : (128 : Int) ≤ ((s[a]'(by omega)).toNat : Int)) :
    Calls Tryd.prog 35 #[.string s, .int .i64 a, .int .i64 8] w fun e w' => e = .returned (.tuple #[.int .i64 0, .int .i64 0, .bool false]) ∧ w' = w := by
  have hz : isSz 8 = true := rfl
  have hst : stB s a 8 = true := stB_iff.2 (by omega)
  have hlt : a < s.size := by omega
  go_enter Tryd.func35, Tryd.ntmps35
  go_wp2_with (first | (go_at_call 45; refine (isSize_any _ _ hT).mono ?_; rintro e w' ⟨rfl, rfl⟩) | (go_at_call 46; refine (stands_any _ _ _ _ hs (by omega)).mono ?_; rintro e w' ⟨rfl, rfl⟩))
  go_ret3
  exact ⟨rfl, rfl⟩

/-- Is that byte 128 or more? -/
def hiB (s : ByteArray) (a : Nat) : Bool := decide (128 ≤ (s.data.toList[a]?.getD 0).toNat)
theorem hiB_eq (s : ByteArray) (a : Nat) (h : a < s.size) : hiB s a = decide (128 ≤ (s[a]'h).toNat) := by
  have h2 : a < s.data.toList.length := h
  unfold hiB
  rw [List.getElem?_eq_getElem h2]; rfl
/-- Does a number of that size stand there? -/
def getB (s : ByteArray) (a size : Int) : Bool := isSz size && stB s a size && !(size == 8 && hiB s a.toNat)
/-- What Get answers. -/
def getV (s : ByteArray) (a size : Int) : Value := if getB s a size then .tuple #[.int .i64 (numL (win s a.toNat size.toNat)), .int .i64 (a + size), .bool true] else .tuple #[.int .i64 0, .int .i64 0, .bool false]
theorem getV_yes {s : ByteArray} {a size : Int} (h : getB s a size = true) : getV s a size = .tuple #[.int .i64 (numL (win s a.toNat size.toNat)), .int .i64 (a + size), .bool true] := by simp [getV, h]
theorem getV_no {s : ByteArray} {a size : Int} (h : getB s a size = false) : getV s a size = .tuple #[.int .i64 0, .int .i64 0, .bool false] := by simp [getV, h]
/-- Get, for every argument. -/
theorem get_any (s : ByteArray) (a size : Int) (w : World) (hT : Tab w) (hs : s.size ≤ 140737488351232) (ha : -9223372036854775808 ≤ a ∧ a ≤ 9223372036854775807) :
    Calls Tryd.prog 35 #[.string s, .int .i64 a, .int .i64 size] w fun e w' => e = .returned (getV s a size) ∧ w' = w := by
  cases hz : isSz size with
  | false => rw [getV_no (by simp [getB, hz])]; exact get_nosize s a size w hT hz
  | true =>
    cases hst : stB s a size with
    | false => rw [getV_no (by simp [getB, hst])]; exact get_short s a size w hT hs ha hz hst
    | true =>
      obtain ⟨h0, h1⟩ := stB_iff.1 hst
      have hsz := isSz_of hz
      obtain ⟨a, rfl⟩ := Int.eq_ofNat_of_zero_le h0
      obtain ⟨size, rfl⟩ := Int.eq_ofNat_of_zero_le (show 0 ≤ size by omega)
      have hlt : a < s.size := by omega
      have hat := hiB_eq s a hlt
      by_cases h8 : size = 8
      · subst h8
        by_cases hb : 128 ≤ (s[a]'hlt).toNat
        · rw [getV_no (by show (_ && _ && !(_ && hiB s a)) = _; rw [hz, hst, hat, decide_eq_true hb]; rfl)]
          exact get_high s a w hT hs (by omega) (by omega)
        · rw [getV_yes (by show (_ && _ && !(_ && hiB s a)) = _; rw [hz, hst, hat, decide_eq_false hb]; rfl)]
          exact get_yes s a 8 w hT hs hz (by omega) (fun k hk => fit_eight s a k hk (by omega) (by omega)) (.inr ⟨rfl, fun _ => by omega⟩)
      · rw [getV_yes (by show (_ && _ && !(((size : Int) == 8) && _)) = _; rw [hz, hst, show ((size : Int) == 8) = false by simp; omega]; rfl)]
        exact get_yes s a size w hT hs hz (by omega) (fun k hk => fit_small s a size k hk (by omega) (by omega)) (.inl (by simp; omega))
end Go.Proofs.YtalofhnjlmgloaaDoor
