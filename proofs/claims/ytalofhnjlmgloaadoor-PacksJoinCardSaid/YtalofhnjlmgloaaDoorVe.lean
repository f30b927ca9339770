/- Contracts of the document's own Get, GetText and GetHash. -/
import Derived.Test.YtalofhnjlmgloaaDoorVd
namespace Go.Proofs.YtalofhnjlmgloaaDoor
open Go.RowKit

set_option maxRecDepth 100000 in
set_option maxHeartbeats 800000 in
theorem rget_yes (s : ByteArray) (a size : Nat) (w : World) (hs : s.size ≤ 140737488351232) (hz : isSz size = true) (ha : a + size ≤ s.size)
    (hfit : ∀ k, k < size → numL (win s a k) * 256 + 255 ≤ 9223372036854775807) (h8 : (((size : Int) == 8) = false) ∨ ((((size : Int) == 8) = true) ∧ ∀ h : a < s.size, ((s[a]'h).toNat : Int) < 128)) :
    Calls Tryd.prog 34 #[.string s, .int .i64 a, .int .i64 size] w fun e w' => e = .returned (.tuple #[.int .i64 (numL (win s a size)), .int .i64 (a + size), .bool true]) ∧ w' = w := by
  have hsz : (size : Int) = 1 ∨ (size : Int) = 2 ∨ (size : Int) = 4 ∨ (size : Int) = 8 := isSz_of hz
  have hlt : a < s.size := by omega
  have g1 : decide ((a : Int) < 0) = false := decide_eq_false (by omega)
  have g2 : decide (s.size < a) = false := decide_eq_false (by omega)
  have g3 : decide ((s.size : Int) - (a : Int) < (size : Int)) = false := decide_eq_false (by omega)
  rcases h8 with h8 | ⟨h8, hb⟩
  rotate_left
  have hb0 := hb hlt
  have hb1 : decide ((128 : Int) ≤ ((s[a]'hlt).toNat : Int)) = false := decide_eq_false (by omega)
  clear hb
  all_goals
    go_enter Tryd.func34, Tryd.ntmps34
    go_wp2_with (first | (go_at_call 42; refine (rsize_any _ _).mono ?_; rintro e w' ⟨rfl, rfl⟩))
    go_loop [9, 10] (fun n i => ∃ k : Nat, k ≤ size ∧ i = .int .i64 k ∧ n = .int .i64 (numL (win s a k))) (fun _ i => size - (intOf i).toNat)
    case atStart => exact ⟨0, Nat.zero_le _, rfl, rfl⟩
    case round =>
      obtain ⟨k, hk, rfl, rfl⟩ := hrel
      have h0 := numL_nonneg (win s a k)
      by_cases hlt2 : k < size
      · have hf := hfit k hlt2
        have HS : Hid (numL (win s a (k + 1)) = numL (win s a k) * 256 + (s[a + k].toNat : Int)) := by
          show _ = _; rw [win_succ s a k (by omega), numL_snoc]
        generalize numL (win s a k) = x at *
        have hby := u8_lt s[a + k]
        have hw1 : wrap64 (s[a + k].toNat : Int) = (s[a + k].toNat : Int) := by unfold wrap64; omega
        go_wp2
        go_round
        case rel => exact ⟨k + 1, by omega, by go_num, by rw [HS.out]⟩
        case measure => simp [intOf]; omega
      · obtain rfl : k = size := by omega
        go_wp2
        go_ret3
        exact ⟨rfl, rfl⟩

set_option maxRecDepth 100000 in
theorem rget_nosize (s : ByteArray) (a size : Int) (w : World) (hz : isSz size = false) :
    Calls Tryd.prog 34 #[.string s, .int .i64 a, .int .i64 size] w fun e w' => e = .returned (.tuple #[.int .i64 0, .int .i64 0, .bool false]) ∧ w' = w := by
  go_enter Tryd.func34, Tryd.ntmps34
  go_wp2_with (first | (go_at_call 42; refine (rsize_any _ _).mono ?_; rintro e w' ⟨rfl, rfl⟩))
  go_ret3
  exact ⟨rfl, rfl⟩
set_option maxRecDepth 100000 in
set_option maxHeartbeats 800000 in
theorem rget_short (s : ByteArray) (a size : Int) (w : World) (hs : s.size ≤ 140737488351232) (ha : -9223372036854775808 ≤ a ∧ a ≤ 9223372036854775807) (hz : isSz size = true) (hst : stB s a size = false) :
    Calls Tryd.prog 34 #[.string s, .int .i64 a, .int .i64 size] w fun e w' => e = .returned (.tuple #[.int .i64 0, .int .i64 0, .bool false]) ∧ w' = w := by
  have h := stB_not.1 hst
  clear hst
  obtain ⟨a1, a2⟩ := ha
  by_cases g1 : a < 0
  · clear h
    go_enter Tryd.func34, Tryd.ntmps34
    go_wp2_with (first | (go_at_call 42; refine (rsize_any _ _).mono ?_; rintro e w' ⟨rfl, rfl⟩))
    go_ret3
    exact ⟨rfl, rfl⟩
  by_cases g2 : (s.size : Int) < a
  · clear h
    go_enter Tryd.func34, Tryd.ntmps34
    go_wp2_with (first | (go_at_call 42; refine (rsize_any _ _).mono ?_; rintro e w' ⟨rfl, rfl⟩))
    go_ret3
    exact ⟨rfl, rfl⟩
  have g3 : (s.size : Int) - a < size := by omega
  clear h
  go_enter Tryd.func34, Tryd.ntmps34
  go_wp2_with (first | (go_at_call 42; refine (rsize_any _ _).mono ?_; rintro e w' ⟨rfl, rfl⟩))
  go_ret3
  exact ⟨rfl, rfl⟩
set_option maxRecDepth 100000 in
theorem rget_high (s : ByteArray) (a : Nat) (w : World) (hs : s.size ≤ 140737488351232) (ha : a + 8 ≤ s.size) (hb : (128 : Int) ≤ ((s[a]'(by omega)).toNat : Int)) :
    Calls Tryd.prog 34 #[.string s, .int .i64 a, .int .i64 8] w fun e w' => e = .returned (.tuple #[.int .i64 0, .int .i64 0, .bool false]) ∧ w' = w := by
  have hz : isSz 8 = true := rfl
  have hlt : a < s.size := by omega
  have g1 : ¬ (a : Int) < 0 := by omega
  have g2 : ¬ (s.size : Int) < (a : Int) := by omega
  have g3 : ¬ (s.size : Int) - (a : Int) < 8 := by omega
  go_enter Tryd.func34, Tryd.ntmps34
  go_wp2_with (first | (go_at_call 42; refine (rsize_any _ _).mono ?_; rintro e w' ⟨rfl, rfl⟩))
  go_ret3
  exact ⟨rfl, rfl⟩
/-- The document's Get, for every argument: what the program's answers. -/
theorem rget_any (s : ByteArray) (a size : Int) (w : World) (hs : s.size ≤ 140737488351232) (ha : -9223372036854775808 ≤ a ∧ a ≤ 9223372036854775807) :
    Calls Tryd.prog 34 #[.string s, .int .i64 a, .int .i64 size] w fun e w' => e = .returned (getV s a size) ∧ w' = w := by
  cases hz : isSz size with
  | false => rw [getV_no (by simp [getB, hz])]; exact rget_nosize s a size w hz
  | true =>
    cases hst : stB s a size with
    | false => rw [getV_no (by simp [getB, hst])]; exact rget_short s a size w hs ha hz hst
    | true =>
      obtain ⟨h0, h1⟩ := stB_iff.1 hst
      have hsz := isSz_of hz
      obtain ⟨a, rfl⟩ := Int.eq_ofNat_of_zero_le h0
      obtain ⟨size, rfl⟩ := Int.eq_ofNat_of_zero_le (show 0 ≤ size by omega)
      have hlt : a < s.size := by omega
      have hat := hiB_eq s a hlt
      by_cases h8 : size = 8
      · subst h8
        by_cases hb : 128 ≤ (s[a]'hlt).toNat
        · rw [getV_no (by show (_ && _ && !(_ && hiB s a)) = _; rw [hz, hst, hat, decide_eq_true hb]; rfl)]
          exact rget_high s a w hs (by omega) (by omega)
        · rw [getV_yes (by show (_ && _ && !(_ && hiB s a)) = _; rw [hz, hst, hat, decide_eq_false hb]; rfl)]
          exact rget_yes s a 8 w hs hz (by omega) (fun k hk => fit_eight s a k hk (by omega) (by omega)) (.inr ⟨rfl, fun _ => by omega⟩)
      · rw [getV_yes (by show (_ && _ && !(((size : Int) == 8) && _)) = _; rw [hz, hst, show ((size : Int) == 8) = false by simp; omega]; rfl)]
        exact rget_yes s a size w hs hz (by omega) (fun k hk => fit_small s a size k hk (by omega) (by omega)) (.inl (by simp; omega))

end Go.Proofs.YtalofhnjlmgloaaDoor
