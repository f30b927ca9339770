/- Contracts of package sums: More, Sum. -/
import Derived.Test.YtalofhnjlmgloaaDoorCa
namespace Go.Proofs.YtalofhnjlmgloaaDoor
open Go.RowKit

/-- A number of 32 bits is a word. -/
theorem word_of {n : Int} (h0 : 0 ≤ n) (h1 : n < 4294967296) : ∃ x : W32, n = iw x := by
  refine ⟨BitVec.ofNat 32 n.toNat, ?_⟩
  unfold iw
  rw [BitVec.toNat_ofNat]
  omega
/-- A text's first k bytes. -/
def pre (s : ByteArray) (k : Nat) : List UInt8 := s.data.toList.take k
theorem pre_succ (s : ByteArray) (k : Nat) (h : k < s.size) : pre s (k + 1) = pre s k ++ [s[k]] := by
  have h2 : k < s.data.toList.length := h
  unfold pre
  rw [List.take_add_one, List.getElem?_eq_getElem h2]
  rfl
theorem pre_all (s : ByteArray) : pre s s.size = s.data.toList := by
  unfold pre
  exact List.take_of_length_le (Nat.le_refl _)
set_option maxRecDepth 100000 in
theorem more_any (x : W32) (s : ByteArray) (w : World) (hT : Tab4 w) (hs : s.size ≤ 140737488351232) :
    Calls Tryd.prog 49 #[.int .u32 (iw x), .string s] w fun e w' => e = .returned (.int .u32 (iw (moreL x s.data.toList))) ∧ w' = w := by
  have HB : Hid (∀ r, Calls Tryd.prog 53 #[.int .u32 (iw r)] w fun e w' => e = .returned (.int .u32 (iw (fr4 r))) ∧ w' = w) := fun r => behind_any r w hT
  have n0 : Hid (bits .xor .u32 IntKind.u32.max (iw x) = iw (~~~ x)) := iw_not x
  have HE : Hid (iw (~~~ (crcL (~~~ x) (pre s s.size))) = iw (moreL x s.data.toList)) := by show _ = _; rw [pre_all]; rfl
  generalize iw (moreL x s.data.toList) = R at *
  go_enter Tryd.func49, Tryd.ntmps49
  go_wp2
  go_loop [5, 11] (fun r i => ∃ k : Nat, k ≤ s.size ∧ i = .int .i64 k ∧ r = .int .u32 (iw (crcL (~~~ x) (pre s k)))) (fun _ i => s.size - (intOf i).toNat)
  case atStart => exact ⟨0, Nat.zero_le _, rfl, by rw [n0.out]; rfl⟩
  case round =>
    obtain ⟨k, hk, rfl, rfl⟩ := hrel
    by_cases hlt : k < s.size
    · have HS : Hid (crcL (~~~ x) (pre s (k + 1)) = stepB (crcL (~~~ x) (pre s k)) s[k]) := by
        show _ = _; rw [pre_succ s k hlt, crcL_snoc]
      generalize crcL (~~~ x) (pre s k) = r at *
      have ex : Hid (bits .xor .u32 (iw r) ((s[k].toNat : Int) % 4294967296) = iw (r ^^^ bw s[k])) := by
        show _ = _
        have h8 := u8_lt s[k]
        rw [show (s[k].toNat : Int) % 4294967296 = (s[k].toNat : Int) by omega, ← iw_bw, iw_xor]
      have h4 : Hid (fr4 (fr4 (r ^^^ bw s[k])) = stepB r s[k]) := stepB_four _ _
      go_wp2_with fail
      rw [ex.out]
      refine (HB.out _).mono ?_
      rintro e w' ⟨rfl, rfl⟩
      go_wp2_with fail
      refine (HB.out _).mono ?_
      rintro e w' ⟨rfl, rfl⟩
      rw [h4.out, ← HS.out]
      go_wp2
      go_round
      case rel => exact ⟨k + 1, by omega, by go_num, rfl⟩
      case measure => simp [intOf]; omega
    · obtain rfl : k = s.size := by omega
      have n1 : Hid (bits .xor .u32 IntKind.u32.max (iw (crcL (~~~ x) (pre s s.size))) = iw (~~~ (crcL (~~~ x) (pre s s.size)))) := iw_not _
      go_wp2
      go_ret
      exact ⟨ret_w (n1.out.trans HE.out), rfl⟩
theorem sum_any (s : ByteArray) (w : World) (hT : Tab4 w) (hs : s.size ≤ 140737488351232) :
    Calls Tryd.prog 50 #[.string s] w fun e w' => e = .returned (.int .u32 (iw (moreL 0#32 s.data.toList))) ∧ w' = w := by
  have h := more_any 0#32 s w hT hs
  generalize iw (moreL 0#32 s.data.toList) = R at *
  have H : Hid (Calls Tryd.prog 49 #[.int .u32 0, .string s] w fun e w' => e = .returned (.int .u32 R) ∧ w' = w) := h
  clear h
  go_enter Tryd.func50, Tryd.ntmps50
  go_wp2_with fail
  refine H.out.mono ?_
  rintro e w' ⟨rfl, rfl⟩
  go_wp2
  go_ret
  exact ⟨rfl, rfl⟩
theorem moreS_any (x : W32) (l : List UInt8) (w : World) (hT : Tab4 w) (hs : l.length ≤ 140737488351232) :
    Calls Tryd.prog 49 #[.int .u32 (iw x), .string (S l)] w fun e w' => e = .returned (.int .u32 (iw (moreL x l))) ∧ w' = w := by
  have := more_any x (S l) w hT (by simpa using hs)
  rwa [S_toList] at this
theorem sumS_any (l : List UInt8) (w : World) (hT : Tab4 w) (hs : l.length ≤ 140737488351232) :
    Calls Tryd.prog 50 #[.string (S l)] w fun e w' => e = .returned (.int .u32 (iw (moreL 0#32 l))) ∧ w' = w := by
  have := sum_any (S l) w hT (by simpa using hs)
  rwa [S_toList] at this
end Go.Proofs.YtalofhnjlmgloaaDoor
