/- The document's own More and Sum. -/
import Derived.Test.YtalofhnjlmgloaaDoorCc
namespace Go.Proofs.YtalofhnjlmgloaaDoor
open Go.RowKit

theorem half_w (r : W32) : iw r / (2 : Int) = iw (r >>> 1) := by
  have := iw_shr r 1
  rwa [show (2 : Int) ^ 1 = 2 by rfl] at this
theorem low_w (r : W32) : (iw r % 2 == 1) = r.getLsbD 0 := by
  rw [low_mod, Bool.eq_iff_iff]
  unfold iw
  simp
  omega
theorem poly_w (r : W32) : bits .xor .u32 (iw r) 3988292384 = iw (r ^^^ poly) := by
  have : (3988292384 : Int) = iw poly := by decide
  rw [this, iw_xor]
set_option maxRecDepth 100000 in
set_option maxHeartbeats 800000 in
theorem rmore_any (x : W32) (s : ByteArray) (w : World) (hs : s.size ≤ 140737488351232) :
    Calls Tryd.prog 43 #[.int .u32 (iw x), .string s] w fun e w' => e = .returned (.int .u32 (iw (moreL x s.data.toList))) ∧ w' = w := by
  have n0 : Hid (bits .xor .u32 IntKind.u32.max (iw x) = iw (~~~ x)) := iw_not x
  have HE : Hid (iw (~~~ (crcL (~~~ x) (pre s s.size))) = iw (moreL x s.data.toList)) := by show _ = _; rw [pre_all]; rfl
  generalize iw (moreL x s.data.toList) = R at *
  go_enter Tryd.func43, Tryd.ntmps43
  go_wp2
  go_loop [5, 6] (fun r i => ∃ k : Nat, k ≤ s.size ∧ i = .int .i64 k ∧ r = .int .u32 (iw (crcL (~~~ x) (pre s k)))) (fun _ i => s.size - (intOf i).toNat)
  case atStart => exact ⟨0, Nat.zero_le _, rfl, by rw [n0.out]; rfl⟩
  case round =>
    obtain ⟨k, hk, rfl, rfl⟩ := hrel
    by_cases hlt : k < s.size
    · have HS : Hid (crcL (~~~ x) (pre s (k + 1)) = stepB (crcL (~~~ x) (pre s k)) s[k]) := by
        show _ = _; rw [pre_succ s k hlt, crcL_snoc]
      generalize crcL (~~~ x) (pre s k) = r at *
      have ex : Hid (bits .xor .u32 (iw r) ((s[k].toNat : Int) % 4294967296) = iw (r ^^^ bw s[k])) := by
        show _ = _
        have h8 := u8_lt s[k]
        rw [show (s[k].toNat : Int) % 4294967296 = (s[k].toNat : Int) by omega, ← iw_bw, iw_xor]
      go_wp2
      go_loop [5, 7] (fun v j => ∃ m : Nat, m ≤ 8 ∧ j = .int .i64 m ∧ v = .int .u32 (iw (bitN m (r ^^^ bw s[k])))) (fun _ j => 8 - (intOf j).toNat)
      case atStart => exact ⟨0, Nat.zero_le _, rfl, by rw [ex.out]; rfl⟩
      case round =>
        obtain ⟨m, hm, rfl, rfl⟩ := hrel
        by_cases hl2 : m < 8
        · have HN : Hid (bitN (m + 1) (r ^^^ bw s[k]) = bit1 (bitN m (r ^^^ bw s[k]))) := bitN_snoc _ _
          generalize bitN m (r ^^^ bw s[k]) = v at *
          have lo : Hid ((iw v % 2 == 1) = v.getLsbD 0) := low_w v
          have ha : Hid (iw v / (2 : Int) = iw (v >>> 1)) := half_w v
          have v0 := iw_nonneg v
          have v1 := iw_lt v
          cases hb : v.getLsbD 0 with
          | false =>
            have e1 : Hid (bit1 v = v >>> 1) := bit1_even hb
            have lo' : (iw v % 2 == 1) = false := lo.out.trans hb
            clear lo hb
            generalize iw v = X at *
            go_wp2
            go_round
            case rel => exact ⟨m + 1, by omega, by go_num, by rw [HN.out, e1.out, ha.out]⟩
            case measure => simp [intOf]; omega
          | true =>
            have e1 : Hid (bit1 v = (v >>> 1) ^^^ poly) := bit1_odd hb
            have lo' : (iw v % 2 == 1) = true := lo.out.trans hb
            have po : Hid (bits .xor .u32 (iw (v >>> 1)) 3988292384 = iw ((v >>> 1) ^^^ poly)) := poly_w _
            clear lo hb
            generalize iw v = X at *
            go_wp2
            go_round
            case rel => exact ⟨m + 1, by omega, by go_num, by rw [HN.out, e1.out, ha.out, po.out]⟩
            case measure => simp [intOf]; omega
        · obtain rfl : m = 8 := by omega
          go_wp2
          go_round
          case rel => exact ⟨k + 1, by omega, by go_num, by rw [HS.out]; rfl⟩
          case measure => simp [intOf]; omega
    · obtain rfl : k = s.size := by omega
      have n1 : Hid (bits .xor .u32 IntKind.u32.max (iw (crcL (~~~ x) (pre s s.size))) = iw (~~~ (crcL (~~~ x) (pre s s.size)))) := iw_not _
      go_wp2
      go_ret
      exact ⟨ret_w (n1.out.trans HE.out), rfl⟩
theorem rsum_any (s : ByteArray) (w : World) (hs : s.size ≤ 140737488351232) :
    Calls Tryd.prog 32 #[.string s] w fun e w' => e = .returned (.int .u32 (iw (moreL 0#32 s.data.toList))) ∧ w' = w := by
  have h := rmore_any 0#32 s w hs
  generalize iw (moreL 0#32 s.data.toList) = R at *
  have H : Hid (Calls Tryd.prog 43 #[.int .u32 0, .string s] w fun e w' => e = .returned (.int .u32 R) ∧ w' = w) := h
  clear h
  go_enter Tryd.func32, Tryd.ntmps32
  go_wp2_with fail
  refine H.out.mono ?_
  rintro e w' ⟨rfl, rfl⟩
  go_wp2
  go_ret
  exact ⟨rfl, rfl⟩
end Go.Proofs.YtalofhnjlmgloaaDoor
