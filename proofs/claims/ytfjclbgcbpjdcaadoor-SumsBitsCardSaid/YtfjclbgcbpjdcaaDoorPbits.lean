/- The law SumsBits: it returns true. -/
import Derived.Test.YtfjclbgcbpjdcaaDoorCt
namespace Go.Proofs.YtfjclbgcbpjdcaaDoor
open Go.RowKit

theorem wb_num (v : W32) (i : Nat) : iw v / 2 ^ (8 * i) % 256 = ((wb v i).toNat : Int) := by
  unfold iw wb
  simp
set_option maxRecDepth 100000 in
set_option maxHeartbeats 1600000 in
theorem bits_any (s : ByteArray) (at' : Int) (v : W32) (w : World) (hT : Tab4 w) (hat : 0 ≤ at' ∧ at' ≤ 65535) (hs : s.size ≤ 140737488351232) :
    Calls Tryd.prog 5 #[.string s, .int .u16 at', .int .u32 (iw v)] w fun e w' => e = .returned (.bool true) ∧ Below w.heap.size w w' := by
  have h0 : Hid (Calls Tryd.prog 13 #[] w fun e w' => e = .returned (.bool true) ∧ w' = w) := does_any w hT
  by_cases ha : s.size ≤ 20000
  rotate_left
  · go_enter Tryd.func5, Tryd.ntmps5
    go_wp2_with fail
    refine h0.out.mono ?_
    rintro e w' ⟨rfl, rfl⟩
    go_wp2
    go_ret
    exact ⟨rfl, Below.refl _ _⟩
  by_cases hb : 4 ≤ s.size
  rotate_left
  · go_enter Tryd.func5, Tryd.ntmps5
    go_wp2_with fail
    refine h0.out.mono ?_
    rintro e w' ⟨rfl, rfl⟩
    go_wp2
    go_ret
    exact ⟨rfl, Below.refl _ _⟩
  obtain ⟨C, z, n, w1, hcv, hC, hR⟩ := row_made w s
  have HR : Hid _ := hR
  clear hR
  go_enter Tryd.func5, Tryd.ntmps5
  have g1 : decide ((20000 : Int) < (s.size : Int)) = false := decide_eq_false (by omega)
  have g2 : decide ((s.size : Int) < 4) = false := decide_eq_false (by omega)
  have hk0 : 0 ≤ at' % ((s.size : Int) - 3) := Int.emod_nonneg _ (by omega)
  have hk1 : at' % ((s.size : Int) - 3) < (s.size : Int) - 3 := Int.emod_lt_of_pos _ (by omega)
  go_wp2
  generalize at' % ((s.size : Int) - 3) = kk at *
  obtain ⟨K, rfl⟩ := Int.eq_ofNat_of_zero_le hk0
  clear hk0 hcv
  go_loopw [9] (fun i wr => ∃ m : Nat, m ≤ 4 ∧ i = .int .i64 m ∧ Row w (turnN v K s.data.toList m) z n wr) (fun i _ => 4 - (intOf i).toNat)
  case atStart => exact ⟨0, Nat.zero_le _, rfl, HR.out⟩
  case round =>
    obtain ⟨m, hm, rfl, hI⟩ := hrel
    clear HR
    have hln : (turnN v K s.data.toList m).length = s.size := turnN_length _ _ _ _
    by_cases hlt : m < 4
    · have c1 := hI.cell (j := K + m) (by omega)
      have f1 := hI.open (j := K + m) (by omega)
      have hN : Hid (Row w (turnN v K s.data.toList (m + 1)) z n (wr.setCell ⟨w.heap.size, K + m, none⟩ (.int .u8 ((((turnN v K s.data.toList m).getD (K + m) 0) ^^^ wb v m).toNat : Int))).drew) := (hI.put (by omega) _).drew
      have hx : Hid (bits .xor .u8 (((turnN v K s.data.toList m).getD (K + m) 0).toNat : Int) (iw v / 2 ^ (8 * m) % 256) = ((((turnN v K s.data.toList m).getD (K + m) 0) ^^^ wb v m).toNat : Int)) := by
        show _ = _
        rw [wb_num, UInt8.toNat_xor, u8_xor_nat _ _ (u8_lt _) (u8_lt _)]
      clear hI
      generalize (turnN v K s.data.toList m).getD (K + m) 0 = b at *
      generalize ((b ^^^ wb v m).toNat : Int) = R at *
      have b8 := u8_lt b
      generalize b.toNat = B at *
      have v0 := iw_nonneg v
      have v1 := iw_lt v
      generalize iw v = V at *
      have hwr : IntKind.i64.wrap ((K : Int) + (m : Int)) = ((K + m : Nat) : Int) := by rw [IntKind.wrap_i64]; omega
      have hwm : IntKind.i64.wrap (8 * (m : Int)) = ((8 * m : Nat) : Int) := by rw [IntKind.wrap_i64]; omega
      have i1 : ((K + m : Nat) : Int) < (s.size : Int) := by omega
      go_wp2
      go_region
      rw [hx.out]
      go_wp2
      go_roundw
      case rel =>
        first
        | exact ⟨m + 1, by omega, by go_num, hN.out⟩
        | ((repeat apply Exists.intro); exact ⟨⟨m + 1, by omega, by go_num, hN.out⟩, rfl⟩)
      case measure => simp [intOf]; omega
    · obtain rfl : m = 4 := by omega
      have hcb := hI.text C
      rw [hln] at hcb
      have hT2 := hT.below hI.below hT.lt
      have HB : Hid (Below w.heap.size w wr) := hI.below
      have h1 : Hid (Calls Tryd.prog 9 #[.string (S (turnN v K s.data.toList 4))] wr fun e w' => e = .returned (.int .u32 (iw (moreL 0#32 (turnN v K s.data.toList 4)))) ∧ w' = wr) := sumS_any _ wr hT2 (by omega)
      have h2 : Hid (Calls Tryd.prog 9 #[.string s] wr fun e w' => e = .returned (.int .u32 (iw (moreL 0#32 s.data.toList))) ∧ w' = wr) := sum_any s wr hT2 hs
      have h3 : Hid (Calls Tryd.prog 13 #[] wr fun e w' => e = .returned (.bool true) ∧ w' = wr) := does_any wr hT2
      have hq : (iw (moreL 0#32 (turnN v K s.data.toList 4)) == iw (moreL 0#32 s.data.toList)) = (iw v == 0) := by
        have hls : s.data.toList.length = s.size := rfl
        rw [Bool.eq_iff_iff, beq_iff_eq, beq_iff_eq]
        have ht := sum_turned 0#32 v s.data.toList K (by omega)
        exact ⟨fun h => by rw [ht.1 (iw_inj h)]; rfl, fun h => congrArg iw (ht.2 (iw_inj h))⟩
      clear hI hln
      generalize iw (moreL 0#32 (turnN v K s.data.toList 4)) = P at *
      generalize iw (moreL 0#32 s.data.toList) = Q at *
      generalize S (turnN v K s.data.toList 4) = T at *
      generalize iw v = V at *
      go_wp2_with fail
      refine h1.out.mono ?_
      rintro e w' ⟨rfl, rfl⟩
      go_wp2_with fail
      refine h2.out.mono ?_
      rintro e w' ⟨rfl, rfl⟩
      go_wp2_with fail
      refine h3.out.mono ?_
      rintro e w' ⟨rfl, rfl⟩
      go_wp2
      go_ret
      exact ⟨rfl, HB.out⟩
theorem bits_int (s : ByteArray) (p x : Int) (w : World) (hT : Tab4 w) (hp : 0 ≤ p ∧ p ≤ 65535) (hx : 0 ≤ x ∧ x ≤ 4294967295) (hs : s.size ≤ 140737488351232) :
    Calls Tryd.prog 5 #[.string s, .int .u16 p, .int .u32 x] w fun e w' => e = .returned (.bool true) ∧ Below w.heap.size w w' := by
  obtain ⟨v, rfl⟩ := word_of hx.1 (by omega)
  exact bits_any s p v w hT hp hs
end Go.Proofs.YtfjclbgcbpjdcaaDoor
