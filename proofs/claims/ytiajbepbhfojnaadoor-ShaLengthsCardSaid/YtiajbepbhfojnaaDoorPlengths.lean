/- The walk of the law ShaLengths: texts of one byte over and over, written byte by byte. -/
import Derived.Test.YtiajbepbhfojnaaDoorSh
import Derived.Deep.RegionHeld3
namespace Go.Proofs.YtiajbepbhfojnaaDoor
open Go.RowKit

theorem rep_set (c : UInt8) (n k : Nat) (h : k < n) : (hv (List.replicate k c ++ List.replicate (n - k) 0)).setIfInBounds k (.int .u8 (c.toNat : Int)) = hv (List.replicate (k + 1) c ++ List.replicate (n - (k + 1)) 0) := by
  obtain ⟨m, hm⟩ : ∃ m, n - k = m + 1 := ⟨n - k - 1, by omega⟩
  rw [hm, show n - (k + 1) = m by omega, List.replicate_succ]
  have := hv_set_mid (List.replicate k c) (List.replicate m 0) 0 c
  rw [List.length_replicate] at this
  rw [this, List.replicate_succ']
  simp
theorem u8_back (c : Int) (h0 : 0 ≤ c) (h1 : c < 256) : ((UInt8.ofNat c.toNat).toNat : Int) = c := by
  have : (UInt8.ofNat c.toNat).toNat = c.toNat % 256 := by simp
  omega
/-- What is held while the last line is reckoned. -/
structure LenS (w : World) (p B : Nat) (l : List UInt8) (wr : World) : Prop where
  below : Below w.heap.size w wr
  k : TabK wr
  isw : IsW wr p l
  b : wr.heap[B]? = some (.cells (hv l) 5 (0, 0))
theorem LenS.next {w : World} {p B : Nat} {l : List UInt8} {wr wx : World} (h : LenS w p B l wr) (hb : Below wr.heap.size wr wx) : LenS w p B l wx where
  below := h.below.trans (hb.mono h.below.size)
  k := h.k.below hb h.k.lt
  isw := h.isw.below hb h.isw.lt
  b := by rw [hb.block _ (Array.getElem?_eq_some_iff.1 h.b).1]; exact h.b
theorem LenS.drew {w : World} {p B : Nat} {l : List UInt8} {wr : World} (h : LenS w p B l wr) : LenS w p B l wr.drew := ⟨h.below.drew, h.k, h.isw, h.b⟩
theorem LenS.conv {w : World} {p B n : Nat} {l : List UInt8} {wr : World} (h : LenS w p B l wr) (hn : l.length = n) : (convert 46 9 (.slice (some ⟨B, 0, none⟩) n n)).run Tryd.prog wr = .ok (.string (S l)) wr := by
  subst hn; exact conv_row l wr B _ _ _ h.b
theorem LenS.both {w : World} {p B n : Nat} {l : List UInt8} {wr : World} (h : LenS w p B l wr) (hn : l.length = n) : (convert 46 9 (.slice (some ⟨B, 0, none⟩) n n)).run Tryd.prog wr = .ok (.string (S l)) wr ∧ LenS w p B l wr := ⟨h.conv hn, h⟩
set_option maxRecDepth 100000 in
set_option maxHeartbeats 1600000 in
theorem lengths_walk (c n : Int) (w : World) (hK : TabK w) (hc : 0 ≤ c ∧ c ≤ 255) (hn : 0 ≤ n ∧ n ≤ 255) :
    Calls Tryd.prog 8 #[.int .u8 c, .int .u8 n] w fun e w' => e = .returned (.bool true) ∧ Below w.heap.size w w' := by
  obtain ⟨hc0, hc1⟩ := hc
  obtain ⟨hn0, hn1⟩ := hn
  obtain ⟨n, rfl⟩ := Int.eq_ofNat_of_zero_le hn0
  have hgk := hK.lt
  have hmk := mkN n (by omega)
  obtain ⟨cb, hcb⟩ : ∃ cb : UInt8, (cb.toNat : Int) = c := ⟨UInt8.ofNat c.toNat, u8_back c hc0 (by omega)⟩
  have HCB : Hid ((cb.toNat : Int) = c) := hcb
  have hst : Hid (madeCells #[.int .u8 0] n = hv (List.replicate 0 cb ++ List.replicate (n - 0) 0)) := by show _ = _; rw [made_hv]; rfl
  have HN1 : Hid (n ≤ 255) := by show n ≤ 255; omega
  clear hcb hn0
  generalize madeCells #[Value.int .u8 0] n = M at *
  go_enter Tryd.func8, Tryd.ntmps8
  go_wp2
  go_loopw [6] (fun i wr => ∃ k : Nat, k ≤ n ∧ i = .int .i64 k ∧ Below w.heap.size w wr ∧ wr.heap.size = w.heap.size + 1 ∧ wr.heap[w.heap.size]? = some (.cells (hv (List.replicate k cb ++ List.replicate (n - k) 0)) 5 (0, 0))) (fun i _ => n - (intOf i).toNat)
  case atStart =>
    refine ⟨0, Nat.zero_le _, rfl, (Below.refl _ _).alloc (Nat.le_refl _) _, by simp, ?_⟩
    rw [hst.out]; exact heap_alloc_last _ _
  case round =>
    obtain ⟨k, hk, rfl, hbe, hsz, hg⟩ := hrel
    clear hst hmk
    by_cases hlt : k < n
    · obtain ⟨v1, c1⟩ : ∃ v, wr.cell? ⟨w.heap.size, k, none⟩ = some v := by
        rw [cell_of_row _ _ _ _ _ _ hg]; exact ⟨_, Array.getElem?_eq_getElem (by rw [hv_size]; simp; omega)⟩
      have f1 : wr.frozen? ⟨w.heap.size, k, none⟩ = false := frozen_of_row _ _ _ _ _ hg
      have hg' : Hid ((wr.setCell ⟨w.heap.size, k, none⟩ (.int .u8 c)).heap[w.heap.size]? = some (.cells (hv (List.replicate (k + 1) cb ++ List.replicate (n - (k + 1)) 0)) 5 (0, 0))) := by
        show _ = _; rw [heap_set_same hg, ← HCB.out, rep_set cb n k hlt]
      have HB : Hid (Below w.heap.size w (wr.setCell ⟨w.heap.size, k, none⟩ (.int .u8 c))) := hbe.setCell (Nat.le_refl _) _
      have HZ : Hid ((wr.setCell ⟨w.heap.size, k, none⟩ (.int .u8 c)).heap.size = w.heap.size + 1) := by show _ = _; rw [heap_set_size]; exact hsz
      clear hg hbe hsz
      go_wp2
      go_roundw
      case rel => exact ⟨k + 1, by omega, by go_num, HB.out, HZ.out, hg'.out⟩
      case measure => simp [intOf]; omega
    · obtain rfl : k = n := by omega
      have hg2 : Hid (wr.heap[w.heap.size]? = some (.cells (hv (List.replicate k cb)) 5 (0, 0))) := by show _ = _; rw [hg]; simp
      have HB : Hid _ := hbe
      have HSZ : Hid _ := hsz
      clear hg hbe hsz
      go_wp2_with fail
      refine (new_any _).mono ?_
      rintro e w1 ⟨rfl, W1, b1⟩
      obtain ⟨p, hp⟩ : ∃ p, p = wr.heap.size := ⟨_, rfl⟩
      rw [← hp] at W1 b1 ⊢
      have hpw : p = w.heap.size + 1 := by rw [hp]; exact HSZ.out
      have hg3 : Hid (w1.heap[w.heap.size]? = some (.cells (hv (List.replicate k cb)) 5 (0, 0))) := by show _ = _; rw [b1.block _ (by omega)]; exact hg2.out
      have HB1 : Hid (Below w.heap.size w w1) := HB.out.trans (b1.mono (by omega))
      have HW1 : Hid _ := W1
      have HP : Hid (p = w.heap.size + 1) := hpw
      clear W1 b1 hg2 hp hpw HB HSZ
      go_wp2
      go_loopw [8] (fun i wr => ∃ j : Nat, j ≤ k ∧ i = .int .i64 j ∧ Below w.heap.size w wr ∧ IsW wr p (List.replicate j cb) ∧ wr.heap[w.heap.size]? = some (.cells (hv (List.replicate k cb)) 5 (0, 0))) (fun i _ => k - (intOf i).toNat)
      case atStart => exact ⟨0, Nat.zero_le _, rfl, HB1.out, HW1.out, hg3.out⟩
      case round =>
        obtain ⟨j, hj, rfl, hbe, hW, hg⟩ := hrel
        clear hg3 HB1 HW1
        have hk255 := HN1.out
        have hpp := HP.out
        by_cases hlt : j < k
        · have hcv : (convert 46 9 (.slice (some ⟨w.heap.size, j, none⟩) 1 (k - j))).run Tryd.prog wr = .ok (.string (S [cb])) wr := by
            have := conv_seg (List.replicate k cb) wr w.heap.size j 1 (k - j) _ _ hg (by simp; omega)
            rw [List.drop_replicate, List.take_replicate, Nat.min_eq_left (by omega)] at this
            exact this
          have Kr := hK.below hbe hgk
          have HWr : Hid (∀ wx, wx = wr → Calls Tryd.prog 15 #[.pointer (some ⟨p, 0, none⟩), .string (S [cb])] wx fun e w' => e = .returned (.int .i64 0) ∧ (Below w.heap.size w w' ∧ IsW w' p (List.replicate (j + 1) cb) ∧ w'.heap[w.heap.size]? = some (.cells (hv (List.replicate k cb)) 5 (0, 0)))) := by
            intro wx hx
            subst hx
            refine (write_any p (List.replicate j cb) [cb] wx Kr (by omega) hW (by simp; omega)).mono ?_
            rintro e w' ⟨rfl, W', B'⟩
            refine ⟨rfl, hbe.trans (B'.below (by omega) hbe.size), ?_, ?_⟩
            · rw [List.replicate_succ']; exact W'
            · rw [B'.block _ (Array.getElem?_eq_some_iff.1 hg).1 (by omega)]; exact hg
          clear hbe hW hg Kr hpp
          have j1 : (j : Int) + 1 ≤ (k : Int) := by omega
          generalize S [cb] = sb at *
          go_wp2_with fail
          refine (HWr.out _ rfl).mono ?_
          rintro e w2 ⟨rfl, h2⟩
          have H2 : Hid _ := h2
          clear h2
          go_wp2
          go_roundw
          case rel => exact ⟨j + 1, by omega, by go_num, H2.out⟩
          case measure => simp [intOf]; omega
        · obtain rfl : j = k := by omega
          have hS : LenS w p w.heap.size (List.replicate j cb) wr := ⟨hbe, hK.below hbe hgk, hW, hg⟩
          have HS : Hid _ := hS
          have hll : (List.replicate j cb).length = j := by simp
          have HLL : Hid ((List.replicate j cb).length = j) := hll
          have HL5 : Hid ((List.replicate j cb).length ≤ 549755813888) := by show _ ≤ _; rw [hll]; omega
          clear hbe hW hg hS hll hpp
          have he : ∀ w : World, (binOp .eql 22 (.agg (hv (shaL (List.replicate j cb)))) (.agg (hv (shaL (List.replicate j cb))))).run Tryd.prog w = .ok (.bool true) w := fun w => by
            have := eqH w (shaL (List.replicate j cb)) (shaL (List.replicate j cb)) (shaL_length _) (shaL_length _)
            simpa using this
          have HA : Hid (∀ wx, LenS w p w.heap.size (List.replicate j cb) wx → Calls Tryd.prog 16 #[.pointer (some ⟨p, 0, none⟩)] wx fun e w' => e = .returned (.agg (hv (shaL (List.replicate j cb)))) ∧ LenS w p w.heap.size (List.replicate j cb) w') := fun wx h =>
            (wsum_any p _ wx h.k h.isw HL5.out).mono fun e w' hh => ⟨hh.1, h.next hh.2⟩
          have HBs : Hid (∀ wx, LenS w p w.heap.size (List.replicate j cb) wx → Calls Tryd.prog 9 #[.string (S (List.replicate j cb))] wx fun e w' => e = .returned (.agg (hv (shaL (List.replicate j cb)))) ∧ LenS w p w.heap.size (List.replicate j cb) w') := fun wx h =>
            (sum_any _ wx h.k HL5.out).mono fun e w' hh => ⟨hh.1, h.next hh.2⟩
          have HD : Hid (∀ wx, LenS w p w.heap.size (List.replicate j cb) wx → Calls Tryd.prog 13 #[] wx fun e w' => e = .returned (.bool true) ∧ LenS w p w.heap.size (List.replicate j cb) w') := fun wx h =>
            (does_any wx h.k).mono fun e w' hh => ⟨hh.1, h.next hh.2⟩
          generalize hv (shaL (List.replicate j cb)) = D at *
          generalize List.replicate j cb = l at *
          go_wp2
          go_region_held3 (fun w' => (convert 46 9 (.slice (some ⟨w.heap.size, 0, none⟩) j j)).run Tryd.prog w' = .ok (.string (S l)) w' ∧ LenS w p w.heap.size l w') (first | exact LenS.both h' HLL.out | exact LenS.both HS.out.drew HLL.out) (first | (go_at_call 16; refine (HA.out _ HS.out.drew).mono ?_; rintro e w' ⟨rfl, h'⟩) | (go_at_call 9; refine (HBs.out _ h').mono ?_; rintro e w' ⟨rfl, h'⟩) | (go_at_call 13; refine (HD.out _ h').mono ?_; rintro e w' ⟨rfl, h'⟩))
          all_goals
            go_wp2
            go_ret
            exact ⟨rfl, h'.below⟩
end Go.Proofs.YtiajbepbhfojnaaDoor
