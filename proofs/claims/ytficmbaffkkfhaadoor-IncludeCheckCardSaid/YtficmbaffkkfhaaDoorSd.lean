/- Contracts of the state's hash, of ending and of isNone. -/
import Derived.Test.YtficmbaffkkfhaaDoorSc
import Derived.Test.YtficmbaffkkfhaaDoorW3
namespace Go.Proofs.YtficmbaffkkfhaaDoor
open Go.RowKit

/-- A byte of the hash. -/
def hb (s : Nat → W32) (i : Nat) : UInt8 := by8 (iw (s (i / 4)) / 2 ^ (24 - 8 * (i % 4)))
/-- Its first k bytes. -/
def hashT (s : Nat → W32) (k : Nat) : List UInt8 := (List.range k).map (hb s)
theorem hashT_length (s : Nat → W32) (k : Nat) : (hashT s k).length = k := by simp [hashT]
theorem hashT_succ (s : Nat → W32) (k : Nat) : hashT s (k + 1) = hashT s k ++ [hb s k] := by simp [hashT, List.range_succ]
/-- What lies in memory while the hash is made. -/
structure InH (w : World) (s : Nat → W32) (k : Nat) (wr : World) : Prop where
  below : Below w.heap.size w wr
  b0 : wr.heap[w.heap.size]? = some (.cells (cf 8 s) 77 (0, 0))
  b1 : wr.heap[w.heap.size + 1]? = some (.cells (hv (padTo 32 [])) 23 (0, 0))
  b2 : wr.heap[w.heap.size + 1 + 1]? = some (.cells (hv (padTo 32 (hashT s k))) 23 (0, 0))
theorem inH_start (w : World) (s : Nat → W32) : InH w s 0 (((w.alloc (.cells (cf 8 s) 77)).alloc (.cells (hv (padTo 32 [])) 23)).alloc (.cells (hv (padTo 32 [])) 23)) where
  below := (((Below.refl _ _).alloc (Nat.le_refl _) _).alloc (by simp) _).alloc (by simp; omega) _
  b0 := by rw [Below.heap_alloc _ _ _ (by simp; omega), Below.heap_alloc _ _ _ (by simp)]; exact heap_alloc_last _ _
  b1 := alloc3_mid _ _ _ _
  b2 := by have := heap_alloc_last ((w.alloc (.cells (cf 8 s) 77)).alloc (.cells (hv (padTo 32 [])) 23)) (.cells (hv (padTo 32 [])) 23); simpa [hashT] using this
theorem InH.set {w : World} {s : Nat → W32} {k : Nat} {wr : World} (h : InH w s k wr) (hk : k < 32) : InH w s (k + 1) (wr.setCell ⟨w.heap.size + 1 + 1, k, none⟩ (.int .u8 ((hb s k).toNat : Int))) where
  below := h.below.setCell (by show w.heap.size ≤ w.heap.size + 1 + 1; omega) _
  b0 := by rw [Below.heap_setCell _ _ _ _ (by show _ ≠ w.heap.size + 1 + 1; omega)]; exact h.b0
  b1 := by rw [Below.heap_setCell _ _ _ _ (by show _ ≠ w.heap.size + 1 + 1; omega)]; exact h.b1
  b2 := by
    rw [heap_set_same h.b2]
    have := padTo_set 32 (hashT s k) (hb s k) (by rw [hashT_length]; exact hk)
    rw [hashT_length] at this
    rw [this, hashT_succ]
set_option maxRecDepth 100000 in
set_option maxHeartbeats 1600000 in
theorem hash_any (s : Nat → W32) (w : World) :
    Calls Tryd.prog 49 #[.agg (cf 8 s)] w fun e w' => e = .returned (.agg (hv (hashT s 32))) ∧ Below w.heap.size w w' := by
  have hst : Hid (InH w s 0 (((w.alloc (.cells (cf 8 s) 77)).alloc (.cells (hv (padTo 32 [])) 23)).alloc (.cells (hv (padTo 32 [])) 23))) := inH_start w s
  rw [zero_h32] at hst
  generalize cf 8 s = C at *
  go_enter Tryd.func49, Tryd.ntmps49
  go_wp2
  go_loopw [5] (fun i wr => ∃ k : Nat, k ≤ 32 ∧ i = .int .i64 k ∧ InH w s k wr) (fun i _ => 32 - (intOf i).toNat)
  case atStart => exact ⟨0, Nat.zero_le _, rfl, hst.out⟩
  case round =>
    obtain ⟨k, hk, rfl, hI⟩ := hrel
    clear hst
    by_cases hlt : k < 32
    · obtain ⟨q, hq⟩ : ∃ q : Nat, q = k / 4 := ⟨_, rfl⟩
      have c0 : wr.cell? ⟨w.heap.size, q, none⟩ = some (.int .u32 (iw (s q))) := by
        rw [cell_of_row _ _ _ _ _ _ hI.b0]; exact cf_get _ (by omega)
      obtain ⟨v0, c1⟩ : ∃ v, wr.cell? ⟨w.heap.size + 1 + 1, k, none⟩ = some v := by
        rw [cell_of_row _ _ _ _ _ _ hI.b2]; exact ⟨_, Array.getElem?_eq_getElem (by rw [hv_size, padTo_length (by rw [hashT_length]; omega)]; omega)⟩
      have f1 : wr.frozen? ⟨w.heap.size + 1 + 1, k, none⟩ = false := frozen_of_row _ _ _ _ _ hI.b2
      have hI' : Hid _ := hI.set hlt
      have hd : (k : Int) / 4 = (q : Int) := by omega
      have q1 : (q : Int) < 8 := by omega
      have x0 := iw_nonneg (s q)
      have x1 := iw_lt (s q)
      have HX0 : Hid (iw (s q) / 2 ^ (24 - 8 * (k % 4)) % 256 = ((hb s k).toNat : Int)) := by
        show _ = _; unfold hb; rw [by8_num, hq]
      have hq' : Hid (q = k / 4) := hq
      clear hq hI
      generalize iw (s q) = X at *
      have HX : Hid (X / 2 ^ (24 - 8 * (k % 4)) % 256 = ((hb s k).toNat : Int)) := HX0.out
      go_wp2
      go_roundw
      case rel => rw [HX.out]; exact ⟨k + 1, by omega, by go_num, hI'.out⟩
      case measure => simp [intOf]; omega
    · obtain rfl : k = 32 := by omega
      have HC : Hid (hv (padTo 32 (hashT s 32)) = hv (hashT s 32)) := by show _ = _; rw [padTo_full (hashT_length s 32)]
      have b2 : Hid (wr.heap[w.heap.size + 1 + 1]? = some (.cells (hv (hashT s 32)) 23 (0, 0))) := by have := hI.b2; rw [HC.out] at this; exact this
      have b1 : Hid (wr.heap[w.heap.size + 1]? = some (.cells (hv (padTo 32 [])) 23 (0, 0))) := hI.b1
      have hbe : Hid (Below w.heap.size w wr) := hI.below
      have e1 : (hv (hashT s 32)).size = 32 := by rw [hv_size, hashT_length]
      have e2 := hv_one (hashT s 32)
      have e3 : Hid ((hv (padTo 32 [])).size = 32) := by show _ = _; rw [hv_size, padTo_length (by decide)]
      clear hI HC
      generalize hE : hv (hashT s 32) = E at *
      have HE : Hid (hv (hashT s 32) = E) := hE
      clear hE
      generalize hv (padTo 32 []) = O at *
      go_wp2_with (first | (refine wpList_load_row rfl 23 _ rfl (w.heap.size + 1 + 1) rfl _ E (0, 0) _ b2.out Tryd.underlying23 rfl (by rw [info_h32, e1]) ?_) | (refine wpList_store_row rfl 23 _ _ rfl (w.heap.size + 1) E rfl rfl _ O b1.out (by rw [info_h32, e1]) (by rw [e3.out, e1]) e2 ?_))
      refine bodyPost_ret (v := .agg E) (results_cell1 (p := 2) Tryd.results49 _ _ (w.heap.size + 1) 32 23 5 E (0, 0) rfl (heap_setRow_same b1.out) Tryd.underlying23 info_h32 e1) rfl ⟨by rw [HE.out], below_setRow hbe.out (by omega) _⟩

/-- What the message has behind a text of n bytes. -/
def endL (n : Nat) : List UInt8 := 128 :: (List.replicate (63 - (n + 8) % 64) 0 ++ bytesOf (8 * n) 8)
theorem endL_length (n : Nat) : (endL n).length = 72 - (n + 8) % 64 := by
  simp [endL]; omega
/-- While its number is laid. -/
def endT (z n i : Nat) : List UInt8 := (128 :: List.replicate (z + 8 - i) 0) ++ bytesOf (8 * n) i
theorem hv_set_mid (a b : List UInt8) (x y : UInt8) : (hv (a ++ x :: b)).setIfInBounds a.length (.int .u8 (y.toNat : Int)) = hv (a ++ y :: b) := by
  apply Array.toList_inj.1
  simp only [hv, List.setIfInBounds_toArray, List.map_append, List.map_cons]
  rw [List.set_append_right _ _ (by simp)]
  simp
theorem endT_set (z n i : Nat) (hi : i < 8) : (hv (endT z n i)).setIfInBounds (z + 8 - i) (.int .u8 ((by8 (8 * n / 256 ^ i)).toNat : Int)) = hv (endT z n (i + 1)) := by
  obtain ⟨m, hm⟩ : ∃ m, z + 8 - i = m + 1 := ⟨z + 8 - i - 1, by omega⟩
  have hm2 : z + 8 - (i + 1) = m := by omega
  have e1 : endT z n i = (128 :: List.replicate m 0) ++ 0 :: bytesOf (8 * n) i := by
    unfold endT
    rw [hm, List.replicate_succ']
    simp
  have e2 : endT z n (i + 1) = (128 :: List.replicate m 0) ++ by8 (8 * n / 256 ^ i) :: bytesOf (8 * n) i := by
    unfold endT
    rw [hm2, bytesOf_cons]
  have := hv_set_mid (128 :: List.replicate m 0) (bytesOf (8 * n) i) 0 (by8 (8 * n / 256 ^ i))
  rw [e1, e2, hm, ← this]
  simp
theorem endT_length (z n i : Nat) (hi : i ≤ 8) : (endT z n i).length = z + 9 := by
  simp [endT]; omega
theorem endT_full (n : Nat) : endT (63 - (n + 8) % 64) n 8 = endL n := by
  simp [endT, endL]
theorem made_hv (n : Nat) : madeCells #[.int .u8 0] n = hv (List.replicate n 0) := by
  apply Array.ext_getElem?
  intro i
  by_cases h : i < n
  · have : i % 1 = 0 := Nat.mod_one i
    simp [madeCells, hv, h, this]
  · simp [madeCells, hv, h]
theorem endT_start (z n : Nat) : (madeCells #[.int .u8 0] (z + 9)).setIfInBounds 0 (.int .u8 128) = hv (endT z n 0) := by
  rw [made_hv]
  have := hv_set_mid [] (List.replicate (z + 8) 0) 0 128
  simp only [List.nil_append, List.length_nil] at this
  rw [List.replicate_succ]
  exact this.trans (by simp [endT, bytesOf])
set_option maxRecDepth 100000 in
set_option maxHeartbeats 1600000 in
theorem ending_any (n : Nat) (w : World) (hn : n ≤ 1099511627776) :
    Calls Tryd.prog 48 #[.int .u64 n] w fun e w' => e = .returned (.string (S (endL n))) ∧ Below w.heap.size w w' := by
  obtain ⟨z, hz⟩ : ∃ z : Nat, z = 63 - (n + 8) % 64 := ⟨_, rfl⟩
  have HF : Hid (endT z n 8 = endL n) := by show _ = _; rw [hz]; exact endT_full n
  have hz1 : (63 : Int) - ((n : Int) + 8) % 64 = (z : Int) := by omega
  have hz2 : (z : Int) ≤ 63 := by omega
  have HZ : Hid (z ≤ 63) := by show z ≤ 63; omega
  clear hz
  have hmk : ∀ w : World, (Instr.makeSlice 60 (.int .i64 (1 + (z : Int) + 8)) (.int .i64 (1 + (z : Int) + 8))).run Tryd.prog w = .ok (.slice (some ⟨w.heap.size, 0, none⟩) (z + 9) (z + 9)) (w.alloc (.cells (madeCells #[.int .u8 0] (z + 9)) 5)) := fun w => by
    have := mkN (z + 9) (by omega) w
    rwa [show (((z + 9 : Nat)) : Int) = 1 + (z : Int) + 8 by omega] at this
  have hst := endT_start z n
  obtain ⟨v0, hv0⟩ : ∃ v, (madeCells #[.int .u8 0] (z + 9))[0]? = some v := ⟨_, Array.getElem?_eq_getElem (by simp [madeCells])⟩
  have hms : (madeCells #[Value.int .u8 0] (z + 9)).size = z + 9 := by simp [madeCells]
  generalize madeCells #[Value.int .u8 0] (z + 9) = M at *
  have HS : Hid _ := hst
  clear hst
  go_enter Tryd.func48, Tryd.ntmps48
  go_wp2
  go_loopw [17] (fun i wr => ∃ k : Nat, k ≤ 8 ∧ i = .int .i64 k ∧ Below w.heap.size w wr ∧ wr.heap[w.heap.size]? = some (.cells (hv (endT z n k)) 5 (0, 0))) (fun i _ => 8 - (intOf i).toNat)
  case atStart =>
    refine ⟨0, Nat.zero_le _, rfl, (Below.refl _ _).alloc (Nat.le_refl _) _, ?_⟩
    rw [HS.out]; exact heap_alloc_last _ _
  case round =>
    obtain ⟨k, hk, rfl, hbe, hg⟩ := hrel
    by_cases hlt : k < 8
    · obtain ⟨j, hj⟩ : ∃ j : Nat, j = z + 8 - k := ⟨_, rfl⟩
      have hzz := HZ.out
      obtain ⟨v1, c1⟩ : ∃ v, wr.cell? ⟨w.heap.size, j, none⟩ = some v := by
        rw [cell_of_row _ _ _ _ _ _ hg]; exact ⟨_, Array.getElem?_eq_getElem (by rw [hv_size, endT_length z n k (by omega)]; omega)⟩
      have f1 : wr.frozen? ⟨w.heap.size, j, none⟩ = false := frozen_of_row _ _ _ _ _ hg
      have hg' : Hid ((wr.setCell ⟨w.heap.size, j, none⟩ (.int .u8 ((by8 (8 * n / 256 ^ k)).toNat : Int))).heap[w.heap.size]? = some (.cells (hv (endT z n (k + 1))) 5 (0, 0))) := by
        show _ = _; rw [heap_set_same hg, hj, endT_set z n k hlt]
      have HB : Hid (Below w.heap.size w (wr.setCell ⟨w.heap.size, j, none⟩ (.int .u8 ((by8 (8 * n / 256 ^ k)).toNat : Int)))) := hbe.setCell (Nat.le_refl _) _
      clear hg hbe
      have hj1 : (z : Int) + 9 - 1 - (k : Int) = (j : Int) := by omega
      have hj2 : (j : Int) < (z : Int) + 9 := by omega
      have hj3 : (0 : Int) ≤ (j : Int) := by omega
      have HJ : Hid (j = z + 8 - k) := hj
      clear hj
      have HX : Hid ((n : Int) * 8 / 2 ^ (8 * k) % 256 = ((by8 (8 * n / 256 ^ k)).toNat : Int)) := by
        show _ = _; rw [by8_num, Int.mul_comm, show (2 : Int) ^ (8 * k) = 256 ^ k by rw [Int.pow_mul]; rfl]
      go_wp2
      go_roundw
      case rel => rw [HX.out]; exact ⟨k + 1, by omega, by go_num, HB.out, hg'.out⟩
      case measure => simp [intOf]; omega
    · obtain rfl : k = 8 := by omega
      have hcv : (convert 60 9 (.slice (some ⟨w.heap.size, 0, none⟩) (z + 9) (z + 9))).run Tryd.prog wr = .ok (.string (S (endT z n 8))) wr := by
        have := conv_row (endT z n 8) wr w.heap.size (z + 9) _ _ hg
        rwa [endT_length z n 8 (by decide)] at this
      have HBe : Hid (Below w.heap.size w wr) := hbe
      clear hbe hg
      have HR : Hid (S (endT z n 8) = S (endL n)) := by show _ = _; rw [HF.out]
      generalize S (endT z n 8) = R at *
      go_wp2
      go_ret
      exact ⟨ret_str HR.out, HBe.out⟩
theorem isNone_nil (w : World) : Calls Tryd.prog 46 #[.pointer none] w fun e w' => e = .returned (.bool true) ∧ w' = w := by
  go_enter Tryd.func46, Tryd.ntmps46
  go_wp2
  go_ret
  exact ⟨rfl, rfl⟩
theorem isNone_at (b : Nat) (m : Bool) (w : World) (hc : w.cell? ⟨b, 0, none⟩ = some (.bool m)) : Calls Tryd.prog 46 #[.pointer (some ⟨b, 0, none⟩)] w fun e w' => e = .returned (.bool (!m)) ∧ w' = w := by
  go_enter Tryd.func46, Tryd.ntmps46
  go_wp2
  go_ret
  exact ⟨rfl, rfl⟩
end Go.Proofs.YtficmbaffkkfhaaDoor
