/- Contract of the document's own Sum. -/
import Derived.Test.YtficmbaffkkfhaaDoorTb
import Derived.Test.YtficmbaffkkfhaaDoorW5
import Derived.Deep.RegionWith
namespace Go.Proofs.YtficmbaffkkfhaaDoor
open Go.RowKit

/-- The document's table of the rounds' words lies in its block. -/
def TabR (w : World) : Prop := ∃ t fr, w.heap[1]? = some (.cells (cf 64 kk) t fr)
theorem TabR.lt {w : World} (h : TabR w) : 1 < w.heap.size := by
  obtain ⟨t, fr, h⟩ := h
  rcases Nat.lt_or_ge 1 w.heap.size with h1 | h1
  · exact h1
  · rw [Array.getElem?_eq_none h1] at h; cases h
theorem TabR.below {w w' : World} {n : Nat} (h : TabR w) (hb : Below n w w') (hn : 1 < n) : TabR w' := by
  obtain ⟨t, fr, h⟩ := h
  exact ⟨t, fr, by rw [hb.block _ hn]; exact h⟩
theorem info_a8 : (Tryd.prog.info? 76).map (·.size) = some 8 := by kernel_rfl
theorem ini_cells : cf 8 ini = #[.int .u32 1779033703, .int .u32 3144134277, .int .u32 1013904242, .int .u32 2773480762, .int .u32 1359893119, .int .u32 2600822924, .int .u32 528734635, .int .u32 1541459225] := by kernel_rfl
/-- What lies in memory between the blocks. -/
structure InM (w : World) (s : Nat → W32) (wr : World) : Prop where
  below : Below w.heap.size w wr
  br : wr.heap[w.heap.size]? = some (.cells (hv (padTo 32 [])) 23 (0, 0))
  bs : wr.heap[w.heap.size + 1]? = some (.cells (cf 8 s) 76 (0, 0))
/-- What lies in memory while the rounds are gone. -/
structure InR (w : World) (p : Nat) (s v : Nat → W32) (l : List UInt8) (wr : World) : Prop where
  hp : w.heap.size + 2 ≤ p
  m : InM w s wr
  bw : wr.heap[p]? = some (.cells (cf 64 (sch l)) 85 (0, 0))
  bv : wr.heap[p + 1]? = some (.cells (cf 8 v) 76 (0, 0))
theorem InM.next {w : World} {s : Nat → W32} {wr wx : World} (h : InM w s wr) (hb : Below wr.heap.size wr wx) : InM w s wx :=
  ⟨h.below.trans (hb.mono h.below.size), by rw [hb.block _ (Array.getElem?_eq_some_iff.1 h.br).1]; exact h.br, by rw [hb.block _ (Array.getElem?_eq_some_iff.1 h.bs).1]; exact h.bs⟩
theorem InM.lt {w : World} {s : Nat → W32} {wr : World} (h : InM w s wr) : w.heap.size + 1 < wr.heap.size := (Array.getElem?_eq_some_iff.1 h.bs).1
theorem InR.drewN {w : World} {p : Nat} {s v : Nat → W32} {l : List UInt8} {wr : World} (h : InR w p s v l wr) (n : Nat) : InR w p s v l (wr.drewN n) :=
  ⟨h.hp, ⟨below_drewN h.m.below n, h.m.br, h.m.bs⟩, h.bw, h.bv⟩
theorem InR.cells {w : World} {p : Nat} {s v : Nat → W32} {l : List UInt8} {wr : World} (h : InR w p s v l wr) :
    wr.cell? ⟨p + 1, 0, none⟩ = some (.int .u32 (iw (v 0))) ∧ wr.cell? ⟨p + 1, 1, none⟩ = some (.int .u32 (iw (v 1))) ∧ wr.cell? ⟨p + 1, 2, none⟩ = some (.int .u32 (iw (v 2))) ∧ wr.cell? ⟨p + 1, 3, none⟩ = some (.int .u32 (iw (v 3))) ∧
    wr.cell? ⟨p + 1, 4, none⟩ = some (.int .u32 (iw (v 4))) ∧ wr.cell? ⟨p + 1, 5, none⟩ = some (.int .u32 (iw (v 5))) ∧ wr.cell? ⟨p + 1, 6, none⟩ = some (.int .u32 (iw (v 6))) ∧ wr.cell? ⟨p + 1, 7, none⟩ = some (.int .u32 (iw (v 7))) := by
  refine ⟨?_, ?_, ?_, ?_, ?_, ?_, ?_, ?_⟩ <;> (rw [cell_of_row _ _ _ _ _ _ h.bv]; exact cf_get _ (by decide))
theorem InR.setv {w : World} {p : Nat} {s v : Nat → W32} {l : List UInt8} {wr : World} (h : InR w p s v l wr) (v' : Nat → W32) : InR w p s v' l (wr.setRow (p + 1) (cf 8 v')) where
  hp := h.hp
  m := ⟨below_setRow h.m.below (by have := h.hp; omega) _, by rw [heap_setRow_ne (by have := h.hp; omega)]; exact h.m.br, by rw [heap_setRow_ne (by have := h.hp; omega)]; exact h.m.bs⟩
  bw := by rw [heap_setRow_ne (by omega)]; exact h.bw
  bv := heap_setRow_same h.bv
theorem InR.sets {w : World} {p : Nat} {s v : Nat → W32} {l : List UInt8} {wr : World} (h : InR w p s v l wr) {i : Nat} (hi : i < 8) (x : W32) : InR w p (upd s i x) v l (wr.setCell ⟨w.heap.size + 1, i, none⟩ (.int .u32 (iw x))).drew where
  hp := h.hp
  m := ⟨(h.m.below.setCell (by show w.heap.size ≤ w.heap.size + 1; omega) _).drew, by show ((wr.setCell _ _).heap)[_]? = _; rw [Below.heap_setCell _ _ _ _ (by show _ ≠ w.heap.size + 1; omega)]; exact h.m.br, by show ((wr.setCell _ _).heap)[_]? = _; rw [heap_set_same h.m.bs, cf_set _ _ hi]⟩
  bw := by show ((wr.setCell _ _).heap)[_]? = _; rw [Below.heap_setCell _ _ _ _ (by show _ ≠ w.heap.size + 1; have := h.hp; omega)]; exact h.bw
  bv := by show ((wr.setCell _ _).heap)[_]? = _; rw [Below.heap_setCell _ _ _ _ (by show _ ≠ w.heap.size + 1; have := h.hp; omega)]; exact h.bv
theorem inR_start {w w1 : World} {s : Nat → W32} {l : List UInt8} (h : InM w s w1) : InR w w1.heap.size s s l ((w1.alloc (.cells (cf 64 (sch l)) 85)).alloc (.cells (cf 8 s) 76)) where
  hp := by have := h.lt; omega
  m := (h.next ((Below.refl _ _).alloc (Nat.le_refl _) _)).next ((Below.refl _ _).alloc (Nat.le_refl _) _)
  bw := by rw [Below.heap_alloc _ _ _ (by simp)]; exact heap_alloc_last _ _
  bv := by have := heap_alloc_last (w1.alloc (.cells (cf 64 (sch l)) 85)) (.cells (cf 8 s) 76); simpa using this
/-- What lies in memory while the hash is made. -/
structure InF (w : World) (p : Nat) (s : Nat → W32) (k : Nat) (wr : World) : Prop where
  hp : w.heap.size + 2 ≤ p
  m : InM w s wr
  bh : wr.heap[p]? = some (.cells (hv (padTo 32 (hashT s k))) 23 (0, 0))
theorem inF_start {w wr : World} {s : Nat → W32} (h : InM w s wr) : InF w wr.heap.size s 0 (wr.alloc (.cells (hv (padTo 32 [])) 23)) :=
  ⟨by have := h.lt; omega, h.next ((Below.refl _ _).alloc (Nat.le_refl _) _), by have := heap_alloc_last wr (.cells (hv (padTo 32 [])) 23); simpa [hashT] using this⟩
theorem InF.set {w : World} {p : Nat} {s : Nat → W32} {k : Nat} {wr : World} (h : InF w p s k wr) (hk : k < 32) : InF w p s (k + 1) (wr.setCell ⟨p, k, none⟩ (.int .u8 ((hb s k).toNat : Int))) where
  hp := h.hp
  m := ⟨h.m.below.setCell (by show w.heap.size ≤ p; have := h.hp; omega) _, by rw [Below.heap_setCell _ _ _ _ (by show _ ≠ p; have := h.hp; omega)]; exact h.m.br, by rw [Below.heap_setCell _ _ _ _ (by show _ ≠ p; have := h.hp; omega)]; exact h.m.bs⟩
  bh := by
    rw [heap_set_same h.bh]
    have := padTo_set 32 (hashT s k) (hb s k) (by rw [hashT_length]; exact hk)
    rw [hashT_length] at this
    rw [this, hashT_succ]
theorem turn8 (v : Nat → W32) (k w : W32) : cf 8 (turn v k w) = #[.int .u32 (iw (tOne v k w + tTwo v)), .int .u32 (iw (v 0)), .int .u32 (iw (v 1)), .int .u32 (iw (v 2)), .int .u32 (iw (v 3 + tOne v k w)), .int .u32 (iw (v 4)), .int .u32 (iw (v 5)), .int .u32 (iw (v 6))] := rfl
set_option maxRecDepth 100000 in
set_option maxHeartbeats 6400000 in
theorem rsum_any (l : List UInt8) (w : World) (hR : TabR w) (hl : l.length ≤ 549755813888) :
    Calls Tryd.prog 44 #[.string (S l)] w fun e w' => e = .returned (.agg (hv (shaL l))) ∧ Below w.heap.size w w' := by
  have hgk := hR.lt
  have HM : Hid (∀ w : World, Calls Tryd.prog 50 #[.string (S l)] w fun e w' => e = .returned (.string (S (l ++ endL l.length))) ∧ Below w.heap.size w w') := fun w => message_any l w (by omega)
  obtain ⟨m, hm⟩ : ∃ m, m = l ++ endL l.length := ⟨_, rfl⟩
  obtain ⟨B, hB⟩ : ∃ B : Nat, m.length = 64 * B := by
    refine ⟨m.length / 64, ?_⟩
    have : m.length = l.length + (72 - (l.length + 8) % 64) := by rw [hm, List.length_append, endL_length]
    omega
  have HSH : Hid (hashT (stAt m B) 32 = shaL l) := by
    show _ = _
    unfold shaL stOf
    rw [← hm, hB, Nat.mul_div_cancel_left _ (by decide)]
  rw [← hm] at HM
  have hmB : m.length ≤ 549755814000 := by
    have : m.length = l.length + (72 - (l.length + 8) % 64) := by rw [hm, List.length_append, endL_length]
    omega
  have hms : (S m).size = m.length := S_size m
  have z8 : Hid ((cf 8 fun _ => 0).size = 8) := cf_size _ _
  have z64 : Hid ((cf 64 fun _ => 0).size = 64) := cf_size _ _
  have hini : Hid ((cf 8 ini).size = 8) := cf_size _ _
  have hini1 : Hid ((cf 8 ini).all (·.oneCell') = true) := cf_one _ _
  have hst : Hid (InM w ini ((w.alloc (.cells (hv (padTo 32 [])) 23)).alloc (.cells (cf 8 ini) 76))) := by
    refine ⟨((Below.refl _ _).alloc (Nat.le_refl _) _).alloc (by simp) _, ?_, ?_⟩
    · rw [Below.heap_alloc _ _ _ (by simp)]; exact heap_alloc_last _ _
    · have := heap_alloc_last (w.alloc (.cells (hv (padTo 32 [])) 23)) (.cells (cf 8 ini) 76); simpa using this
  rw [zero_w8] at z8
  rw [zero_w64] at z64
  rw [ini_cells] at hini hini1
  rw [zero_h32, ini_cells] at hst
  have HMm : Hid (m = l ++ endL l.length) := hm
  have HBB : Hid (m.length = 64 * B) := hB
  clear hm hB
  go_enter Tryd.func44, Tryd.ntmps44
  go_wp2_with (refine store_last1 rfl 76 _ _ rfl 8 _ _ _ rfl rfl info_a8 z8.out hini.out hini1.out ?_)
  refine (HM.out _).mono ?_
  rintro e w1 ⟨rfl, b1⟩
  have HI1 : Hid (InM w ini w1) := hst.out.next b1
  clear b1 hst
  go_wp2
  go_loopw [5] (fun i wr => ∃ j a : Nat, j ≤ B ∧ a = 64 * j ∧ i = .int .i64 a ∧ InM w (stAt m j) wr) (fun i _ => m.length - (intOf i).toNat)
  case atStart => exact ⟨0, 0, Nat.zero_le _, rfl, rfl, HI1.out⟩
  case round =>
    obtain ⟨j, a, hj, ha, rfl, hI⟩ := hrel
    clear HI1
    have hBB := HBB.out
    by_cases hlt : j < B
    · have a1 : (a : Int) + 64 ≤ (m.length : Int) := by omega
      have a0 : (0 : Int) ≤ (a : Int) := by omega
      have a2 : (a : Int) < (m.length : Int) := by omega
      obtain ⟨blk, hblk⟩ : ∃ blk, blk = (m.drop a).take 64 := ⟨_, rfl⟩
      have hbl : blk.length = 64 := by rw [hblk]; simp; omega
      have hx : (S m).extract a (a + 64) = S blk := by
        rw [hblk]
        apply ByteArray.ext
        apply Array.toList_inj.1
        rw [Lib.extract_data, S_toList, S_toList, show a + 64 - a = 64 by omega]
      have HW : Hid (∀ w : World, Calls Tryd.prog 51 #[.string (S blk)] w fun e w' => e = .returned (.agg (cf 64 (sch blk))) ∧ Below w.heap.size w w') := fun w => words_any blk w hbl
      have HNx : Hid (stAt m (j + 1) = bhd (stAt m j) blk) := by show _ = _; rw [stAt, hblk, ha]
      have hs1 := cf_size 64 (sch blk)
      have hs2 := cf_one 64 (sch blk)
      have hc1 := cf_size 8 (stAt m j)
      have hc2 := cf_one 8 (stAt m j)
      have HI : Hid _ := hI
      have HA : Hid (a = 64 * j) := ha
      have HBs : Hid (∀ wx, InM w (stAt m j) wx → wx.heap[w.heap.size + 1]? = some (.cells (cf 8 (stAt m j)) 76 (0, 0))) := fun wx h => h.bs
      have HSt : Hid (∀ w1, InM w (stAt m j) w1 → InR w w1.heap.size (stAt m j) (stAt m j) blk ((w1.alloc (.cells (cf 64 (sch blk)) 85)).alloc (.cells (cf 8 (stAt m j)) 76))) := fun w1 h => inR_start h
      clear hI ha hblk hbl hBB
      generalize cf 64 (sch blk) = D at *
      generalize cf 8 (stAt m j) = C at *
      generalize S blk = sb at *
      go_wp2_with fail
      refine (HW.out _).mono ?_
      rintro e w2 ⟨rfl, b2⟩
      have HI2 : Hid (InM w (stAt m j) w2) := HI.out.next b2
      have G2 : Hid ((w2.alloc (.cells D 85)).heap[w.heap.size + 1]? = some (.cells C 76 (0, 0))) := by
        show _ = _; rw [Below.heap_alloc _ _ _ (by have := HI2.out.lt; omega)]; exact HBs.out _ HI2.out
      have HR0 : Hid _ := HSt.out _ HI2.out
      clear b2 HI HBs HSt HI2
      go_wp2_with (first | (refine store_last rfl 85 _ _ rfl 64 _ _ D rfl rfl info_w64 z64.out hs1 hs2 ?_) | (refine wpList_load_row rfl 76 _ rfl (w.heap.size + 1) rfl _ C (0, 0) _ G2.out Tryd.underlying76 rfl (by rw [info_a8, hc1]) ?_) | (refine store_last1 rfl 76 _ _ rfl 8 _ _ C rfl rfl info_a8 z8.out hc1 hc2 ?_))
      obtain ⟨p, hp⟩ : ∃ p, p = w2.heap.size := ⟨_, rfl⟩
      rw [← hp] at HR0 ⊢
      clear hp G2 hs1 hs2 hc1 hc2
      generalize stAt m j = s at *
      go_loopw [8] (fun i wr => ∃ k : Nat, k ≤ 64 ∧ i = .int .i64 k ∧ InR w p s (turns (sch blk) s k) blk wr) (fun i _ => 64 - (intOf i).toNat)
      case atStart => exact ⟨0, Nat.zero_le _, rfl, HR0.out⟩
      case round =>
        obtain ⟨k, hk, rfl, hJ⟩ := hrel
        clear HR0
        by_cases hk64 : k < 64
        · have htv : turns (sch blk) s (k + 1) = turn (turns (sch blk) s k) (kk k) (sch blk k) := rfl
          generalize turns (sch blk) s k = v at *
          have HTv : Hid _ := htv
          clear htv
          obtain ⟨tk, fr, cK⟩ := hR.below hJ.m.below hgk
          have HCk : Hid (∀ wx, InR w p s v blk wx → wx.cell? ⟨1, k, none⟩ = some (.int .u32 (iw (kk k)))) := fun wx h => by
            obtain ⟨tk, fr, cK⟩ := hR.below h.m.below hgk
            rw [cell_of_row _ _ _ _ _ _ cK]; exact cf_get _ hk64
          have HCw : Hid (∀ wx, InR w p s v blk wx → wx.cell? ⟨p, k, none⟩ = some (.int .u32 (iw (sch blk k)))) := fun wx h => by rw [cell_of_row _ _ _ _ _ _ h.bw]; exact cf_get _ hk64
          have q6 : Hid (∀ w, Calls Tryd.prog 52 #[.int .u32 (iw (v 4)), .int .i64 6] w fun e w' => e = .returned (.int .u32 (iw (rr (v 4) 6))) ∧ ∃ m, w' = w.drewN m) := rotr_6 _
          have q11 : Hid (∀ w, Calls Tryd.prog 52 #[.int .u32 (iw (v 4)), .int .i64 11] w fun e w' => e = .returned (.int .u32 (iw (rr (v 4) 11))) ∧ ∃ m, w' = w.drewN m) := rotr_11 _
          have q25 : Hid (∀ w, Calls Tryd.prog 52 #[.int .u32 (iw (v 4)), .int .i64 25] w fun e w' => e = .returned (.int .u32 (iw (rr (v 4) 25))) ∧ ∃ m, w' = w.drewN m) := rotr_25 _
          have q2 : Hid (∀ w, Calls Tryd.prog 52 #[.int .u32 (iw (v 0)), .int .i64 2] w fun e w' => e = .returned (.int .u32 (iw (rr (v 0) 2))) ∧ ∃ m, w' = w.drewN m) := rotr_2 _
          have q13 : Hid (∀ w, Calls Tryd.prog 52 #[.int .u32 (iw (v 0)), .int .i64 13] w fun e w' => e = .returned (.int .u32 (iw (rr (v 0) 13))) ∧ ∃ m, w' = w.drewN m) := rotr_13 _
          have q22 : Hid (∀ w, Calls Tryd.prog 52 #[.int .u32 (iw (v 0)), .int .i64 22] w fun e w' => e = .returned (.int .u32 (iw (rr (v 0) 22))) ∧ ∃ m, w' = w.drewN m) := rotr_22 _
          have z1 : bits .xor .u32 (bits .xor .u32 (iw (rr (v 4) 6)) (iw (rr (v 4) 11))) (iw (rr (v 4) 25)) = iw (S1 (v 4)) := by rw [iw_xor, iw_xor]; rfl
          have z0 : bits .xor .u32 (bits .xor .u32 (iw (rr (v 0) 2)) (iw (rr (v 0) 13))) (iw (rr (v 0) 22)) = iw (S0 (v 0)) := by rw [iw_xor, iw_xor]; rfl
          have zc : bits .xor .u32 (bits .and .u32 (iw (v 4)) (iw (v 5))) (bits .and .u32 (bits .xor .u32 IntKind.u32.max (iw (v 4))) (iw (v 6))) = iw (chw (v 4) (v 5) (v 6)) := ch_raw _ _ _
          have zm : bits .xor .u32 (bits .xor .u32 (bits .and .u32 (iw (v 0)) (iw (v 1))) (bits .and .u32 (iw (v 0)) (iw (v 2)))) (bits .and .u32 (iw (v 1)) (iw (v 2))) = iw (maw (v 0) (v 1) (v 2)) := ma_raw _ _ _
          have hsg : ¬ IntKind.u32.signed = true := by decide
          have i1 : (k : Int) < 64 := by omega
          have i0 : (0 : Int) ≤ (k : Int) := by omega
          obtain ⟨c0, c1, c2, c3, c4, c5, c6, c7⟩ := hJ.cells
          go_wp2
          go_quiet (fail)
          have hJ1 := hJ.drewN nq
          clear c0 c1 c2 c3 c4 c5 c6 c7 cK hJ
          generalize wr.drewN nq = wa at *
          have ck := HCk.out _ hJ1
          have cw := HCw.out _ hJ1
          obtain ⟨c0, c1, c2, c3, c4, c5, c6, c7⟩ := hJ1.cells
          go_wp2
          go_quiet (first | (go_at_call_of 52 (6 : Int); exact Calls.quiet_of (q6.out _)) | (go_at_call_of 52 (11 : Int); exact Calls.quiet_of (q11.out _)) | (go_at_call_of 52 (25 : Int); exact Calls.quiet_of (q25.out _)))
          have r1 : Hid _ := tOne_raw v (kk k) (sch blk k)
          have hJ2 := hJ1.drewN nq
          clear c0 c1 c2 c3 c4 c5 c6 c7 ck cw hJ1 z1 zc q6 q11 q25
          generalize wa.drewN nq = wb at *
          obtain ⟨c0, c1, c2, c3, c4, c5, c6, c7⟩ := hJ2.cells
          go_wp2
          rw [r1.out]
          go_quiet (first | (go_at_call_of 52 (2 : Int); exact Calls.quiet_of (q2.out _)) | (go_at_call_of 52 (13 : Int); exact Calls.quiet_of (q13.out _)) | (go_at_call_of 52 (22 : Int); exact Calls.quiet_of (q22.out _)))
          have hJ3 := hJ2.drewN nq
          clear c0 c1 c2 c3 c4 c5 c6 c7 hJ2
          generalize wb.drewN nq = wc at *
          obtain ⟨c0, c1, c2, c3, c4, c5, c6, c7⟩ := hJ3.cells
          have r2 : (iw (S0 (v 0)) + iw (maw (v 0) (v 1) (v 2))) % 4294967296 = iw (tTwo v) := tTwo_raw v
          have r2' : IntKind.u32.wrap (iw (S0 (v 0)) + iw (maw (v 0) (v 1) (v 2))) = iw (tTwo v) := by rw [IntKind.wrap_u32']; exact tTwo_raw v
          have r3 : (iw (v 3) + iw (tOne v (kk k) (sch blk k))) % 4294967296 = iw (v 3 + tOne v (kk k) (sch blk k)) := iw_add' _ _
          have r4 : (iw (tOne v (kk k) (sch blk k)) + iw (tTwo v)) % 4294967296 = iw (tOne v (kk k) (sch blk k) + tTwo v) := iw_add' _ _
          have HNV : Hid (InR w p s (turn v (kk k) (sch blk k)) blk (wc.setRow (p + 1) #[.int .u32 (iw (tOne v (kk k) (sch blk k) + tTwo v)), .int .u32 (iw (v 0)), .int .u32 (iw (v 1)), .int .u32 (iw (v 2)), .int .u32 (iw (v 3 + tOne v (kk k) (sch blk k))), .int .u32 (iw (v 4)), .int .u32 (iw (v 5)), .int .u32 (iw (v 6))])) := hJ3.setv (turn v (kk k) (sch blk k))
          have HO1 : Hid (#[Value.int .u32 (iw (tOne v (kk k) (sch blk k) + tTwo v)), .int .u32 (iw (v 0)), .int .u32 (iw (v 1)), .int .u32 (iw (v 2)), .int .u32 (iw (v 3 + tOne v (kk k) (sch blk k))), .int .u32 (iw (v 4)), .int .u32 (iw (v 5)), .int .u32 (iw (v 6))].all (·.oneCell') = true) := cf_one 8 (turn v (kk k) (sch blk k))
          have HO2 : Hid (wc.heap[p + 1]? = some (.cells (cf 8 v) 76 (0, 0))) := hJ3.bv
          have HO3 : Hid ((cf 8 v).size = 8) := cf_size _ _
          have HT : Hid (turns (sch blk) s (k + 1) = turn v (kk k) (sch blk k)) := HTv.out
          clear hJ3 HCk HCw z0 zm q2 q13 q22 hsg r1 HTv
          generalize cf 8 v = OV at *
          generalize turn v (kk k) (sch blk k) = tv at *
          generalize iw (S0 (v 0)) = PS at *
          generalize iw (maw (v 0) (v 1) (v 2)) = PM at *
          generalize iw (v 3 + tOne v (kk k) (sch blk k)) = X3 at *
          generalize iw (tOne v (kk k) (sch blk k) + tTwo v) = X0 at *
          generalize iw (tOne v (kk k) (sch blk k)) = T1 at *
          generalize iw (tTwo v) = T2 at *
          generalize iw (v 0) = V0 at *
          generalize iw (v 1) = V1 at *
          generalize iw (v 2) = V2 at *
          generalize iw (v 3) = V3 at *
          generalize iw (v 4) = V4 at *
          generalize iw (v 5) = V5 at *
          generalize iw (v 6) = V6 at *
          generalize iw (v 7) = V7 at *
          go_wp2_with (refine wpList_store_row rfl 76 _ _ rfl (p + 1) #[.int .u32 X0, .int .u32 V0, .int .u32 V1, .int .u32 V2, .int .u32 X3, .int .u32 V4, .int .u32 V5, .int .u32 V6] rfl rfl _ OV HO2.out info_a8 HO3.out HO1.out ?_)
          go_roundw
          case rel =>
            first
            | exact ⟨k + 1, by omega, by go_num, by rw [HT.out]; exact HNV.out⟩
            | ((repeat apply Exists.intro); exact ⟨⟨k + 1, by omega, by go_num, by rw [HT.out]; exact HNV.out⟩, rfl⟩)
          case measure => simp [intOf]; omega
        · obtain rfl : k = 64 := by omega
          have HF : Hid (∀ wx, InR w p (addTo s (turns (sch blk) s 64) 8) (turns (sch blk) s 64) blk wx → InM w (stAt m (j + 1)) wx) := fun wx h => by
            refine ⟨h.m.below, h.m.br, ?_⟩
            have e : cf 8 (addTo s (turns (sch blk) s 64) 8) = cf 8 (bhd s blk) := cf_congr fun i hi => by simp [addTo, bhd, hi]
            rw [h.m.bs, HNx.out, e]
          have HR1 : Hid (InR w p (addTo s (turns (sch blk) s 64) 0) (turns (sch blk) s 64) blk wr) := by
            have e : addTo s (turns (sch blk) s 64) 0 = s := by funext i; simp [addTo]
            show InR _ _ _ _ _ _
            rw [e]; exact hJ
          clear hJ
          generalize turns (sch blk) s 64 = V at *
          go_wp2
          go_loopw [13] (fun i wr => ∃ k : Nat, k ≤ 8 ∧ i = .int .i64 k ∧ InR w p (addTo s V k) V blk wr) (fun i _ => 8 - (intOf i).toNat)
          case atStart => exact ⟨0, Nat.zero_le _, rfl, HR1.out⟩
          case round =>
            obtain ⟨k, hk8, rfl, hJ⟩ := hrel
            clear HR1
            by_cases hlt8 : k < 8
            · have cs : wr.cell? ⟨w.heap.size + 1, k, none⟩ = some (.int .u32 (iw (s k))) := by rw [cell_of_row _ _ _ _ _ _ hJ.m.bs, cf_get _ hlt8, addTo_at]
              have cv : wr.cell? ⟨p + 1, k, none⟩ = some (.int .u32 (iw (V k))) := by rw [cell_of_row _ _ _ _ _ _ hJ.bv]; exact cf_get _ hlt8
              have fs : wr.frozen? ⟨w.heap.size + 1, k, none⟩ = false := frozen_of_row _ _ _ _ _ hJ.m.bs
              have hJ' : Hid (InR w p (addTo s V (k + 1)) V blk (wr.setCell ⟨w.heap.size + 1, k, none⟩ (.int .u32 (iw (s k + V k)))).drew) := by
                have := hJ.sets (i := k) hlt8 (s k + V k)
                rw [addTo_succ] at this
                exact this
              have r : Hid ((iw (s k) + iw (V k)) % 4294967296 = iw (s k + V k)) := iw_add' _ _
              have i1 : (k : Int) < 8 := by omega
              clear hJ
              generalize iw (s k + V k) = X at *
              generalize iw (s k) = A at *
              generalize iw (V k) = E at *
              go_wp2
              go_region
              all_goals
                go_wp2
                go_roundw
                case rel =>
                  rw [r.out]
                  first
                  | exact ⟨k + 1, by omega, by go_num, hJ'.out⟩
                  | ((repeat apply Exists.intro); exact ⟨⟨k + 1, by omega, by go_num, hJ'.out⟩, rfl⟩)
                case measure => simp [intOf]; omega
            · obtain rfl : k = 8 := by omega
              have HI9 : Hid _ := HF.out _ hJ
              clear hJ
              have ha64 := HA.out
              go_wp2
              go_roundw
              case rel =>
                first
                | exact ⟨j + 1, a + 64, by omega, by omega, by go_num, HI9.out⟩
                | ((repeat apply Exists.intro); exact ⟨⟨j + 1, a + 64, by omega, by omega, by go_num, HI9.out⟩, rfl⟩)
              case measure => simp [intOf]; omega
    · obtain rfl : j = B := by omega
      have a1 : ¬ (a : Int) < (m.length : Int) := by omega
      have HI : Hid _ := hI
      have HP0 : Hid (InF w wr.heap.size (stAt m j) 0 (wr.alloc (.cells (hv (padTo 32 [])) 23))) := inF_start hI
      rw [zero_h32] at HP0
      clear hI
      obtain ⟨p, hp⟩ : ∃ p, p = wr.heap.size := ⟨_, rfl⟩
      have hpp : Hid (w.heap.size + 2 ≤ wr.heap.size) := by have := HI.out.lt; show _ ≤ _; omega
      generalize stAt m j = s at *
      go_wp2
      rw [← hp] at HP0 hpp ⊢
      go_loopw [15] (fun i wr => ∃ k : Nat, k ≤ 32 ∧ i = .int .i64 k ∧ InF w p s k wr) (fun i _ => 32 - (intOf i).toNat)
      case atStart => exact ⟨0, Nat.zero_le _, rfl, HP0.out⟩
      case round =>
        obtain ⟨k, hk, rfl, hF⟩ := hrel
        clear HP0 hp
        by_cases hlt : k < 32
        · obtain ⟨q, hq⟩ : ∃ q : Nat, q = k / 4 := ⟨_, rfl⟩
          have c0 : wr.cell? ⟨w.heap.size + 1, q, none⟩ = some (.int .u32 (iw (s q))) := by
            rw [cell_of_row _ _ _ _ _ _ hF.m.bs]; exact cf_get _ (by omega)
          obtain ⟨v0, c1⟩ : ∃ v, wr.cell? ⟨p, k, none⟩ = some v := by
            rw [cell_of_row _ _ _ _ _ _ hF.bh]; exact ⟨_, Array.getElem?_eq_getElem (by rw [hv_size, padTo_length (by rw [hashT_length]; omega)]; omega)⟩
          have f1 : wr.frozen? ⟨p, k, none⟩ = false := frozen_of_row _ _ _ _ _ hF.bh
          have hF' : Hid _ := hF.set hlt
          have hd : (k : Int) / 4 = (q : Int) := by omega
          have q1 : (q : Int) < 8 := by omega
          have x0 := iw_nonneg (s q)
          have x1 := iw_lt (s q)
          have HX0 : Hid (iw (s q) / 2 ^ (24 - 8 * (k % 4)) % 256 = ((hb s k).toNat : Int)) := by
            show _ = _; unfold hb; rw [by8_num, hq]
          clear hq hF
          generalize iw (s q) = X at *
          have HX : Hid (X / 2 ^ (24 - 8 * (k % 4)) % 256 = ((hb s k).toNat : Int)) := HX0.out
          go_wp2
          go_roundw
          case rel =>
            rw [HX.out]
            first
            | exact ⟨k + 1, by omega, by go_num, hF'.out⟩
            | ((repeat apply Exists.intro); exact ⟨⟨k + 1, by omega, by go_num, hF'.out⟩, rfl⟩)
          case measure => simp [intOf]; omega
        · obtain rfl : k = 32 := by omega
          have b20 := hF.bh
          rw [padTo_full (hashT_length s 32), HSH.out] at b20
          have b2 : Hid _ := b20
          have b1 : Hid (wr.heap[w.heap.size]? = some (.cells (hv (padTo 32 [])) 23 (0, 0))) := hF.m.br
          have hbe : Hid (Below w.heap.size w wr) := hF.m.below
          have e1 : (hv (shaL l)).size = 32 := by rw [hv_size, shaL_length]
          have e2 := hv_one (shaL l)
          have e3 : Hid ((hv (padTo 32 [])).size = 32) := by show _ = _; rw [hv_size, padTo_length (by decide)]
          clear hF b20
          generalize hE : hv (shaL l) = E at *
          have HE : Hid (hv (shaL l) = E) := hE
          clear hE
          generalize hv (padTo 32 []) = O at *
          go_wp2_with (first | (refine wpList_load_row rfl 23 _ rfl p rfl _ E (0, 0) _ b2.out Tryd.underlying23 rfl (by rw [info_h32, e1]) ?_) | (refine wpList_store_row rfl 23 _ _ rfl w.heap.size E rfl rfl _ O b1.out (by rw [info_h32, e1]) (by rw [e3.out, e1]) e2 ?_))
          refine bodyPost_ret (v := .agg E) (results_cell1 (p := 2) Tryd.results44 _ _ w.heap.size 32 23 5 E (0, 0) rfl (heap_setRow_same b1.out) Tryd.underlying23 info_h32 e1) rfl ⟨by rw [HE.out], below_setRow hbe.out (Nat.le_refl _) _⟩
end Go.Proofs.YtficmbaffkkfhaaDoor
