/- Contract of the document's own words: a block's 64 words. -/
import Derived.Test.YtficmbaffkkfhaaDoorTa
import Derived.Test.YtficmbaffkkfhaaDoorW5
import Derived.Deep.RegionHeld3
namespace Go.Proofs.YtficmbaffkkfhaaDoor
open Go.RowKit

theorem shl_or (x : W32) (b : UInt8) : x <<< 8 ||| bw b = x * 256 + bw b := by
  have hb := UInt8.toNat_lt b
  have hbw : (bw b).toNat = b.toNat := by unfold bw; simp
  apply BitVec.eq_of_toNat_eq
  rw [BitVec.toNat_or, BitVec.toNat_shiftLeft, BitVec.toNat_add, BitVec.toNat_mul, hbw, Nat.shiftLeft_eq]
  rw [show (256 : W32).toNat = 256 from rfl, nat_join 8 _ _ (by omega) (by omega)]
  omega
/-- The word that a block's first i bytes behind 4 t make. -/
def wpart (l : List UInt8) (t : Nat) : Nat → W32
  | 0 => 0
  | i + 1 => wpart l t i * 256 + byAt l (4 * t + i)
theorem fill_lo (l : List UInt8) (t : Nat) : ∀ m, m ≤ 4 * t → fill l m t = 0
  | 0, _ => rfl
  | m + 1, h => by
    rw [fill, upd_other _ _ (by omega)]
    exact fill_lo l t m (by omega)
theorem fill_part (l : List UInt8) (t : Nat) : ∀ i, i ≤ 4 → fill l (4 * t + i) t = wpart l t i
  | 0, _ => fill_lo l t _ (by omega)
  | i + 1, h => by
    rw [show 4 * t + (i + 1) = (4 * t + i) + 1 by omega, fill, show (4 * t + i) / 4 = t by omega, upd_same, fill_part l t i (by omega), wpart]
    exact shl_or _ _
theorem fill_hi (l : List UInt8) (t : Nat) : ∀ n, fill l (4 * t + 4 + n) t = wpart l t 4
  | 0 => fill_part l t 4 (by omega)
  | n + 1 => by
    rw [show 4 * t + 4 + (n + 1) = (4 * t + 4 + n) + 1 by omega, fill, upd_other _ _ (by omega)]
    exact fill_hi l t n
theorem sch_word (l : List UInt8) (t : Nat) (h : t < 16) : sch l t = wpart l t 4 := by
  rw [sch_first l t h, show 64 = 4 * t + 4 + (60 - 4 * t) by omega]
  exact fill_hi l t _
/-- The first t words. -/
def uptoW (l : List UInt8) (t : Nat) : Nat → W32 := fun j => if j < t then sch l j else 0
theorem uptoW_succ (l : List UInt8) (t : Nat) : upd (uptoW l t) t (sch l t) = uptoW l (t + 1) := by
  funext j
  unfold upd uptoW
  by_cases h : j = t
  · subst h; simp
  · by_cases h1 : j < t
    · simp [h, h1, show j < t + 1 by omega]
    · simp [h, h1, show ¬ j < t + 1 by omega]
theorem upd_upd (f : Nat → W32) (i : Nat) (x y : W32) : upd (upd f i x) i y = upd f i y := by
  funext j; unfold upd; by_cases h : j = i <;> simp [h]
theorem upd_id (f : Nat → W32) (i : Nat) : upd f i (f i) = f := by
  funext j; unfold upd; by_cases h : j = i <;> simp [h]
/-- What lies in memory while the words are made. -/
structure InWd (w : World) (g : Nat → W32) (wr : World) : Prop where
  below : Below w.heap.size w wr
  b1 : wr.heap[w.heap.size]? = some (.cells (cf 64 fun _ => 0) 85 (0, 0))
  b2 : wr.heap[w.heap.size + 1]? = some (.cells (cf 64 g) 85 (0, 0))
theorem InWd.drewN {w : World} {g : Nat → W32} {wr : World} (h : InWd w g wr) (n : Nat) : InWd w g (wr.drewN n) := ⟨below_drewN h.below n, h.b1, h.b2⟩
theorem InWd.set {w : World} {g : Nat → W32} {wr : World} (h : InWd w g wr) {i : Nat} (hi : i < 64) (x : W32) : InWd w (upd g i x) (wr.setCell ⟨w.heap.size + 1, i, none⟩ (.int .u32 (iw x))).drew where
  below := (h.below.setCell (by show w.heap.size ≤ w.heap.size + 1; omega) _).drew
  b1 := by show ((wr.setCell _ _).heap)[_]? = _; rw [Below.heap_setCell _ _ _ _ (by show _ ≠ w.heap.size + 1; omega)]; exact h.b1
  b2 := by show ((wr.setCell _ _).heap)[_]? = _; rw [heap_set_same h.b2, cf_set _ _ hi]
theorem inWd_start (w : World) : InWd w (fun _ => 0) ((w.alloc (.cells (cf 64 fun _ => 0) 85)).alloc (.cells (cf 64 fun _ => 0) 85)) where
  below := ((Below.refl _ _).alloc (Nat.le_refl _) _).alloc (by simp) _
  b1 := by rw [Below.heap_alloc _ _ _ (by simp)]; exact heap_alloc_last _ _
  b2 := by have := heap_alloc_last (w.alloc (.cells (cf 64 fun _ => 0) 85)) (.cells (cf 64 fun _ => 0) 85); simpa using this
set_option maxRecDepth 100000 in
set_option maxHeartbeats 1600000 in
theorem words_any (l : List UInt8) (w : World) (hl : l.length = 64) :
    Calls Tryd.prog 51 #[.string (S l)] w fun e w' => e = .returned (.agg (cf 64 (sch l))) ∧ Below w.heap.size w w' := by
  have hst : Hid (InWd w (uptoW l 0) ((w.alloc (.cells (cf 64 fun _ => 0) 85)).alloc (.cells (cf 64 fun _ => 0) 85))) := inWd_start w
  rw [zero_w64] at hst
  have hsz : (S l).size = 64 := by rw [S_size, hl]
  have hix : Hid (∀ i (h : i < 64), (S l)[i]'(by omega) = l.getD i 0) := fun i h => by
    show l.toArray[i]'(by simp; omega) = _
    simp [List.getD, List.getElem?_eq_getElem (show i < l.length by omega)]
  go_enter Tryd.func51, Tryd.ntmps51
  go_wp2
  go_loopw [4] (fun i wr => ∃ t : Nat, t ≤ 64 ∧ i = .int .i64 t ∧ InWd w (uptoW l t) wr) (fun i _ => 64 - (intOf i).toNat)
  case atStart => exact ⟨0, Nat.zero_le _, rfl, hst.out⟩
  case round =>
    obtain ⟨t, ht, rfl, hI⟩ := hrel
    clear hst
    by_cases hlt : t < 64
    · by_cases h16 : t < 16
      · have hH : Hid (InWd w (upd (uptoW l t) t (wpart l t 0)) wr) := by
          have e : upd (uptoW l t) t (wpart l t 0) = uptoW l t := by
            have := upd_id (uptoW l t) t
            rwa [show uptoW l t t = wpart l t 0 by simp [uptoW, wpart]] at this
          show InWd _ _ _
          rw [e]; exact hI
        clear hI
        have j16 : (t : Int) < 16 := by omega
        have j64 : (t : Int) < 64 := by omega
        go_wp2
        go_loopw [5] (fun i wr => ∃ k : Nat, k ≤ 4 ∧ i = .int .i64 k ∧ InWd w (upd (uptoW l t) t (wpart l t k)) wr) (fun i _ => 4 - (intOf i).toNat)
        case atStart => exact ⟨0, Nat.zero_le _, rfl, hH.out⟩
        case round =>
          obtain ⟨k, hk, rfl, hJ⟩ := hrel
          clear hH
          by_cases hk4 : k < 4
          · have c1 : wr.cell? ⟨w.heap.size + 1, t, none⟩ = some (.int .u32 (iw (wpart l t k))) := by
              rw [cell_of_row _ _ _ _ _ _ hJ.b2, cf_get _ hlt, upd_same]
            have f1 : wr.frozen? ⟨w.heap.size + 1, t, none⟩ = false := frozen_of_row _ _ _ _ _ hJ.b2
            have hJ' : Hid (InWd w (upd (uptoW l t) t (wpart l t (k + 1))) (wr.setCell ⟨w.heap.size + 1, t, none⟩ (.int .u32 (iw (wpart l t (k + 1))))).drew) := by
              have := hJ.set (i := t) hlt (wpart l t (k + 1))
              rwa [upd_upd] at this
            obtain ⟨m, hm⟩ : ∃ m : Nat, m = 4 * t + k := ⟨_, rfl⟩
            have hmlt : m < 64 := by omega
            have hmS : m < (S l).size := by omega
            have hix1 := hix.out m hmlt
            have hr : Hid ((iw (wpart l t k) * 256 % 4294967296 + (((S l)[m]'hmS).toNat : Int) % 4294967296) % 4294967296 = iw (wpart l t (k + 1))) := by
              show _ = _
              rw [hix1, wpart, ← hm, ← iw_add']
              have e1 : iw (wpart l t k * 256) = iw (wpart l t k) * 256 % 4294967296 := by
                unfold iw; rw [BitVec.toNat_mul, show (256 : W32).toNat = 256 from rfl]; omega
              have e2 : iw (byAt l m) = ((l.getD m 0).toNat : Int) := iw_bw _
              have := UInt8.toNat_lt (l.getD m 0)
              rw [e1, e2]
              omega
            have m0 : (0 : Int) ≤ (m : Int) := by omega
            have m1 : (m : Int) < 64 := by omega
            have w1 : IntKind.i64.wrap (IntKind.i64.wrap (4 * (t : Int)) + (k : Int)) = (m : Int) := by rw [IntKind.wrap_i64, IntKind.wrap_i64]; omega
            have t0 : (0 : Int) ≤ (t : Int) := by omega
            have t1 : (t : Int) < 64 := by omega
            have hm' : Hid (m = 4 * t + k) := hm
            clear hJ hix1 hm
            generalize iw (wpart l t (k + 1)) = R at *
            generalize iw (wpart l t k) = F at *
            go_wp2
            go_region
            all_goals
              go_wp2
              go_roundw
              case rel =>
                rw [hr.out]
                first
                | exact ⟨k + 1, by omega, by go_num, hJ'.out⟩
                | ((repeat apply Exists.intro); exact ⟨⟨k + 1, by omega, by go_num, hJ'.out⟩, rfl⟩)
              case measure => simp [intOf]; omega
          · obtain rfl : k = 4 := by omega
            have hH : Hid (InWd w (uptoW l (t + 1)) wr) := by
              rw [← sch_word l t h16, uptoW_succ] at hJ
              exact hJ
            clear hJ
            go_wp2
            go_roundw
            case rel =>
              first
              | exact ⟨t + 1, by omega, by go_num, hH.out⟩
              | ((repeat apply Exists.intro); exact ⟨⟨t + 1, by omega, by go_num, hH.out⟩, rfl⟩)
            case measure => simp [intOf]; omega
      · obtain ⟨m, hm⟩ : ∃ m : Nat, t = m + 16 := ⟨t - 16, by omega⟩
        obtain ⟨a, ha⟩ : ∃ a : Nat, a = m + 14 := ⟨_, rfl⟩
        obtain ⟨b, hb⟩ : ∃ b : Nat, b = m + 9 := ⟨_, rfl⟩
        obtain ⟨c, hc⟩ : ∃ c : Nat, c = m + 1 := ⟨_, rfl⟩
        have HC : Hid (∀ wx j, j < t → InWd w (uptoW l t) wx → wx.cell? ⟨w.heap.size + 1, j, none⟩ = some (.int .u32 (iw (sch l j)))) := fun wx j hj h => by
          rw [cell_of_row _ _ _ _ _ _ h.b2, cf_get _ (by omega)]; simp [uptoW, hj]
        have ca := HC.out wr a (by omega) hI
        have cc := HC.out wr c (by omega) hI
        have HCb : Hid (∀ wx, InWd w (uptoW l t) wx → wx.cell? ⟨w.heap.size + 1, b, none⟩ = some (.int .u32 (iw (sch l b)))) := fun wx h => HC.out wx b (by omega) h
        have HCm : Hid (∀ wx, InWd w (uptoW l t) wx → wx.cell? ⟨w.heap.size + 1, m, none⟩ = some (.int .u32 (iw (sch l m)))) := fun wx h => HC.out wx m (by omega) h
        have HCt : Hid (∀ wx, InWd w (uptoW l t) wx → wx.cell? ⟨w.heap.size + 1, t, none⟩ = some (.int .u32 (iw 0))) := fun wx h => by
          rw [cell_of_row _ _ _ _ _ _ h.b2, cf_get _ hlt]; simp [uptoW]
        have HSet : Hid (∀ wx, InWd w (uptoW l t) wx → InWd w (uptoW l (t + 1)) (wx.setCell ⟨w.heap.size + 1, t, none⟩ (.int .u32 (iw (sch l t)))).drew) := fun wx h => by
          have := h.set (i := t) hlt (sch l t)
          rwa [uptoW_succ] at this
        have hr : Hid ((iw (s1 (sch l a)) + iw (sch l b) + iw (s0 (sch l c)) + iw (sch l m)) % 4294967296 = iw (sch l t)) := by
          show _ = _
          rw [hm, sch_next l m (by omega), ← iw_add', ← iw_add', ← iw_add', ha, hb, hc]
          omega
        have k7 : Hid (∀ w, Calls Tryd.prog 52 #[.int .u32 (iw (sch l c)), .int .i64 7] w fun e w' => e = .returned (.int .u32 (iw (rr (sch l c) 7))) ∧ ∃ m, w' = w.drewN m) := rotr_7 _
        have k18 : Hid (∀ w, Calls Tryd.prog 52 #[.int .u32 (iw (sch l c)), .int .i64 18] w fun e w' => e = .returned (.int .u32 (iw (rr (sch l c) 18))) ∧ ∃ m, w' = w.drewN m) := rotr_18 _
        have k17 : Hid (∀ w, Calls Tryd.prog 52 #[.int .u32 (iw (sch l a)), .int .i64 17] w fun e w' => e = .returned (.int .u32 (iw (rr (sch l a) 17))) ∧ ∃ m, w' = w.drewN m) := rotr_17 _
        have k19 : Hid (∀ w, Calls Tryd.prog 52 #[.int .u32 (iw (sch l a)), .int .i64 19] w fun e w' => e = .returned (.int .u32 (iw (rr (sch l a) 19))) ∧ ∃ m, w' = w.drewN m) := rotr_19 _
        have z0 : bits .xor .u32 (bits .xor .u32 (iw (rr (sch l c) 7)) (iw (rr (sch l c) 18))) (iw (sch l c) / 8) = iw (s0 (sch l c)) := by
          rw [show iw (sch l c) / (8 : Int) = iw (sch l c >>> 3) from iw_shr _ 3, iw_xor, iw_xor]; rfl
        have z1 : bits .xor .u32 (bits .xor .u32 (iw (rr (sch l a) 17)) (iw (rr (sch l a) 19))) (iw (sch l a) / 1024) = iw (s1 (sch l a)) := by
          rw [show iw (sch l a) / (1024 : Int) = iw (sch l a >>> 10) from iw_shr _ 10, iw_xor, iw_xor]; rfl
        have x0 := iw_nonneg (sch l c)
        have x1 := iw_lt (sch l c)
        have y0 := iw_nonneg (sch l a)
        have y1 := iw_lt (sch l a)
        generalize iw (s1 (sch l a)) = P1 at *
        generalize iw (s0 (sch l c)) = P0 at *
        generalize iw (rr (sch l c) 7) = R7 at *
        generalize iw (rr (sch l c) 18) = R18 at *
        generalize iw (rr (sch l a) 17) = R17 at *
        generalize iw (rr (sch l a) 19) = R19 at *
        generalize iw (sch l t) = R at *
        generalize iw (sch l a) = A at *
        generalize iw (sch l b) = B at *
        generalize iw (sch l c) = C at *
        generalize iw (sch l m) = M at *
        generalize iw 0 = O at *
        have w1 : IntKind.i64.wrap ((t : Int) - 2) = (a : Int) := by rw [IntKind.wrap_i64]; omega
        have w2 : IntKind.i64.wrap ((t : Int) - 7) = (b : Int) := by rw [IntKind.wrap_i64]; omega
        have w3 : IntKind.i64.wrap ((t : Int) - 15) = (c : Int) := by rw [IntKind.wrap_i64]; omega
        have w4 : IntKind.i64.wrap ((t : Int) - 16) = (m : Int) := by rw [IntKind.wrap_i64]; omega
        have i1 : (a : Int) < 64 := by omega
        have i2 : (b : Int) < 64 := by omega
        have i3 : (c : Int) < 64 := by omega
        have i4 : (m : Int) < 64 := by omega
        have i5 : (t : Int) < 64 := by omega
        have i6 : ¬ (t : Int) < 16 := by omega
        have n1 : ¬ b = t := by omega
        have n2 : ¬ m = t := by omega
        clear hm ha hb hc HC
        go_wp2
        go_quiet (fail)
        have hI0 := hI.drewN nq
        clear hI ca cc
        generalize wr.drewN nq = w0 at *
        go_wp2_with fail
        refine (k7.out _).mono ?_
        rintro e wn ⟨rfl, n1, rfl⟩
        have hI1 := hI0.drewN n1
        clear hI0
        generalize w0.drewN n1 = w1 at *
        go_wp2_with fail
        refine (k18.out _).mono ?_
        rintro e wn ⟨rfl, n2, rfl⟩
        have hI2 := hI1.drewN n2
        clear hI1
        generalize w1.drewN n2 = w2 at *
        go_wp2_with fail
        refine (k17.out _).mono ?_
        rintro e wn ⟨rfl, n3, rfl⟩
        have hI3 := hI2.drewN n3
        clear hI2
        generalize w2.drewN n3 = w3 at *
        go_wp2_with fail
        refine (k19.out _).mono ?_
        rintro e wn ⟨rfl, n4, rfl⟩
        have hI4 := hI3.drewN n4
        clear hI3
        generalize w3.drewN n4 = w4 at *
        have cb := HCb.out _ hI4
        have cm := HCm.out _ hI4
        have ct := HCt.out _ hI4
        have ft : w4.frozen? ⟨w.heap.size + 1, t, none⟩ = false := frozen_of_row _ _ _ _ _ hI4.b2
        have HI5 : Hid _ := HSet.out _ hI4
        clear hI4
        go_wp2
        go_region
        all_goals
          go_wp2
          go_roundw
          case rel =>
            rw [hr.out]
            first
            | exact ⟨t + 1, by omega, by go_num, HI5.out⟩
            | ((repeat apply Exists.intro); exact ⟨⟨t + 1, by omega, by go_num, HI5.out⟩, rfl⟩)
          case measure => simp [intOf]; omega
    · obtain rfl : t = 64 := by omega
      have e : cf 64 (uptoW l 64) = cf 64 (sch l) := cf_congr fun i hi => by simp [uptoW, hi]
      have hF0 := hI.b2
      rw [e] at hF0
      have hF : Hid _ := hF0
      have hs1 := cf_size 64 (sch l)
      have hs2 := cf_one 64 (sch l)
      have hb1 : Hid (wr.heap[w.heap.size]? = some (.cells (cf 64 fun _ => 0) 85 (0, 0))) := hI.b1
      have hbe : Hid (Below w.heap.size w wr) := hI.below
      have hz1 : Hid ((cf 64 fun _ => 0).size = 64) := cf_size _ _
      clear hI hF0 e
      generalize hD : cf 64 (sch l) = D at *
      have HD : Hid (cf 64 (sch l) = D) := hD
      clear hD
      generalize (cf 64 fun _ => 0) = Z at *
      go_wp2_with (first | (refine wpList_load_row rfl 85 _ rfl (w.heap.size + 1) rfl _ D (0, 0) _ hF.out Tryd.underlying85 rfl (by rw [info_w64, hs1]) ?_) | (refine wpList_store_row rfl 85 _ _ rfl w.heap.size D rfl rfl _ Z hb1.out (by rw [info_w64, hs1]) (by rw [hz1.out, hs1]) hs2 ?_))
      refine bodyPost_ret (v := .agg D) (results_cell1 (p := 2) Tryd.results51 _ _ w.heap.size 64 85 34 D (0, 0) rfl (heap_setRow_same hb1.out) Tryd.underlying85 info_w64 hs1) rfl ⟨by rw [HD.out], below_setRow hbe.out (Nat.le_refl _) _⟩
end Go.Proofs.YtficmbaffkkfhaaDoor
