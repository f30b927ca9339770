/- Contract of sha.schedule: a block's 64 words. -/
import Derived.Test.YtficmbaffkkfhaaDoorW4
import Derived.Test.YtficmbaffkkfhaaDoorW3
import Derived.Deep.RegionHeld3
namespace Go.Proofs.YtficmbaffkkfhaaDoor
open Go.RowKit

theorem keep4 {w : World} {B t a b c d : Nat} {v : Value} {p q r s : Option Value} (h : w.cell? ⟨B, a, none⟩ = p ∧ w.cell? ⟨B, b, none⟩ = q ∧ w.cell? ⟨B, c, none⟩ = r ∧ w.cell? ⟨B, d, none⟩ = s) (ha : ¬ a = t) (hb : ¬ b = t) (hc : ¬ c = t) (hd : ¬ d = t) :
    (w.setCell ⟨B, t, none⟩ v).drew.cell? ⟨B, a, none⟩ = p ∧ (w.setCell ⟨B, t, none⟩ v).drew.cell? ⟨B, b, none⟩ = q ∧ (w.setCell ⟨B, t, none⟩ v).drew.cell? ⟨B, c, none⟩ = r ∧ (w.setCell ⟨B, t, none⟩ v).drew.cell? ⟨B, d, none⟩ = s :=
  ⟨(cell_set_ne ha).trans h.1, (cell_set_ne hb).trans h.2.1, (cell_set_ne hc).trans h.2.2.1, (cell_set_ne hd).trans h.2.2.2⟩
/-- What lies in memory while the words are made. -/
structure InSch (w : World) (l : List UInt8) (g : Nat → W32) (wr : World) : Prop where
  below : Below w.heap.size w wr
  b0 : wr.heap[w.heap.size]? = some (.cells (hv l) 78 (0, 0))
  b1 : wr.heap[w.heap.size + 1]? = some (.cells (cf 64 fun _ => 0) 85 (0, 0))
  b2 : wr.heap[w.heap.size + 1 + 1]? = some (.cells (cf 64 g) 85 (0, 0))
  size : wr.heap.size = w.heap.size + 3
theorem InSch.set {w : World} {l : List UInt8} {g : Nat → W32} {wr : World} (h : InSch w l g wr) {i : Nat} (hi : i < 64) (x : W32) : InSch w l (upd g i x) (wr.setCell ⟨w.heap.size + 1 + 1, i, none⟩ (.int .u32 (iw x))).drew where
  below := (h.below.setCell (by show w.heap.size ≤ w.heap.size + 1 + 1; omega) _).drew
  b0 := by show ((wr.setCell _ _).heap)[_]? = _; rw [Below.heap_setCell _ _ _ _ (by show _ ≠ w.heap.size + 1 + 1; omega)]; exact h.b0
  b1 := by show ((wr.setCell _ _).heap)[_]? = _; rw [Below.heap_setCell _ _ _ _ (by show _ ≠ w.heap.size + 1 + 1; omega)]; exact h.b1
  b2 := by show ((wr.setCell _ _).heap)[_]? = _; rw [heap_set_same h.b2, cf_set _ _ hi]
  size := by show ((wr.setCell _ _).heap).size = _; rw [heap_set_size]; exact h.size

theorem hv_at {l : List UInt8} {i : Nat} (h : i < l.length) : (hv l)[i]? = some (.int .u8 (l[i].toNat : Int)) := by
  simp [hv, h]
theorem wrap_u8 (b : UInt8) : IntKind.u32.wrap (b.toNat : Int) = iw (bw b) := by
  have := UInt8.toNat_lt b
  rw [IntKind.wrap_u32', iw_bw]; omega
theorem fill_raw (l : List UInt8) (k q : Nat) (h : k < l.length) (hq : q = k / 4) : bits .or .u32 (iw (fill l k q) * 256 % 4294967296) ((l[k].toNat : Int) % 4294967296) = iw (fill l k (k / 4) <<< 8 ||| byAt l k) := by
  subst hq
  rw [← IntKind.wrap_u32', ← IntKind.wrap_u32', wrap_u8, show (256 : Int) = 2 ^ 8 from rfl, iw_shl, iw_or]
  congr 2
  simp [byAt, h]
theorem info_w64 : (Tryd.prog.info? 85).map (·.size) = some 64 := by kernel_rfl
theorem zero_w64 : cf 64 (fun _ => 0) = #[.int .u32 0, .int .u32 0, .int .u32 0, .int .u32 0, .int .u32 0, .int .u32 0, .int .u32 0, .int .u32 0, .int .u32 0, .int .u32 0, .int .u32 0, .int .u32 0, .int .u32 0, .int .u32 0, .int .u32 0, .int .u32 0, .int .u32 0, .int .u32 0, .int .u32 0, .int .u32 0, .int .u32 0, .int .u32 0, .int .u32 0, .int .u32 0, .int .u32 0, .int .u32 0, .int .u32 0, .int .u32 0, .int .u32 0, .int .u32 0, .int .u32 0, .int .u32 0, .int .u32 0, .int .u32 0, .int .u32 0, .int .u32 0, .int .u32 0, .int .u32 0, .int .u32 0, .int .u32 0, .int .u32 0, .int .u32 0, .int .u32 0, .int .u32 0, .int .u32 0, .int .u32 0, .int .u32 0, .int .u32 0, .int .u32 0, .int .u32 0, .int .u32 0, .int .u32 0, .int .u32 0, .int .u32 0, .int .u32 0, .int .u32 0, .int .u32 0, .int .u32 0, .int .u32 0, .int .u32 0, .int .u32 0, .int .u32 0, .int .u32 0, .int .u32 0] := by kernel_rfl
theorem inSch_start (l : List UInt8) (w : World) : InSch w l (fun _ => 0) (((w.alloc (.cells (hv l) 78)).alloc (.cells (cf 64 fun _ => 0) 85)).alloc (.cells (cf 64 fun _ => 0) 85)) where
  below := (((Below.refl _ _).alloc (Nat.le_refl _) _).alloc (by simp) _).alloc (by simp; omega) _
  b0 := by rw [Below.heap_alloc _ _ _ (by simp; omega), Below.heap_alloc _ _ _ (by simp)]; exact heap_alloc_last _ _
  b1 := by rw [Below.heap_alloc _ _ _ (by simp)]; have := heap_alloc_last (w.alloc (.cells (hv l) 78)) (.cells (cf 64 fun _ => 0) 85); simpa using this
  b2 := by have := heap_alloc_last ((w.alloc (.cells (hv l) 78)).alloc (.cells (cf 64 fun _ => 0) 85)) (.cells (cf 64 fun _ => 0) 85); simpa using this
  size := by simp
set_option maxRecDepth 100000 in
set_option maxHeartbeats 800000 in
theorem schedule_any (l : List UInt8) (w : World) (hl : l.length = 64) :
    Calls Tryd.prog 53 #[.agg (hv l)] w fun e w' => e = .returned (.agg (cf 64 (sch l))) ∧ Below w.heap.size w w' := by
  have hz : (hv l).size = 64 := by rw [hv_size, hl]
  have hst : Hid _ := inSch_start l w
  rw [zero_w64] at hst
  generalize hC : hv l = C at *
  have HC : Hid (hv l = C) := hC
  clear hC
  go_enter Tryd.func53, Tryd.ntmps53
  go_wp2
  go_loopw [6] (fun i wr => ∃ k : Nat, k ≤ 64 ∧ i = .int .i64 k ∧ InSch w l (fill l k) wr) (fun i _ => 64 - (intOf i).toNat)
  case atStart => exact ⟨0, Nat.zero_le _, rfl, hst.out⟩
  case round =>
    obtain ⟨k, hk, rfl, hI⟩ := hrel
    by_cases hlt : k < 64
    · obtain ⟨q, hq⟩ : ∃ q : Nat, q = k / 4 := ⟨_, rfl⟩
      have c1 : wr.cell? ⟨w.heap.size + 1 + 1, q, none⟩ = some (.int .u32 (iw (fill l k q))) := by
        rw [cell_of_row _ _ _ _ _ _ hI.b2]; exact cf_get _ (by omega)
      have c2 : wr.cell? ⟨w.heap.size, k, none⟩ = some (.int .u8 (l[k].toNat : Int)) := by
        rw [cell_of_row _ _ _ _ _ _ hI.b0]; exact hv_at (by omega)
      have f1 : wr.frozen? ⟨w.heap.size + 1 + 1, q, none⟩ = false := frozen_of_row _ _ _ _ _ hI.b2
      have hd : (k : Int).tdiv 4 = (q : Int) := by rw [Int.tdiv_eq_ediv_of_nonneg (by omega)]; omega
      have hw : IntKind.i64.wrap (q : Int) = (q : Int) := by rw [IntKind.wrap_i64]; omega
      have q0 : (0 : Int) ≤ (q : Int) := by omega
      have q1 : (q : Int) < 64 := by omega
      have hr : Hid _ := fill_raw l k q (by omega) hq
      have hI' : Hid (InSch w l (fill l (k + 1)) (wr.setCell ⟨w.heap.size + 1 + 1, q, none⟩ (.int .u32 (iw (fill l k (k / 4) <<< 8 ||| byAt l k)))).drew) := by
        rw [hq]; exact hI.set (i := k / 4) (by omega) _
      clear hI hst
      generalize iw (fill l k (k / 4) <<< 8 ||| byAt l k) = R at *
      generalize iw (fill l k q) = F at *
      have hq' : Hid (q = k / 4) := hq
      clear hq
      go_wp2
      go_region
      go_wp2
      go_roundw
      case rel => rw [hr.out]; exact ⟨k + 1, by omega, by go_num, hI'.out⟩
      case measure => simp [intOf]; omega
    · obtain rfl : k = 64 := by omega
      clear hst
      go_wp2
      go_loopw [5] (fun i wr => ∃ k : Nat, k ≤ 48 ∧ i = .int .i64 ((k + 16 : Nat) : Int) ∧ InSch w l (schT l k) wr) (fun i _ => 64 - (intOf i).toNat)
      case atStart => exact ⟨0, Nat.zero_le _, rfl, hI⟩
      case round =>
        obtain ⟨m, hm, rfl, hJ⟩ := hrel
        by_cases hlt : m < 48
        · obtain ⟨t, ht⟩ : ∃ t : Nat, t = m + 16 := ⟨_, rfl⟩
          obtain ⟨a, ha⟩ : ∃ a : Nat, a = m + 14 := ⟨_, rfl⟩
          obtain ⟨b, hb⟩ : ∃ b : Nat, b = m + 9 := ⟨_, rfl⟩
          obtain ⟨c, hc⟩ : ∃ c : Nat, c = m + 1 := ⟨_, rfl⟩
          have ca : wr.cell? ⟨w.heap.size + 1 + 1, a, none⟩ = some (.int .u32 (iw (schT l m a))) := by
            rw [cell_of_row _ _ _ _ _ _ hJ.b2]; exact cf_get _ (by omega)
          have cb : wr.cell? ⟨w.heap.size + 1 + 1, b, none⟩ = some (.int .u32 (iw (schT l m b))) := by
            rw [cell_of_row _ _ _ _ _ _ hJ.b2]; exact cf_get _ (by omega)
          have cc : wr.cell? ⟨w.heap.size + 1 + 1, c, none⟩ = some (.int .u32 (iw (schT l m c))) := by
            rw [cell_of_row _ _ _ _ _ _ hJ.b2]; exact cf_get _ (by omega)
          have cm : wr.cell? ⟨w.heap.size + 1 + 1, m, none⟩ = some (.int .u32 (iw (schT l m m))) := by
            rw [cell_of_row _ _ _ _ _ _ hJ.b2]; exact cf_get _ (by omega)
          have ct : wr.cell? ⟨w.heap.size + 1 + 1, t, none⟩ = some (.int .u32 (iw (schT l m t))) := by
            rw [cell_of_row _ _ _ _ _ _ hJ.b2]; exact cf_get _ (by omega)
          have ft : wr.frozen? ⟨w.heap.size + 1 + 1, t, none⟩ = false := frozen_of_row _ _ _ _ _ hJ.b2
          have hr : Hid ((((iw (s1 (schT l m a)) + iw (schT l m b)) % 4294967296 + iw (s0 (schT l m c))) % 4294967296 + iw (schT l m m)) % 4294967296 = iw (s1 (schT l m (m + 14)) + schT l m (m + 9) + s0 (schT l m (m + 1)) + schT l m m)) := by
            subst ha hb hc
            show _ = _
            rw [iw_add', iw_add', iw_add']
          have hJ' : Hid (InSch w l (schT l (m + 1)) (wr.setCell ⟨w.heap.size + 1 + 1, t, none⟩ (.int .u32 (iw (s1 (schT l m (m + 14)) + schT l m (m + 9) + s0 (schT l m (m + 1)) + schT l m m)))).drew) := by
            rw [ht]; exact hJ.set (i := m + 16) (by omega) _
          have k1 : Hid (∀ w : World, Calls Tryd.prog 59 #[.int .u32 (iw (schT l m a))] w fun e w' => e = .returned (.int .u32 (iw (s1 (schT l m a)))) ∧ w' = w) := mix1_any _
          have k0 : Hid (∀ w : World, Calls Tryd.prog 60 #[.int .u32 (iw (schT l m c))] w fun e w' => e = .returned (.int .u32 (iw (s0 (schT l m c)))) ∧ w' = w) := mix0_any _
          clear hJ hI
          generalize iw (s1 (schT l m (m + 14)) + schT l m (m + 9) + s0 (schT l m (m + 1)) + schT l m m) = R at *
          generalize iw (s1 (schT l m a)) = A1 at *
          generalize iw (s0 (schT l m c)) = C0 at *
          generalize iw (schT l m a) = A at *
          generalize iw (schT l m b) = B at *
          generalize iw (schT l m c) = D at *
          generalize iw (schT l m m) = E at *
          generalize iw (schT l m t) = F at *
          have e1 : ((m + 16 : Nat) : Int) = (t : Int) := by omega
          have w1 : IntKind.i64.wrap ((t : Int) - 2) = (a : Int) := by rw [IntKind.wrap_i64]; omega
          have w2 : IntKind.i64.wrap ((t : Int) - 7) = (b : Int) := by rw [IntKind.wrap_i64]; omega
          have w3 : IntKind.i64.wrap ((t : Int) - 15) = (c : Int) := by rw [IntKind.wrap_i64]; omega
          have w4 : IntKind.i64.wrap ((t : Int) - 16) = (m : Int) := by rw [IntKind.wrap_i64]; omega
          have i1 : (a : Int) < 64 := by omega
          have i2 : (b : Int) < 64 := by omega
          have i3 : (c : Int) < 64 := by omega
          have i4 : (m : Int) < 64 := by omega
          have i5 : (t : Int) < 64 := by omega
          have n1 : ¬ a = t := by omega
          have n2 : ¬ b = t := by omega
          have n3 : ¬ c = t := by omega
          have n4 : ¬ m = t := by omega
          have ht' : Hid (t = m + 16) := ht
          have ha' : Hid (a = m + 14) := ha
          have hb' : Hid (b = m + 9) := hb
          have hc' : Hid (c = m + 1) := hc
          clear ht ha hb hc
          rw [e1]
          clear e1
          have kk : Hid (∀ v : Value, (wr.setCell ⟨w.heap.size + 1 + 1, t, none⟩ v).drew.cell? ⟨w.heap.size + 1 + 1, a, none⟩ = some (.int .u32 A) ∧ (wr.setCell ⟨w.heap.size + 1 + 1, t, none⟩ v).drew.cell? ⟨w.heap.size + 1 + 1, b, none⟩ = some (.int .u32 B) ∧ (wr.setCell ⟨w.heap.size + 1 + 1, t, none⟩ v).drew.cell? ⟨w.heap.size + 1 + 1, c, none⟩ = some (.int .u32 D) ∧ (wr.setCell ⟨w.heap.size + 1 + 1, t, none⟩ v).drew.cell? ⟨w.heap.size + 1 + 1, m, none⟩ = some (.int .u32 E)) := fun v => keep4 ⟨ca, cb, cc, cm⟩ n1 n2 n3 n4
          go_wp2
          go_region_held3 (fun w' => w'.cell? ⟨w.heap.size + 1 + 1, a, none⟩ = some (.int .u32 A) ∧ w'.cell? ⟨w.heap.size + 1 + 1, b, none⟩ = some (.int .u32 B) ∧ w'.cell? ⟨w.heap.size + 1 + 1, c, none⟩ = some (.int .u32 D) ∧ w'.cell? ⟨w.heap.size + 1 + 1, m, none⟩ = some (.int .u32 E)) (first | exact kk.out _ | go_keep) (first | (go_at_call 59; refine (k1.out _).mono ?_; rintro e w' ⟨rfl, rfl⟩) | (go_at_call 60; refine (k0.out _).mono ?_; rintro e w' ⟨rfl, rfl⟩))
          go_wp2
          go_roundw
          case rel => rw [hr.out]; (repeat apply Exists.intro); exact ⟨⟨m + 1, by omega, by rw [ht'.out]; go_num, hJ'.out⟩, rfl⟩
          case measure => simp [intOf]; omega
        · obtain rfl : m = 48 := by omega
          have hF : Hid (wr.heap[w.heap.size + 1 + 1]? = some (.cells (cf 64 (sch l)) 85 (0, 0))) := hJ.b2
          have hs1 := cf_size 64 (sch l)
          have hs2 := cf_one 64 (sch l)
          have hb1 : Hid (wr.heap[w.heap.size + 1]? = some (.cells (cf 64 fun _ => 0) 85 (0, 0))) := hJ.b1
          have hbe : Hid (Below w.heap.size w wr) := hJ.below
          have hz1 : Hid ((cf 64 fun _ => 0).size = 64) := cf_size _ _
          clear hJ hI
          generalize hD : cf 64 (sch l) = D at *
          have HD : Hid (cf 64 (sch l) = D) := hD
          clear hD
          generalize (cf 64 fun _ => 0) = Z at *
          go_wp2_with (first | (refine wpList_load_row rfl 85 _ rfl (w.heap.size + 1 + 1) rfl _ D (0, 0) _ hF.out Tryd.underlying85 rfl (by rw [info_w64, hs1]) ?_) | (refine wpList_store_row rfl 85 _ _ rfl (w.heap.size + 1) D rfl rfl _ Z hb1.out (by rw [info_w64, hs1]) (by rw [hz1.out, hs1]) hs2 ?_))
          refine bodyPost_ret (v := .agg D) (results_cell1 (p := 2) Tryd.results53 _ _ (w.heap.size + 1) 64 85 34 D (0, 0) rfl (heap_setRow_same hb1.out) Tryd.underlying85 info_w64 hs1) rfl ⟨by rw [HD.out], below_setRow hbe.out (by omega) _⟩
end Go.Proofs.YtficmbaffkkfhaaDoor
