/- The law SumsSwap: it returns true. -/
import Derived.Test.YtfjclbgcbpjdcaaDoorCt
import Derived.Deep.RegionWith
namespace Go.Proofs.YtfjclbgcbpjdcaaDoor
open Go.RowKit

set_option maxRecDepth 100000 in
set_option maxHeartbeats 1600000 in
theorem swap_any (s : ByteArray) (at' : Int) (w : World) (hT : Tab4 w) (hat : 0 ≤ at' ∧ at' ≤ 65535) (hs : s.size ≤ 140737488351232) :
    Calls Tryd.prog 8 #[.string s, .int .u16 at'] w fun e w' => e = .returned (.bool true) ∧ Below w.heap.size w w' := by
  have h0 : Hid (Calls Tryd.prog 13 #[] w fun e w' => e = .returned (.bool true) ∧ w' = w) := does_any w hT
  by_cases ha : s.size ≤ 20000
  rotate_left
  · go_enter Tryd.func8, Tryd.ntmps8
    go_wp2_with fail
    refine h0.out.mono ?_
    rintro e w' ⟨rfl, rfl⟩
    go_wp2
    go_ret
    exact ⟨rfl, Below.refl _ _⟩
  by_cases hb : 2 ≤ s.size
  rotate_left
  · go_enter Tryd.func8, Tryd.ntmps8
    go_wp2_with fail
    refine h0.out.mono ?_
    rintro e w' ⟨rfl, rfl⟩
    go_wp2
    go_ret
    exact ⟨rfl, Below.refl _ _⟩
  obtain ⟨C, z, n, w1, hcv, hC, hR⟩ := row_made w s
  have HR : Hid _ := hR
  clear hR
  have g1 : decide ((20000 : Int) < (s.size : Int)) = false := decide_eq_false (by omega)
  have g2 : decide ((s.size : Int) < 2) = false := decide_eq_false (by omega)
  have hk0 : 0 ≤ at' % ((s.size : Int) - 1) := Int.emod_nonneg _ (by omega)
  have hk1 : at' % ((s.size : Int) - 1) < (s.size : Int) - 1 := Int.emod_lt_of_pos _ (by omega)
  have hls : s.data.toList.length = s.size := rfl
  obtain ⟨K, hK⟩ := Int.eq_ofNat_of_zero_le hk0
  rw [hK] at hk1
  clear hk0
  have HA := split_two s.data.toList K (by omega)
  obtain ⟨a, x, y, c, hl, hal⟩ := HA
  have gx : Hid (s[K]'(by omega) = x) := by
    show s.data[K]'_ = x
    have : s.data.toList[K]? = some x := by rw [hl, ← hal]; simp
    have h2 := List.getElem?_eq_some_iff.1 this
    simpa using h2.2
  have gy : Hid (s[K + 1]'(by omega) = y) := by
    show s.data[K + 1]'_ = y
    have : s.data.toList[K + 1]? = some y := by rw [hl, ← hal]; simp
    have h2 := List.getElem?_eq_some_iff.1 this
    simpa using h2.2
  have c1 : Hid (w1.cell? ⟨w.heap.size, K, none⟩ = some (.int .u8 (x.toNat : Int))) := by
    have := HR.out.cell (j := K) (by omega)
    rw [hl] at this
    show _ = _
    rw [this, ← hal]; simp
  have c2 : Hid (w1.cell? ⟨w.heap.size, K + 1, none⟩ = some (.int .u8 (y.toNat : Int))) := by
    have := HR.out.cell (j := K + 1) (by omega)
    rw [hl] at this
    show _ = _
    rw [this, ← hal]; simp
  have hN : Hid (Row w (a ++ y :: x :: c) z n ((w1.setCell ⟨w.heap.size, K, none⟩ (.int .u8 (y.toNat : Int))).setCell ⟨w.heap.size, K + 1, none⟩ (.int .u8 (x.toNat : Int)))) := by
    have := (HR.out.put (j := K) (by omega) y).put (j := K + 1) (by rw [List.length_set]; omega) x
    rw [hl, ← hal, swap_set] at this
    rw [← hal]
    exact this
  have f1 : Hid (w1.frozen? ⟨w.heap.size, K, none⟩ = false) := HR.out.open (by omega)
  have f2 : Hid (∀ v : UInt8, (w1.setCell ⟨w.heap.size, K, none⟩ (.int .u8 (v.toNat : Int))).frozen? ⟨w.heap.size, K + 1, none⟩ = false) := fun v => (HR.out.put (j := K) (by omega) v).open (by rw [List.length_set]; omega)
  have C1 := c1.out
  have C2 := c2.out
  have F1 := f1.out
  have F2 : ∀ v : UInt8, (w1.setCell ⟨w.heap.size, K, none⟩ (.int .u8 (v.toNat : Int))).frozen? ⟨w.heap.size, K + 1, none⟩ = false := f2.out
  have C3 : (w1.setCell ⟨w.heap.size, K, none⟩ (.int .u8 (y.toNat : Int))).cell? ⟨w.heap.size, K + 1, none⟩ = some (.int .u8 (y.toNat : Int)) := by
    have := (HR.out.put (j := K) (by omega) y).cell (j := K + 1) (by rw [List.length_set]; omega)
    rw [hl, ← hal] at this
    rw [← hal, this]; simp
  have hwr : IntKind.i64.wrap ((K : Int) + 1) = ((K + 1 : Nat) : Int) := by rw [IntKind.wrap_i64]; omega
  have i1 : ((K + 1 : Nat) : Int) < (s.size : Int) := by omega
  go_enter Tryd.func8, Tryd.ntmps8
  go_wp2
  go_region
  rw [hK]
  have hI := hN.out.drew
  clear C1 C2 C3 F1 F2 c1 c2 f1 f2 hN HR hcv h0
  generalize ((w1.setCell ⟨w.heap.size, K, none⟩ (.int .u8 (y.toNat : Int))).setCell ⟨w.heap.size, K + 1, none⟩ (.int .u8 (x.toNat : Int))).drew = wr at *
  have hln : (a ++ y :: x :: c).length = s.size := by rw [← hls, hl]; simp
  have hcb : ∀ m, (convert 29 9 (.slice (some ⟨w.heap.size, 0, none⟩) s.size C)).run Tryd.prog (wr.drewN m) = .ok (.string (S (a ++ y :: x :: c))) (wr.drewN m) := fun m => by
    have := (hI.drewN m).text C
    rwa [hln] at this
  have hT2 : ∀ m, Tab4 (wr.drewN m) := fun m => hT.below (hI.drewN m).below hT.lt
  have HB : Hid (∀ m, Below w.heap.size w (wr.drewN m)) := fun m => (hI.drewN m).below
  have h1 : Hid (∀ m, Calls Tryd.prog 9 #[.string (S (a ++ y :: x :: c))] (wr.drewN m) fun e w' => e = .returned (.int .u32 (iw (moreL 0#32 (a ++ y :: x :: c)))) ∧ w' = wr.drewN m) := fun m => sumS_any _ _ (hT2 m) (by omega)
  have h2 : Hid (∀ m, Calls Tryd.prog 9 #[.string s] (wr.drewN m) fun e w' => e = .returned (.int .u32 (iw (moreL 0#32 s.data.toList))) ∧ w' = wr.drewN m) := fun m => sum_any s _ (hT2 m) hs
  have h3 : Hid (∀ m, Calls Tryd.prog 13 #[] (wr.drewN m) fun e w' => e = .returned (.bool true) ∧ w' = wr.drewN m) := fun m => does_any _ (hT2 m)
  have hq : (iw (moreL 0#32 (a ++ y :: x :: c)) == iw (moreL 0#32 s.data.toList)) = ((x.toNat : Int) == (y.toNat : Int)) := by
    rw [Bool.eq_iff_iff, beq_iff_eq, beq_iff_eq, hl]
    have ht := sum_swapped 0#32 a c x y
    exact ⟨fun h => by rw [ht.1 (iw_inj h)], fun h => congrArg iw (ht.2 (UInt8.toNat_inj.1 (by omega)))⟩
  have hx : ∀ h : K < s.size, s[K]'h = x := fun _ => gx.out
  have hy : ∀ h : K + 1 < s.size, s[K + 1]'h = y := fun _ => gy.out
  clear hI hT2 hls hln gx gy
  generalize iw (moreL 0#32 (a ++ y :: x :: c)) = P at *
  generalize iw (moreL 0#32 s.data.toList) = Q at *
  generalize S (a ++ y :: x :: c) = T at *
  clear hl
  have i0 : (K : Int) < (s.size : Int) := by omega
  have i2 : (K : Int) + 1 < (s.size : Int) := by omega
  have i3 : ((K : Int) + 1).toNat = K + 1 := by omega
  have i4 : K + 1 < s.size := by omega
  have i5 : ¬ (K : Int) + 1 < 0 := by omega
  go_wp2
  go_quiet (first
    | (go_at_call_of 9 T; exact Calls.quiet_of_same (h1.out _))
    | (go_at_call_of 9 s; exact Calls.quiet_of_same (h2.out _))
    | (go_at_call 13; exact Calls.quiet_of_same (h3.out _)))
  go_wp2
  go_ret
  exact ⟨rfl, HB.out _⟩
end Go.Proofs.YtfjclbgcbpjdcaaDoor
