/- Contract of the document's own GetHash. -/
import Derived.Test.YthefmkmgiblngaaDoorRb
namespace Go.Proofs.YthefmkmgiblngaaDoor
open Go.RowKit

theorem info_h32' {C : Array Value} (h : C.size = 32) : (Tryd.prog.info? 32).map (·.size) = some C.size := by rw [h]; exact info_h32

set_option maxRecDepth 100000 in
set_option maxHeartbeats 800000 in
theorem rgetHash_yes (s : ByteArray) (a : Nat) (w : World) (hs : s.size ≤ 140737488351232) (ha : a + 32 ≤ s.size) :
    Calls Tryd.prog 19 #[.string s, .int .i64 a] w fun e w' => e = .returned (.tuple #[.agg (hv (win s a 32)), .int .i64 (a + 32), .bool true]) ∧ Below w.heap.size w w' := by
  have z2 : (hv (padTo 32 [])).size = 32 := by rw [hv_size, padTo_length (by decide)]
  rw [zero_h32] at z2
  have Z2 : Hid _ := z2
  clear z2
  have g1 : decide ((a : Int) < 0) = false := decide_eq_false (by omega)
  have g2 : decide (s.size < a) = false := decide_eq_false (by omega)
  have g3 : decide ((s.size : Int) - (a : Int) < 32) = false := decide_eq_false (by omega)
  go_enter Tryd.func19, Tryd.ntmps19
  go_wp2
  go_loopw [8] (fun i wr => ∃ k : Nat, k ≤ 32 ∧ i = .int .i64 k ∧ wr = (w.alloc (.cells #[.int .u8 0, .int .u8 0, .int .u8 0, .int .u8 0, .int .u8 0, .int .u8 0, .int .u8 0, .int .u8 0, .int .u8 0, .int .u8 0, .int .u8 0, .int .u8 0, .int .u8 0, .int .u8 0, .int .u8 0, .int .u8 0, .int .u8 0, .int .u8 0, .int .u8 0, .int .u8 0, .int .u8 0, .int .u8 0, .int .u8 0, .int .u8 0, .int .u8 0, .int .u8 0, .int .u8 0, .int .u8 0, .int .u8 0, .int .u8 0, .int .u8 0, .int .u8 0] 32)).alloc (.cells (hv (padTo 32 (win s a k))) 32)) (fun i _ => 32 - (intOf i).toNat)
  case atStart => exact ⟨0, Nat.zero_le _, rfl, rfl⟩
  case round =>
    obtain ⟨k, hk, rfl, rfl⟩ := hrel
    by_cases hlt : k < 32
    · have hl : (win s a k).length = k := win_length s a k (by omega)
      have HS : Hid ((hv (padTo 32 (win s a k))).setIfInBounds k (.int .u8 (s[a + k].toNat : Int)) = hv (padTo 32 (win s a (k + 1)))) := by
        show _ = _
        have := padTo_set 32 (win s a k) s[a + k] (by omega)
        rw [hl] at this
        rw [this, win_succ s a k (by omega)]
      have hsz : (hv (padTo 32 (win s a k))).size = 32 := by rw [hv_size, padTo_length (by omega)]
      obtain ⟨v0, hv0⟩ : ∃ v, (hv (padTo 32 (win s a k)))[k]? = some v := ⟨_, Array.getElem?_eq_getElem (by omega)⟩
      generalize hv (padTo 32 (win s a k)) = C at *
      go_wp2
      go_roundw
      case rel => exact ⟨k + 1, by omega, by go_num, by rw [HS.out]⟩
      case measure => simp [intOf]; omega
    · obtain rfl : k = 32 := by omega
      have HC : Hid (hv (padTo 32 (win s a 32)) = hv (win s a 32)) := by show _ = _; rw [padTo_full (win_length s a 32 ha)]
      have hsz : (hv (padTo 32 (win s a 32))).size = 32 := by rw [HC.out, hv_size, win_length s a 32 ha]
      have hone : (hv (padTo 32 (win s a 32))).all (·.oneCell') = true := hv_one _
      generalize hv (padTo 32 (win s a 32)) = C at *
      go_wp2_with (first | (refine wpList_load_row rfl 32 _ rfl (w.heap.size + 1) rfl _ C (0, 0) _ (heap_alloc2_new w _ _) Tryd.underlying32 rfl (info_h32' hsz) ?_) | (refine wpList_store_row rfl 32 _ _ rfl w.heap.size C rfl rfl _ _ (heap_alloc2_old w _ _) (info_h32' hsz) (by rw [Z2.out, hsz]) hone ?_))
      refine bodyPost_ret (v := .tuple #[.agg C, .int .i64 (a + 32), .bool true]) (results_cell2 (p := 4) (u := 5) (v := 6) Tryd.results19 _ _ w.heap.size 32 32 5 C (0, 0) rfl (setRow_heap _ _ _ _ _ _ (heap_alloc2_old w _ _)) Tryd.underlying32 info_h32 hsz) rfl ⟨?_, below_setRow (((Below.refl _ _).alloc (Nat.le_refl _) _).alloc (by simp) _) (Nat.le_refl _) _⟩
      rw [HC.out]
set_option maxRecDepth 100000 in
set_option maxHeartbeats 800000 in
theorem rgetHash_no (s : ByteArray) (a : Int) (w : World) (_hs : s.size ≤ 140737488351232) (ha : -9223372036854775808 ≤ a ∧ a ≤ 9223372036854775807) (hst : stB s a 32 = false) :
    Calls Tryd.prog 19 #[.string s, .int .i64 a] w fun e w' => e = .returned (.tuple #[.agg (hv (padTo 32 [])), .int .i64 0, .bool false]) ∧ Below w.heap.size w w' := by
  have z1 := hv_one (padTo 32 [])
  have z2 : (hv (padTo 32 [])).size = 32 := by rw [hv_size, padTo_length (by decide)]
  rw [zero_h32] at z1 z2
  rw [zero_h32]
  have Z1 : Hid _ := z1
  have Z2 : Hid _ := z2
  clear z1 z2
  have h := stB_not.1 hst
  clear hst
  obtain ⟨a1, a2⟩ := ha
  have hcase : a < 0 ∨ (¬ a < 0 ∧ (s.size : Int) < a) ∨ (¬ a < 0 ∧ ¬ (s.size : Int) < a ∧ (s.size : Int) - a < 32) := by omega
  clear h
  rcases hcase with g1 | ⟨g1, g2⟩ | ⟨g1, g2, g3⟩
  all_goals
    go_enter Tryd.func19, Tryd.ntmps19
    go_wp2_with (first | (refine wpList_load_row rfl 32 _ rfl (w.heap.size + 1) rfl _ _ (0, 0) _ (heap_alloc2_new w _ _) Tryd.underlying32 rfl (info_h32' Z2.out) ?_) | (refine wpList_store_row rfl 32 _ _ rfl w.heap.size _ rfl rfl _ _ (heap_alloc2_old w _ _) (info_h32' Z2.out) rfl Z1.out ?_))
    exact bodyPost_ret (v := .tuple #[.agg _, .int .i64 0, .bool false]) (results_cell2 (p := 4) (u := 5) (v := 6) Tryd.results19 _ _ w.heap.size 32 32 5 _ (0, 0) rfl (setRow_heap _ _ _ _ _ _ (heap_alloc2_old w _ _)) Tryd.underlying32 info_h32 Z2.out) rfl ⟨rfl, below_setRow (((Below.refl _ _).alloc (Nat.le_refl _) _).alloc (by simp) _) (Nat.le_refl _) _⟩
theorem rgetHash_any (s : ByteArray) (a : Int) (w : World) (hs : s.size ≤ 140737488351232) (ha : -9223372036854775808 ≤ a ∧ a ≤ 9223372036854775807) :
    Calls Tryd.prog 19 #[.string s, .int .i64 a] w fun e w' => e = .returned (ghV s a) ∧ Below w.heap.size w w' := by
  cases h : stB s a 32 with
  | false => rw [ghV_no h]; exact rgetHash_no s a w hs ha h
  | true =>
    rw [ghV_yes h]
    obtain ⟨h0, h1⟩ := stB_iff.1 h
    obtain ⟨a, rfl⟩ := Int.eq_ofNat_of_zero_le h0
    exact rgetHash_yes s a w hs (by omega)
end Go.Proofs.YthefmkmgiblngaaDoor
