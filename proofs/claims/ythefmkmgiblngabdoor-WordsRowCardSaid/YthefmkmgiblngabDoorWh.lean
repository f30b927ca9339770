/- Contracts of words.GetHash and words.PutHash. -/
import Derived.Test.YthefmkmgiblngabDoorWd
import Derived.Test.YthefmkmgiblngabDoorM2
import Derived.Test.YthefmkmgiblngabDoorLw
namespace Go.Proofs.YthefmkmgiblngabDoor
open Go.RowKit

theorem info_h32 : (Tryd.prog.info? 33).map (·.size) = some 32 := by kernel_rfl
theorem zero_h32 : hv (padTo 32 []) = #[.int .u8 0, .int .u8 0, .int .u8 0, .int .u8 0, .int .u8 0, .int .u8 0, .int .u8 0, .int .u8 0, .int .u8 0, .int .u8 0, .int .u8 0, .int .u8 0, .int .u8 0, .int .u8 0, .int .u8 0, .int .u8 0, .int .u8 0, .int .u8 0, .int .u8 0, .int .u8 0, .int .u8 0, .int .u8 0, .int .u8 0, .int .u8 0, .int .u8 0, .int .u8 0, .int .u8 0, .int .u8 0, .int .u8 0, .int .u8 0, .int .u8 0, .int .u8 0] := by rfl

set_option maxRecDepth 100000 in
set_option maxHeartbeats 800000 in
theorem getHash_yes (s : ByteArray) (a : Nat) (w : World) (hs : s.size ≤ 140737488351232) (ha : a + 32 ≤ s.size) :
    Calls Tryd.prog 11 #[.string s, .int .i64 a] w fun e w' => e = .returned (.tuple #[.agg (hv (win s a 32)), .int .i64 (a + 32), .bool true]) ∧ Below w.heap.size w w' := by
  have hst : stB s a 32 = true := stB_iff.2 (by omega)
  go_enter Tryd.func11, Tryd.ntmps11
  go_wp2_with (first | (go_at_call 15; refine (stands_any _ _ _ _ hs (by omega)).mono ?_; rintro e w' ⟨rfl, rfl⟩))
  go_loopw [13] (fun i wr => ∃ k : Nat, k ≤ 32 ∧ i = .int .i64 k ∧ wr = w.alloc (.cells (hv (padTo 32 (win s a k))) 33)) (fun i _ => 32 - (intOf i).toNat)
  case atStart => exact ⟨0, Nat.zero_le _, rfl, rfl⟩
  case round =>
    obtain ⟨k, hk, rfl, rfl⟩ := hrel
    by_cases hlt : k < 32
    · have hl : (win s a k).length = k := win_length s a k (by omega)
      have HS : Hid ((hv (padTo 32 (win s a k))).setIfInBounds k (.int .u8 (s[a + k].toNat : Int)) = hv (padTo 32 (win s a (k + 1)))) := by
        show _ = _
        have := padTo_set 32 (win s a k) s[a + k] (by omega)
        rw [hl] at this
        rw [this, win_succ s a k (by omega)]
      have hsz : (hv (padTo 32 (win s a k))).size = 32 := by rw [hv_size, padTo_length (by omega)]
      obtain ⟨v0, hv0⟩ : ∃ v, (hv (padTo 32 (win s a k)))[k]? = some v := ⟨_, Array.getElem?_eq_getElem (by omega)⟩
      generalize hv (padTo 32 (win s a k)) = C at *
      go_wp2
      go_roundw
      case rel => exact ⟨k + 1, by omega, by go_num, by rw [HS.out]⟩
      case measure => simp [intOf]; omega
    · obtain rfl : k = 32 := by omega
      have HC : Hid (hv (padTo 32 (win s a 32)) = hv (win s a 32)) := by show _ = _; rw [padTo_full (win_length s a 32 ha)]
      have hsz : (hv (padTo 32 (win s a 32))).size = 32 := by rw [HC.out, hv_size, win_length s a 32 ha]
      have hone : (hv (padTo 32 (win s a 32))).all (·.oneCell') = true := hv_one _
      generalize hv (padTo 32 (win s a 32)) = C at *
      go_wp2_with (first | (refine load_last rfl 33 _ rfl 32 5 _ C rfl Tryd.underlying33 info_h32 hsz ?_) | (refine store_last rfl 33 _ _ rfl 32 _ C C rfl rfl info_h32 hsz hsz hone ?_))
      refine bodyPost_ret (v := .tuple #[.agg C, .int .i64 (a + 32), .bool true]) (results_cell2 (p := 4) (u := 5) (v := 6) Tryd.results11 _ _ w.heap.size 32 33 5 C (0, 0) rfl (heap_alloc_last w _) Tryd.underlying33 info_h32 hsz) rfl ⟨?_, (Below.refl _ _).alloc (Nat.le_refl _) _⟩
      rw [HC.out]
theorem getHash_no (s : ByteArray) (a : Int) (w : World) (hs : s.size ≤ 140737488351232) (ha : -9223372036854775808 ≤ a ∧ a ≤ 9223372036854775807) (hst : stB s a 32 = false) :
    Calls Tryd.prog 11 #[.string s, .int .i64 a] w fun e w' => e = .returned (.tuple #[.agg (hv (padTo 32 [])), .int .i64 0, .bool false]) ∧ Below w.heap.size w w' := by
  have z1 := hv_one (padTo 32 [])
  have z2 : (hv (padTo 32 [])).size = 32 := by rw [hv_size, padTo_length (by decide)]
  rw [zero_h32] at z1 z2
  rw [zero_h32]
  have Z1 : Hid _ := z1
  have Z2 : Hid _ := z2
  clear z1 z2
  go_enter Tryd.func11, Tryd.ntmps11
  go_wp2_with (first | (go_at_call 15; refine (stands_any _ _ _ _ hs ha).mono ?_; rintro e w' ⟨rfl, rfl⟩) | (refine store_last rfl 33 _ _ rfl 32 _ _ _ rfl rfl info_h32 Z2.out Z2.out Z1.out ?_))
  exact bodyPost_ret (v := .tuple #[.agg _, .int .i64 0, .bool false]) (results_cell2 (p := 4) (u := 5) (v := 6) Tryd.results11 _ _ w.heap.size 32 33 5 _ (0, 0) rfl (heap_alloc_last w _) Tryd.underlying33 info_h32 Z2.out) rfl ⟨rfl, (Below.refl _ _).alloc (Nat.le_refl _) _⟩
/-- What GetHash answers. -/
def ghV (s : ByteArray) (a : Int) : Value := if stB s a 32 then .tuple #[.agg (hv (win s a.toNat 32)), .int .i64 (a + 32), .bool true] else .tuple #[.agg (hv (padTo 32 [])), .int .i64 0, .bool false]
theorem ghV_yes {s : ByteArray} {a : Int} (h : stB s a 32 = true) : ghV s a = .tuple #[.agg (hv (win s a.toNat 32)), .int .i64 (a + 32), .bool true] := by simp [ghV, h]
theorem ghV_no {s : ByteArray} {a : Int} (h : stB s a 32 = false) : ghV s a = .tuple #[.agg (hv (padTo 32 [])), .int .i64 0, .bool false] := by simp [ghV, h]
theorem getHash_any (s : ByteArray) (a : Int) (w : World) (hs : s.size ≤ 140737488351232) (ha : -9223372036854775808 ≤ a ∧ a ≤ 9223372036854775807) :
    Calls Tryd.prog 11 #[.string s, .int .i64 a] w fun e w' => e = .returned (ghV s a) ∧ Below w.heap.size w w' := by
  cases h : stB s a 32 with
  | false => rw [ghV_no h]; exact getHash_no s a w hs ha h
  | true =>
    rw [ghV_yes h]
    obtain ⟨h0, h1⟩ := stB_iff.1 h
    obtain ⟨a, rfl⟩ := Int.eq_ofNat_of_zero_le h0
    exact getHash_yes s a w hs (by omega)

theorem cvH (l : List UInt8) (t : TypeId) (c : Nat) (w : World) : (convert 25 9 (.slice (some ⟨w.heap.size, 0, none⟩) l.length c)).run Tryd.prog (w.alloc (.cells (hv l) t)) = .ok (.string (S l)) (w.alloc (.cells (hv l) t)) := by
  rw [run_convert_bytes_string _ _ _ 5 _ _ _ Tryd.underlying25 Tryd.underlying5 Tryd.underlying9]
  have hl := run_loadCells_list (P := Tryd.prog) (w.alloc (.cells (hv l) t)) ⟨w.heap.size, 0, none⟩ ((l.map fun b => (b.toNat : Int)).map (Value.int .u8)) (fun j v hj => by
    have e : (⟨w.heap.size, 0, none⟩ : Addr).add j = ⟨w.heap.size, j, none⟩ := by simp [Addr.add]; omega
    rw [e, World.cell?_alloc_at _ _ _ _ rfl]
    simpa [hv] using hj)
  rw [List.length_map, List.length_map] at hl
  rw [run_bytesToString _ _ _ _ _ hl, foldl_push, List.map_map]
  have e : (l.map ((fun n : Int => UInt8.ofNat n.toNat) ∘ fun b : UInt8 => (b.toNat : Int))) = l := by
    conv => rhs; rw [← List.map_id l]
    apply List.map_congr_left
    intro x _
    simp
  rw [e]
  simp [S]
set_option maxRecDepth 100000 in
/-- PutHash, for every hash. -/
theorem putHash_any (l : List UInt8) (w : World) (hl : l.length = 32) :
    Calls Tryd.prog 9 #[.agg (hv l)] w fun e w' => e = .returned (.string (S l)) ∧ Below w.heap.size w w' := by
  have hc : ∀ w : World, (convert 25 9 (.slice (some ⟨w.heap.size, 0, none⟩) 32 32)).run Tryd.prog (w.alloc (.cells (hv l) 33)) = .ok (.string (S l)) (w.alloc (.cells (hv l) 33)) := fun w => by
    have := cvH l 33 32 w
    rwa [hl] at this
  have hsz : (hv l).size = 32 := by rw [hv_size, hl]
  generalize hv l = C at *
  go_enter Tryd.func9, Tryd.ntmps9
  go_wp2
  go_ret
  exact ⟨rfl, (Below.refl _ _).alloc (Nat.le_refl _) _⟩
end Go.Proofs.YthefmkmgiblngabDoor
