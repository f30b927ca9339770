/- The walk of the law WordsCut: of what is cut off nothing is read. -/
import Derived.Test.YthefmkmgiblngaaDoorWe
import Derived.Test.YthefmkmgiblngaaDoorMw
import Derived.Deep.RegionHeld
namespace Go.Proofs.YthefmkmgiblngaaDoor
open Go.RowKit

theorem ext_size (s : ByteArray) (k : Nat) (h : k ≤ s.size) : (s.extract 0 k).size = k := by rw [ByteArray.size_extract]; omega
theorem cut_num (s : ByteArray) (k : Nat) (h : k ≤ s.size) (h8 : k < 8) : getV (s.extract 0 k) 0 8 = .tuple #[.int .i64 0, .int .i64 0, .bool false] := by
  apply getV_no
  unfold getB
  rw [show stB (s.extract 0 k) 0 8 = false from stB_not.2 (by rw [ext_size s k h]; omega)]
  rfl
theorem cut_hash (s : ByteArray) (k : Nat) (h : k ≤ s.size) (h32 : k < 32) : ghV (s.extract 0 k) 0 = .tuple #[.agg (hv (padTo 32 [])), .int .i64 0, .bool false] :=
  ghV_no (stB_not.2 (by rw [ext_size s k h]; omega))
theorem cut_txt (t : List UInt8) (ht : t.length ≤ 65535) (k : Nat) (h : k < (S (putT t)).size) : txtV ((S (putT t)).extract 0 k) 0 = .tuple #[.string (S []), .int .i64 0, .bool false] := by
  have hs : (S (putT t)).size = t.length + 2 := by rw [S_size]; simp [putT]; omega
  have he := ext_size (S (putT t)) k (by omega)
  apply txtV_no
  apply txtB_not
  intro ⟨_, h2, h3⟩
  rw [he] at h2 h3
  have hw : win ((S (putT t)).extract 0 k) 0 2 = bytesOf t.length 2 := by
    unfold win
    rw [Lib.extract_data, S_toList]
    simp only [List.drop_zero, Nat.sub_zero]
    rw [List.take_take, show min 2 k = 2 by omega]
    unfold putT
    rw [List.take_append_of_le_length (by simp), List.take_of_length_le (by simp)]
  have hl : tlen ((S (putT t)).extract 0 k) 0 = t.length := by
    unfold tlen
    rw [hw, numL_bytesOf 2 _ (by omega) (by simp only [Int.reducePow]; omega)]
    simp
  rw [show (0 : Int).toNat = 0 from rfl, hl] at h3
  omega
/-- What stays while the region of two calls is gone through. -/
theorem held_drew {n : Nat} {w w' : World} {cs : List Value} (h : w'.rangeAt n 0 cs ∧ (Tab w' ∧ Below n w w' ∧ n < w'.heap.size)) : w'.drew.rangeAt n 0 cs ∧ (Tab w'.drew ∧ Below n w w'.drew ∧ n < w'.drew.heap.size) :=
  ⟨fun j v hj => h.1 j v hj, h.2.1, h.2.2.1.drew, h.2.2.2⟩
theorem held_alloc {w : World} {C : Array Value} {t : TypeId} (hT : Tab w) : (w.alloc (.cells C t)).rangeAt w.heap.size 0 C.toList ∧ (Tab (w.alloc (.cells C t)) ∧ Below w.heap.size w (w.alloc (.cells C t)) ∧ w.heap.size < (w.alloc (.cells C t)).heap.size) := by
  refine ⟨?_, ?_, ?_, by simp⟩
  · intro j v hj
    rw [Nat.zero_add, World.cell?_alloc_at _ _ _ _ rfl]
    simpa using hj
  · exact hT.below ((Below.refl _ _).alloc (Nat.le_refl _) _)
  · exact (Below.refl _ _).alloc (Nat.le_refl _) _
theorem held_next {n : Nat} {w w' w'' : World} {cs : List Value} (h : w'.rangeAt n 0 cs ∧ (Tab w' ∧ Below n w w' ∧ n < w'.heap.size)) (hb : Below w'.heap.size w' w'') : w''.rangeAt n 0 cs ∧ (Tab w'' ∧ Below n w w'' ∧ n < w''.heap.size) := by
  obtain ⟨h1, h2, h3, h4⟩ := h
  refine ⟨fun j v hj => ?_, h2.below hb, h3.trans (hb.mono (by omega)), by have := hb.size; omega⟩
  rw [hb.cell (p := ⟨n, 0 + j, none⟩) h4]
  exact h1 j v hj

set_option maxRecDepth 100000 in
set_option maxHeartbeats 4000000 in
theorem cut_rest (n : Int) (t : ByteArray) (l : List UInt8) (w : World) (hT : Tab w) (hl : l.length = 32) (hn : n ≤ 9223372036854775807) (h0 : ¬ n < 0) (ht : ¬ (300 : Int) < t.size) :
    Calls Tryd.prog 8 #[.int .i64 n, .string t, .agg (hv l)] w fun e w' => e = .returned (.bool true) ∧ Below w.heap.size w w' := by
  have hsz : (hv l).size = 32 := by rw [hv_size, hl]
  have hu := Tryd.underlying32
  have hin : (Tryd.prog.info? 32).map (·.size) = some (hv l).toList.length := by rw [Array.length_toList, hsz]; exact info_h32
  have HPH : Hid (∀ W, Calls Tryd.prog 20 #[.agg (hv l)] W fun e w' => e = .returned (.string (S l)) ∧ Below W.heap.size W w') := fun W => putHash_any l W hl
  generalize hv l = C at *
  go_enter Tryd.func8, Tryd.ntmps8
  go_wp2_with fail
  refine (putText_yes t _ (hT.below ((Below.refl _ _).alloc (Nat.le_refl _) _)) (by omega)).mono ?_
  rintro e W1 ⟨rfl, b1⟩
  have hS := held_next (held_alloc hT) b1
  go_wp2_with fail
  go_region_held (fun w' => w'.rangeAt w.heap.size 0 C.toList ∧ (Tab w' ∧ Below w.heap.size w w' ∧ w.heap.size < w'.heap.size)) (first | exact held_drew hS | exact held_next (by assumption) (by assumption)) (first | (go_at_call 11; refine (put_any n 8 _ ?_ hn).mono ?_; (first | exact hS.2.1 | exact Tab.below (w := W1.drew) hS.2.1 (by assumption)); rintro e w' ⟨rfl, hb⟩) | (go_at_call 20; refine (HPH.out _).mono ?_; rintro e w' ⟨rfl, hb⟩))
  have hH : w'.rangeAt w.heap.size 0 C.toList ∧ (Tab w' ∧ Below w.heap.size w w' ∧ w.heap.size < w'.heap.size) := by assumption
  obtain ⟨_, T2, hB, hlt⟩ := hH
  have HT2 : Hid (Tab w') := T2
  have hp8 : (S (putL n 8)).size = 8 := by
    rw [S_size]; unfold putL
    rw [show fitB n 8 = true by simp [fitB, lim]; omega]
    show (bytesOf n 8).length = 8
    simp
  have hcN : Hid (∀ k, k < 8 → getV ((S (putL n 8)).extract 0 k) 0 8 = .tuple #[.int .i64 0, .int .i64 0, .bool false]) := fun k hk => cut_num _ k (by omega) hk
  have hcT : Hid (∀ k, k < (S (putT t.data.toList)).size → txtV ((S (putT t.data.toList)).extract 0 k) 0 = .tuple #[.string (S []), .int .i64 0, .bool false]) := fun k hk => cut_txt _ (by show t.size ≤ _; omega) k hk
  have hl32 : (S l).size = 32 := by rw [S_size, hl]
  have hcH : Hid (∀ k, k < 32 → ghV ((S l).extract 0 k) 0 = .tuple #[.agg (hv (padTo 32 [])), .int .i64 0, .bool false]) := fun k hk => cut_hash _ k (by omega) hk
  have hus : (S (putT t.data.toList)).size ≤ 302 := by
    have : t.data.toList.length = t.size := rfl
    rw [S_size]; simp only [List.length_append, putT, bytesOf_length]; omega
  have hone0 : Hid ((hv (padTo 32 [])).all (·.oneCell') = true) := hv_one _
  have hsz0 : Hid ((hv (padTo 32 [])).size = 32) := by show _ = _; rw [hv_size, padTo_length (by decide)]
  have z2 : (hv (padTo 32 [])).size = 32 := by rw [hv_size, padTo_length (by decide)]
  rw [zero_h32] at z2
  have Z2 : Hid _ := z2
  clear z2 hin hu hsz HPH hl hS b1 T2
  generalize hv (padTo 32 []) = Z at *
  generalize S (putL n 8) = p at *
  generalize S (putT t.data.toList) = u at *
  generalize S l = q at *
  go_wp2
  go_loopw [11] (fun i wr => ∃ k : Nat, k ≤ 8 ∧ i = .int .i64 k ∧ Below w.heap.size w wr ∧ Tab wr ∧ w.heap.size ≤ wr.heap.size) (fun i _ => 8 - (intOf i).toNat)
  case atStart => exact ⟨0, Nat.zero_le _, rfl, hB, HT2.out, by omega⟩
  case round =>
    obtain ⟨k, hk, rfl, hBr, hTr, hle⟩ := hrel
    have HTr : Hid (Tab wr) := hTr
    clear hTr HT2 hB hlt
    by_cases hk8 : k < 8
    · have hg := hcN.out k hk8
      have he : (p.extract 0 k).size ≤ 140737488351232 := by rw [ext_size p k (by omega)]; omega
      have hkp : (k : Int) < (p.size : Int) := by omega
      go_wp2_with fail
      refine (get_any _ 0 8 _ HTr.out he (by decide)).mono ?_
      rintro e w2 ⟨rfl, rfl⟩
      clear he
      go_wp2
      go_roundw
      case rel => exact ⟨k + 1, by omega, by go_num, hBr, HTr.out, hle⟩
      case measure => simp [intOf]; omega
    · have hk8i : ¬ (k : Int) < 8 := by omega
      clear hk8
      go_wp2
      obtain ⟨wo, rfl⟩ : ∃ wo : World, wo = wr := ⟨_, rfl⟩
      go_loopw [15] (fun i wr => ∃ k : Nat, k ≤ u.size ∧ i = .int .i64 k ∧ Below w.heap.size w wr ∧ Tab wr ∧ w.heap.size ≤ wr.heap.size) (fun i _ => u.size - (intOf i).toNat)
      case atStart => exact ⟨0, Nat.zero_le _, rfl, hBr, HTr.out, hle⟩
      case round =>
        obtain ⟨k, hk, rfl, hBs, hTs, hls⟩ := hrel
        have HTs : Hid (Tab wr) := hTs
        clear hTs HTr hBr hle
        by_cases hku : k < u.size
        · have hg := hcT.out k hku
          have he : (u.extract 0 k).size ≤ 140737488351232 := by rw [ext_size u k (by omega)]; omega
          go_wp2_with fail
          refine (getText_any _ 0 _ HTs.out he (by decide)).mono ?_
          rintro e w2 ⟨rfl, b2⟩
          have T2 : Hid (Tab w2) := HTs.out.below b2
          have l2 := b2.size
          clear he
          go_wp2
          go_roundw
          case rel => exact ⟨k + 1, by omega, by go_num, hBs.trans (b2.mono hls), T2.out, by omega⟩
          case measure => simp [intOf]; omega
        · obtain rfl : k = u.size := by omega
          go_wp2
          obtain ⟨wp, rfl⟩ : ∃ wp : World, wp = wr := ⟨_, rfl⟩
          go_loopw [19] (fun i wr => ∃ k : Nat, k ≤ 32 ∧ i = .int .i64 k ∧ Below w.heap.size w wr ∧ Tab wr ∧ w.heap.size ≤ wr.heap.size) (fun i _ => 32 - (intOf i).toNat)
          case atStart => exact ⟨0, Nat.zero_le _, rfl, hBs, HTs.out, hls⟩
          case round =>
            obtain ⟨k, hk, rfl, hBt, hTt, hlt'⟩ := hrel
            have HTt : Hid (Tab wr) := hTt
            clear hTt HTs hBs hls
            by_cases hkq : k < 32
            · have hg := hcH.out k hkq
              have he : (q.extract 0 k).size ≤ 140737488351232 := by rw [ext_size q k (by omega)]; omega
              go_wp2_with fail
              refine (getHash_any _ 0 _ he (by decide)).mono ?_
              rintro e w2 ⟨rfl, b2⟩
              have l2 := b2.size
              have b3 : Below w.heap.size w (w2.alloc (.cells Z 32)) := (hBt.trans (b2.mono hlt')).alloc (by omega) _
              have T2 : Hid (Tab (w2.alloc (.cells Z 32))) := (HTt.out.below b2).below ((Below.refl _ _).alloc (Nat.le_refl _) _)
              clear he
              go_wp2_with (refine store_last rfl 32 _ _ rfl 32 _ _ Z rfl rfl info_h32 Z2.out hsz0.out hone0.out ?_)
              go_roundw
              case rel => exact ⟨k + 1, by omega, by go_num, b3, T2.out, by simp; omega⟩
              case measure => simp [intOf]; omega
            · obtain rfl : k = 32 := by omega
              go_wp2_with fail
              refine (does_any _ HTt.out).mono ?_
              rintro e w2 ⟨rfl, b2⟩
              go_wp2
              go_ret
              exact ⟨rfl, hBt.trans (b2.mono hlt')⟩
set_option maxRecDepth 100000 in
theorem cut_short (n : Int) (t : ByteArray) (C : Array Value) (w : World) (hT : Tab w) (h : (300 : Int) < t.size ∨ (¬ (300 : Int) < t.size ∧ n < 0)) :
    Calls Tryd.prog 8 #[.int .i64 n, .string t, .agg C] w fun e w' => e = .returned (.bool true) ∧ Below w.heap.size w w' := by
  have hB : Below w.heap.size w (w.alloc (.cells C 32)) := (Below.refl _ _).alloc (Nat.le_refl _) _
  have T1 : Hid (Tab (w.alloc (.cells C 32))) := hT.below hB
  rcases h with h | ⟨h, h'⟩
  all_goals
    go_enter Tryd.func8, Tryd.ntmps8
    go_wp2_with fail
    refine (does_any _ T1.out).mono ?_
    rintro e w2 ⟨rfl, b2⟩
    go_wp2
    go_ret
    exact ⟨rfl, hB.trans (b2.mono (by simp))⟩
theorem cut_walk (n : Int) (t : ByteArray) (l : List UInt8) (w : World) (hT : Tab w) (hl : l.length = 32) (hn : n ≤ 9223372036854775807) :
    Calls Tryd.prog 8 #[.int .i64 n, .string t, .agg (hv l)] w fun e w' => e = .returned (.bool true) ∧ Below w.heap.size w w' := by
  by_cases h : ¬ n < 0 ∧ ¬ (300 : Int) < t.size
  · exact cut_rest n t l w hT hl hn h.1 h.2
  · exact cut_short n t (hv l) w hT (by omega)
end Go.Proofs.YthefmkmgiblngaaDoor
