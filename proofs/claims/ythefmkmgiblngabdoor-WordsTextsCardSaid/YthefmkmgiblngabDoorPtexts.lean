/- The walk of the law WordsTexts: texts that are put one behind the other are read one behind the other, up to the end. -/
import Derived.Test.YthefmkmgiblngabDoorWe
import Derived.Test.YthefmkmgiblngabDoorMw
import Derived.Test.YthefmkmgiblngabDoorOs
namespace Go.Proofs.YthefmkmgiblngabDoor
open Go.RowKit

/-- Texts, put one behind the other. -/
def catT (l : List ByteArray) : List UInt8 := l.flatMap fun s => putT s.data.toList
theorem catT_nil : catT [] = [] := rfl
theorem catT_succ (ss : List ByteArray) (k : Nat) (h : k < ss.length) : catT (ss.take (k + 1)) = catT (ss.take k) ++ putT (ss.getD k ByteArray.empty).data.toList := by
  unfold catT
  rw [List.take_add_one, List.getElem?_eq_getElem h, List.flatMap_append]
  congr 1
  simp [List.getD, List.getElem?_eq_getElem h]
theorem catT_split (ss : List ByteArray) (n k : Nat) (hk : k < n) (h : n ≤ ss.length) : ∃ B, catT (ss.take n) = catT (ss.take k) ++ putT (ss.getD k ByteArray.empty).data.toList ++ B := by
  refine ⟨catT ((ss.take n).drop (k + 1)), ?_⟩
  rw [← catT_succ ss k (by omega)]
  have e : ss.take n = ss.take (k + 1) ++ (ss.take n).drop (k + 1) := by
    conv => lhs; rw [← List.take_append_drop (k + 1) (ss.take n)]
    rw [List.take_take, show min (k + 1) n = k + 1 by omega]
  conv => lhs; rw [e]
  simp [catT]
theorem catT_len (ss : List ByteArray) (k : Nat) (h : k ≤ ss.length) (hs : ∀ j, j < k → (ss.getD j ByteArray.empty).size ≤ 200) : (catT (ss.take k)).length ≤ 202 * k := by
  induction k with
  | zero => simp [catT]
  | succ k ih =>
    rw [catT_succ ss k (by omega)]
    have h1 := ih (by omega) (fun j hj => hs j (by omega))
    have h2 := hs k (by omega)
    have h3 : (ss.getD k ByteArray.empty).data.toList.length = (ss.getD k ByteArray.empty).size := rfl
    simp only [List.length_append, putT, bytesOf_length]
    omega

set_option maxRecDepth 100000 in
set_option maxHeartbeats 1600000 in
theorem texts_walk (b off len cap : Nat) (ss : List ByteArray) (w : World) (hT : Tab w) (hl : len ≤ 30) (hss : len ≤ ss.length)
    (hc : ∀ i, i < len → w.cell? ⟨b, off + i, none⟩ = some (.string (ss.getD i ByteArray.empty))) (hm : ∀ i, i < len → (ss.getD i ByteArray.empty).size ≤ 9223372036854775807) (ao : Option Addr) (hao : 0 < len → ao = some ⟨b, off, none⟩) :
    Calls Tryd.prog 5 #[.slice ao len cap] w fun e w' => e = .returned (.bool true) ∧ Below w.heap.size w w' := by
  have hnl : ¬ (30 : Int) < (len : Int) := by omega
  have hbw : 0 < len → b < w.heap.size := fun h => block_lt_of_cell (hc 0 h)
  go_enter Tryd.func5, Tryd.ntmps5
  go_wp2
  go_loopw [3, 4] (fun s i wr => ∃ k : Nat, k ≤ len ∧ i = .int .i64 k ∧ s = .string (S (catT (ss.take k))) ∧ (∀ j, j < k → (ss.getD j ByteArray.empty).size ≤ 200) ∧ Below w.heap.size w wr) (fun _ i _ => len - (intOf i).toNat)
  case atStart => exact ⟨0, Nat.zero_le _, rfl, rfl, fun _ h => by omega, Below.refl _ _⟩
  case round =>
    obtain ⟨k, hk, rfl, rfl, hall, hb⟩ := hrel
    have hcl := catT_len ss k (by omega) hall
    by_cases hlt : k < len
    · have hcx : wr.cell? ⟨b, off + k, none⟩ = some (.string (ss.getD k ByteArray.empty)) := (hb.cell (by exact hbw (by omega))).trans (hc k hlt)
      have hmx := hm k hlt
      obtain rfl := hao (by omega)
      have HS : Hid (S (catT (ss.take k)) ++ S (putT (ss.getD k ByteArray.empty).data.toList) = S (catT (ss.take (k + 1)))) := by show _ = _; rw [S_append, catT_succ ss k (by omega)]
      have HA : Hid (∀ j, j < k → (ss.getD j ByteArray.empty).size ≤ 200) := hall
      have hsz : (S (catT (ss.take k))).size ≤ 202 * 30 := by rw [S_size]; omega
      obtain ⟨x, hx⟩ : ∃ x, x = ss.getD k ByteArray.empty := ⟨_, rfl⟩
      rw [← hx] at hcx hmx HS
      have HX : Hid (x = ss.getD k ByteArray.empty) := hx
      have HT : Hid (Tab wr) := hT.below hb
      clear hx hall hc hm hao hcl
      generalize S (catT (ss.take k)) = A at *
      by_cases h200 : x.size ≤ 200
      · have hn2 : ¬ (200 : Int) < (x.size : Int) := by omega
        have hps : (S (putT x.data.toList)).size = x.size + 2 := by
          have : x.data.toList.length = x.size := rfl
          rw [S_size]; simp only [List.length_append, putT, bytesOf_length]; omega
        have d2 : ((((S (putT x.data.toList)).size : Nat) : Int) != (x.size : Int) + 2) = false := by rw [hps]; simp
        go_wp2_with fail
        refine (putText_yes x _ HT.out (by omega)).mono ?_
        rintro e w1 ⟨rfl, b1⟩
        have c1 := b1.cell (p := ⟨b, off + k, none⟩) (by have := hb.size; have := hbw (by omega); show b < _; omega)
        rw [hcx] at c1
        have hbb : Below w.heap.size w w1 := hb.trans (b1.mono hb.size)
        clear hcx
        generalize S (putT x.data.toList) = p at *
        have hsum : ¬ A.size + p.size > 9223372036854775807 := by omega
        have HPS : Hid (p.size = x.size + 2) := hps
        clear hps
        go_wp2
        go_roundw
        case rel => exact ⟨k + 1, by omega, by go_num, by rw [HS.out], fun j hj => by
          by_cases e : j = k
          · subst e; rw [← HX.out]; exact h200
          · exact HA.out j (by omega), hbb⟩
        case measure => simp [intOf]; omega
      · have hn2 : (200 : Int) < (x.size : Int) := by omega
        go_wp2
        go_ret
        exact ⟨rfl, hb⟩
    · obtain rfl : k = len := by omega
      have HA : Hid (∀ j, j < k → (ss.getD j ByteArray.empty).size ≤ 200) := hall
      have HC : Hid (∀ i, i < k → w.cell? ⟨b, off + i, none⟩ = some (.string (ss.getD i ByteArray.empty))) := hc
      have HAO : Hid (0 < k → ao = some ⟨b, off, none⟩) := hao
      have hsz : (S (catT (ss.take k))).size ≤ 202 * 30 := by rw [S_size]; omega
      clear hall hc hm hao hcl
      go_wp2
      obtain ⟨wo, rfl⟩ : ∃ wo : World, wo = wr := ⟨_, rfl⟩
      go_loopw [7, 8] (fun a i wr => ∃ j : Nat, j ≤ k ∧ i = .int .i64 j ∧ a = .int .i64 (catT (ss.take j)).length ∧ Below w.heap.size w wr) (fun _ i _ => k - (intOf i).toNat)
      case atStart => exact ⟨0, Nat.zero_le _, rfl, rfl, hb⟩
      case round =>
        obtain ⟨j, hj, rfl, rfl, hb2⟩ := hrel
        by_cases hlt2 : j < k
        · have hcx : wr.cell? ⟨b, off + j, none⟩ = some (.string (ss.getD j ByteArray.empty)) := (hb2.cell (by exact hbw (by omega))).trans (HC.out j hlt2)
          obtain rfl := HAO.out (by omega)
          have h200 := HA.out j hlt2
          obtain ⟨B, hB⟩ := catT_split ss k j hlt2 hss
          have hv := txt_at (catT (ss.take j)) (ss.getD j ByteArray.empty).data.toList B (by show (ss.getD j ByteArray.empty).size ≤ _; omega)
          rw [← hB, S_data] at hv
          have HL : Hid ((catT (ss.take (j + 1))).length = (catT (ss.take j)).length + 2 + (ss.getD j ByteArray.empty).size) := by
            show _ = _
            have : (ss.getD j ByteArray.empty).data.toList.length = (ss.getD j ByteArray.empty).size := rfl
            rw [catT_succ ss j (by omega)]; simp only [List.length_append, putT, bytesOf_length]; omega
          rw [show (ss.getD j ByteArray.empty).data.toList.length = (ss.getD j ByteArray.empty).size from rfl] at hv
          have hlj := catT_len ss j (by omega) (fun i hi => HA.out i (by omega))
          have HT : Hid (Tab wr) := hT.below hb2
          generalize (catT (ss.take j)).length = a at *
          generalize S (catT (ss.take k)) = A at *
          obtain ⟨x, hx⟩ : ∃ x, x = ss.getD j ByteArray.empty := ⟨_, rfl⟩
          rw [← hx] at hcx hv HL h200
          clear hx hB
          go_wp2_with fail
          refine (getText_any A a _ HT.out (by omega) (by omega)).mono ?_
          rintro e w1 ⟨rfl, b1⟩
          have c1 := b1.cell (p := ⟨b, off + j, none⟩) (by have := hb2.size; have := hbw (by omega); show b < _; omega)
          rw [hcx] at c1
          have hbb : Below w.heap.size w w1 := hb2.trans (b1.mono hb2.size)
          clear hcx
          go_wp2
          go_roundw
          case rel => exact ⟨j + 1, by omega, by go_num, by rw [HL.out]; go_num, hbb⟩
          case measure => simp [intOf]; omega
        · obtain rfl : j = k := by omega
          have d3 : ((((catT (ss.take j)).length : Nat) : Int) == ((S (catT (ss.take j))).size : Int)) = true := by simp
          have HT : Hid (Tab wr) := hT.below hb2
          generalize (catT (ss.take j)).length = a at *
          generalize S (catT (ss.take j)) = A at *
          go_wp2_with fail
          refine (does_any _ HT.out).mono ?_
          rintro e w1 ⟨rfl, b1⟩
          go_wp2
          go_ret
          exact ⟨rfl, hb2.trans (b1.mono hb2.size)⟩
set_option maxRecDepth 100000 in
theorem texts_many (a : Option Addr) (len cap : Nat) (w : World) (h : 30 < len) :
    Calls Tryd.prog 5 #[.slice a len cap] w fun e w' => e = .returned (.bool true) ∧ Below w.heap.size w w' := by
  have hnl : (30 : Int) < (len : Int) := by omega
  go_enter Tryd.func5, Tryd.ntmps5
  go_wp2
  go_ret
  exact ⟨rfl, Below.refl _ _⟩
theorem textslaw_walk (a : Option Addr) (len cap : Nat) (ss : List ByteArray) (w : World) (hT : Tab w) (h : IsStrs w a len ss) :
    Calls Tryd.prog 5 #[.slice a len cap] w fun e w' => e = .returned (.bool true) ∧ Below w.heap.size w w' := by
  by_cases hl : len ≤ 30
  · by_cases h0 : 0 < len
    · obtain ⟨b, off, ha, hc⟩ := h.at0 h0
      exact texts_walk b off len cap ss w hT hl h.enough hc h.small a (fun _ => ha)
    · exact texts_walk 0 0 len cap ss w hT hl h.enough (fun i hi => by omega) h.small a (fun hh => by omega)
  · exact texts_many a len cap w (by omega)
end Go.Proofs.YthefmkmgiblngabDoor
