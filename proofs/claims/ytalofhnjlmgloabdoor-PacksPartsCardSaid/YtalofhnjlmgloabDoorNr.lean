/- The walk of the law PacksParts. -/
import Derived.Test.YtalofhnjlmgloabDoorNh
namespace Go.Proofs.YtalofhnjlmgloabDoor
open Go.RowKit

theorem TextsAt.drop {w : World} {b o n c : Nat} {l : List (List UInt8)} (h : TextsAt w (.slice (some ⟨b, o, none⟩) n c) l) (i : Nat) (hi : i < n) : TextsAt w (.slice (some ⟨b, o + i, none⟩) (n - i) (c - i)) (l.drop i) := by
  obtain ⟨a', c', e, h⟩ := h
  simp at e
  obtain ⟨rfl, rfl, rfl⟩ := e
  refine ⟨_, _, by rw [List.length_drop], fun j s hj => ?_⟩
  rw [List.getElem?_drop] at hj
  obtain ⟨b', o', e', hc⟩ := h (i + j) s hj
  simp at e'
  obtain ⟨rfl, rfl⟩ := e'
  exact ⟨_, _, rfl, by rw [Nat.add_assoc]; exact hc⟩
/-- The later blocks alone are none of any data. -/
theorem blk_later {k e : Int} {d : List UInt8} (h : splitE k e d = 0) {i : Nat} (h0 : 0 < i) (hi : i < cntN d.length) : joinB ((blkL k e d).drop i) k e = false := by
  refine bad_join (i := 0) (b := encL (frP k e d i)) (by rw [List.getElem?_drop]; exact blkL_get hi) fun hg => ?_
  have h4 := hg.2.2.2.1
  rw [(blk_dec h hi).2] at h4
  have : (i : Int) = (0 : Nat) := h4
  omega
set_option maxRecDepth 100000 in
set_option maxHeartbeats 4000000 in
theorem packparts_any (d : List UInt8) (w : World) (hT : Tab w) (hT4 : Tab4 w) :
    Calls Tryd.prog 3 #[.string (S d)] w fun e w' => e = .returned (.bool true) ∧ Below w.heap.size w w' := by
  by_cases hl : 3000 < d.length
  · have hsz : (3000 : Int) < ((S d).size : Int) := by rw [S_size]; omega
    generalize S d = D at *
    go_enter Tryd.func3, Tryd.ntmps3
    go_wp2
    go_ret
    exact ⟨rfl, Below.refl _ _⟩
  have hsz : ¬ (3000 : Int) < ((S d).size : Int) := by rw [S_size]; omega
  have hc : cntN d.length ≤ 65536 := by unfold cntN; split <;> omega
  have hE : splitE 80 9 d = 0 := splitE_ok.2 ⟨hc, by decide⟩
  have hB : splitL 80 9 d = blkL 80 9 d := splitL_ok hE
  have HSp : Hid (∀ w1 : World, Ts w [] w1 → Calls Tryd.prog 5 #[.int .u8 80, .int .i64 9, .string (S d)] w1 fun r w' => ∃ b o c, r = .returned (.tuple #[.slice (some ⟨b, o, none⟩) (cntN d.length) c, .int .i64 0]) ∧ cntN d.length ≤ c ∧ Ts w [(.slice (some ⟨b, o, none⟩) (cntN d.length) c, blkL 80 9 d)] w') := fun w1 h => by
    refine (ts_split h 80 9 d (by omega)).mono fun r w' hh => ?_
    obtain ⟨a, c, rfl, hc, _, ht⟩ := hh
    rw [hE, hB, blkL_length] at *
    obtain ⟨b, o, rfl, _⟩ := ht.head.cell 0 _ (blkL_get (cntN_pos _))
    exact ⟨b, o, c, rfl, hc, ht⟩
  have HJ1 : Hid (∀ (w1 : World) (b o c i : Nat), 0 < i → i < cntN d.length → Ts w [(.slice (some ⟨b, o, none⟩) (cntN d.length) c, blkL 80 9 d)] w1 → Calls Tryd.prog 6 #[.slice (some ⟨b, o, none⟩) i c, .int .u8 80, .int .i64 9] w1 fun r w' => r = .returned (.tuple #[.string (S (d.take (112 * i))), .int .i64 0]) ∧ Ts w [(.slice (some ⟨b, o, none⟩) (cntN d.length) c, blkL 80 9 d)] w') := fun w1 b o c i h0 hi h => by
    have := ts_join h (h.head.take i (by omega)) 80 9 (by rw [List.length_take, blkL_length]; omega)
    obtain ⟨j1, j2⟩ := join_first hE h0 hi
    rwa [(join_yes j1).1, (join_yes j1).2, j2] at this
  have HJ2 : Hid (∀ (w1 : World) (b o c i : Nat), 0 < i → i < cntN d.length → Ts w [(.slice (some ⟨b, o, none⟩) (cntN d.length) c, blkL 80 9 d)] w1 → Calls Tryd.prog 6 #[.slice (some ⟨b, o + i, none⟩) (cntN d.length - i) (c - i), .int .u8 80, .int .i64 9] w1 fun r w' => r = .returned (.tuple #[.string (S (joinL ((blkL 80 9 d).drop i) 80 9)), .int .i64 10]) ∧ Ts w [(.slice (some ⟨b, o, none⟩) (cntN d.length) c, blkL 80 9 d)] w') := fun w1 b o c i h0 hi h => by
    have := ts_join h (h.head.drop i hi) 80 9 (by rw [List.length_drop, blkL_length]; omega)
    rwa [(join_no (blk_later hE h0 hi)).2] at this
  have HDo : Hid (∀ w1, Tab w1 → Tab4 w1 → Calls Tryd.prog 7 #[] w1 fun e w' => e = .returned (.bool true) ∧ Below w1.heap.size w1 w') := fun w1 a b => pdoes_any w1 a b
  have HX0 : Hid (Ts w [] w) := Ts.start hT hT4
  have hpos := cntN_pos d.length
  have HEx : Hid (∀ i : Nat, (S d).extract 0 (112 * i) = S (d.take (112 * i))) := fun i => by rw [S_ext]; simp [cut]
  have HLt : Hid (∀ i, i < cntN d.length → 0 < i → 112 * i < (S d).size) := fun i hi h0 => by rw [S_size]; exact cntN_lt hi h0
  clear hE hB hT hT4 hl
  generalize blkL 80 9 d = L at *
  generalize hC : cntN d.length = C at *
  clear hC
  generalize hD : S d = D at *
  clear hD
  go_enter Tryd.func3, Tryd.ntmps3
  go_wp2_with fail
  refine (HSp.out _ HX0.out).mono ?_
  rintro r w1 ⟨b, o, c, rfl, hcap, ht⟩
  have HX : Hid _ := ht
  clear ht HX0 HSp
  go_wp2
  go_loopw [5] (fun iv wr => ∃ m : Nat, 0 < m ∧ m ≤ C ∧ iv = .int .i64 m ∧ Ts w [(.slice (some ⟨b, o, none⟩) C c, L)] wr) (fun iv _ => C - (intOf iv).toNat)
  case atStart => exact ⟨1, by omega, by omega, rfl, HX.out⟩
  case round =>
    obtain ⟨m, hm0, hm, rfl, hT⟩ := hrel
    by_cases hlt : m < C
    · have hlt2 : (m : Int) < (C : Int) := by omega
      have hmc : (m : Int) ≤ (c : Int) := by omega
      have hmc2 : (m : Int) ≤ (C : Int) := by omega
      have hcc : (C : Int) ≤ (c : Int) := by omega
      have hne : ¬ c = m := by omega
      have hme := HEx.out m
      have hml := HLt.out m hlt hm0
      have HT : Hid _ := hT
      have HC1 : Hid (Calls Tryd.prog 6 #[.slice (some ⟨b, o, none⟩) m c, .int .u8 80, .int .i64 9] wr fun r w' => r = .returned (.tuple #[.string (S (d.take (112 * m))), .int .i64 0]) ∧ Ts w [(.slice (some ⟨b, o, none⟩) C c, L)] w') := HJ1.out wr b o c m hm0 hlt hT
      have HC2 : Hid (∀ w1, Ts w [(.slice (some ⟨b, o, none⟩) C c, L)] w1 → Calls Tryd.prog 6 #[.slice (some ⟨b, o + m, none⟩) (C - m) (c - m), .int .u8 80, .int .i64 9] w1 fun r w' => r = .returned (.tuple #[.string (S (joinL (L.drop m) 80 9)), .int .i64 10]) ∧ Ts w [(.slice (some ⟨b, o, none⟩) C c, L)] w') := fun w1 h => HJ2.out w1 b o c m hm0 hlt h
      clear hT
      generalize S (joinL (L.drop m) 80 9) = J at *
      generalize S (d.take (112 * m)) = A at *
      go_wp2_with fail
      refine HC1.out.mono ?_
      rintro r w2 ⟨rfl, ht⟩
      have HT2 : Hid _ := ht
      clear ht HT HC1
      go_wp2_with fail
      refine (HC2.out _ HT2.out).mono ?_
      rintro r w3 ⟨rfl, ht⟩
      have HT3 : Hid _ := ht
      clear ht HT2 HC2
      go_wp2
      go_roundw
      case rel => exact ⟨m + 1, by omega, by omega, by go_num, HT3.out⟩
      case measure => simp [intOf]; omega
    · obtain rfl : m = C := by omega
      have HT : Hid _ := hT
      clear hT
      have hlt2 : ¬ ((m : Nat) : Int) < (m : Int) := by omega
      have hp2 : (0 : Int) < (m : Int) := by omega
      go_wp2_with fail
      refine (HDo.out _ HT.out.tab HT.out.tab4).mono ?_
      rintro r w2 ⟨rfl, hb⟩
      have HF : Hid _ := (HT.out.next hb).below
      clear hb
      go_wp2
      go_ret
      exact ⟨rfl, HF.out⟩
end Go.Proofs.YtalofhnjlmgloabDoor
