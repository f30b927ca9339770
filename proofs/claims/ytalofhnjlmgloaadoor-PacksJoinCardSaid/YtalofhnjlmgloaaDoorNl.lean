/- The law's Great; the walk of the law PacksWay. -/
import Derived.Test.YtalofhnjlmgloaaDoorNh
import Derived.Test.YtalofhnjlmgloaaDoorNj
namespace Go.Proofs.YtalofhnjlmgloaaDoor
open Go.RowKit

/-- Is it more than is gone through? -/
def greatB (L : List (List UInt8)) (m : Int) : Bool := decide (m < (L.length : Int)) || L.any fun s => decide (200 < s.length)
theorem greatB_no {L : List (List UInt8)} {m : Int} (h : greatB L m = false) : (L.length : Int) ≤ m ∧ ∀ s ∈ L, s.length ≤ 200 := by
  unfold greatB at h
  simp only [Bool.or_eq_false_iff, decide_eq_false_iff_not, List.any_eq_false, decide_eq_true_eq] at h
  exact ⟨by omega, fun s hs => by have := h.2 s hs; omega⟩
set_option maxRecDepth 100000 in
set_option maxHeartbeats 1000000 in
theorem great_any {v : Value} {L : List (List UInt8)} {w : World} (m : Int) (h : TextsAt w v L) (hm1 : m ≤ 1000000) (hs : ∀ s ∈ L, s.length ≤ 140737488351232) :
    Calls Tryd.prog 15 #[v, .int .i64 m] w fun e w' => e = .returned (.bool (greatB L m)) ∧ Below w.heap.size w w' := by
  obtain ⟨a, q, rfl, -⟩ := id h
  have HL : Hid _ := h.cellOf.2
  clear h
  by_cases hm : m < (L.length : Int)
  · have hg : Hid (greatB L m = true) := by show _ = _; simp [greatB, hm]
    go_enter Tryd.func15, Tryd.ntmps15
    go_wp2
    go_ret
    exact ⟨ret_bool hg.out.symm, Below.refl _ _⟩
  · have hg : Hid (greatB L m = L.any fun s => decide (200 < s.length)) := by show _ = _; simp [greatB, hm]
    go_enter Tryd.func15, Tryd.ntmps15
    go_wp2
    go_loopw [5] (fun iv wr => ∃ j : Nat, j ≤ L.length ∧ iv = .int .i64 j ∧ (∀ s ∈ L.take j, s.length ≤ 200) ∧ wr = w) (fun iv _ => L.length - (intOf iv).toNat)
    case atStart => exact ⟨0, Nat.zero_le _, rfl, fun s hs => by simp at hs, rfl⟩
    case round =>
      obtain ⟨j, hj, rfl, hno, rfl⟩ := hrel
      by_cases hlt : j < L.length
      · obtain ⟨x, hx⟩ : ∃ x, L[j]? = some x := ⟨_, List.getElem?_eq_getElem hlt⟩
        obtain ⟨b1, o1, rfl, k1⟩ := HL.out j x hx
        have c1 := k1 wr (Below.refl _ _)
        have hlt2 : (j : Int) < (L.length : Int) := by omega
        have hmem : x ∈ L := List.mem_of_getElem? hx
        have hb := hs x hmem
        have hz : ((S x).size : Int) = (x.length : Int) := by rw [S_size]
        by_cases hx2 : 200 < x.length
        · have hA : Hid ((L.any fun s => decide (200 < s.length)) = true) := by
            show _ = _
            rw [List.any_eq_true]
            exact ⟨x, hmem, by simpa using hx2⟩
          have hx3 : (200 : Int) < (x.length : Int) := by omega
          clear hno k1 hx hmem hs HL
          generalize S x = X at *
          go_wp2
          go_ret
          exact ⟨ret_bool (hg.out.trans hA.out).symm, Below.refl _ _⟩
        · have HN : Hid (∀ s ∈ L.take (j + 1), s.length ≤ 200) := fun s hs => by
            rw [List.take_add_one, hx] at hs
            rcases List.mem_append.1 hs with h | h
            · exact hno s h
            · simp at h; rw [h]; omega
          have hx3 : ¬ (200 : Int) < (x.length : Int) := by omega
          clear hno k1 hx hmem
          generalize S x = X at *
          go_wp2
          go_roundw
          case rel => exact ⟨j + 1, by omega, by go_num, HN.out, trivial⟩
          case measure => simp [intOf]; omega
      · obtain rfl : j = L.length := by omega
        have hA : Hid ((L.any fun s => decide (200 < s.length)) = false) := by
          show _ = _
          rw [List.any_eq_false]
          intro s hs
          have := hno s (by rw [List.take_of_length_le (Nat.le_refl _)]; exact hs)
          simp; omega
        clear hno
        have hlt2 : ¬ ((L.length : Nat) : Int) < (L.length : Int) := by omega
        go_wp2
        go_ret
        exact ⟨ret_bool (hg.out.trans hA.out).symm, Below.refl _ _⟩
set_option maxRecDepth 100000 in
set_option maxHeartbeats 4000000 in
theorem packway_any {v : Value} {L : List (List UInt8)} (k n : Int) {w : World} (h : TextsAt w v L) (hs : ∀ s ∈ L, s.length ≤ 140737488351232) (hT : Tab w) (hT4 : Tab4 w) :
    Calls Tryd.prog 6 #[v, .int .u8 k, .int .i64 n] w fun e w' => e = .returned (.bool true) ∧ Below w.heap.size w w' := by
  have HGr : Hid (Calls Tryd.prog 15 #[v, .int .i64 30] w fun e w' => e = .returned (.bool (greatB L 30)) ∧ Below w.heap.size w w') := great_any 30 h (by omega) hs
  have HDo : Hid (∀ w1, Tab w1 → Tab4 w1 → Calls Tryd.prog 14 #[] w1 fun e w' => e = .returned (.bool true) ∧ Below w1.heap.size w1 w') := fun w1 a b => pdoes_any w1 a b
  have HX0 : Hid (Ts w [(v, L)] w) := (Ts.start hT hT4).add h
  obtain ⟨a, c, rfl, -⟩ := id h
  clear h hT hT4
  cases hg : greatB L 30 with
  | true =>
    rw [hg] at HGr
    go_enter Tryd.func6, Tryd.ntmps6
    go_wp2_with fail
    refine HGr.out.mono ?_
    rintro r w1 ⟨rfl, b1⟩
    have HB : Hid _ := b1
    clear b1
    go_wp2
    go_ret
    exact ⟨rfl, HB.out⟩
  | false =>
    rw [hg] at HGr
    obtain ⟨h30, h200⟩ := greatB_no hg
    have HJ : Hid (∀ w1 : World, Ts w [(.slice a L.length c, L)] w1 → Calls Tryd.prog 16 #[.slice a L.length c, .int .u8 k, .int .i64 n] w1 fun r w' => r = .returned (.tuple #[.string (S (joinL L k n)), .int .i64 (joinE L k n)]) ∧ Ts w [(.slice a L.length c, L)] w') := fun w1 h => ts_join h h.head k n (by omega)
    cases hj : joinB L k n with
    | false =>
      have HJ' : Hid (∀ w1 : World, Ts w [(.slice a L.length c, L)] w1 → Calls Tryd.prog 16 #[.slice a L.length c, .int .u8 k, .int .i64 n] w1 fun r w' => r = .returned (.tuple #[.string ⟨#[]⟩, .int .i64 10]) ∧ Ts w [(.slice a L.length c, L)] w') := fun w1 h => by
        have := HJ.out w1 h
        rw [(join_no hj).1, (join_no hj).2] at this
        exact this
      clear hg h30 h200 hj HJ
      go_enter Tryd.func6, Tryd.ntmps6
      go_wp2_with fail
      refine HGr.out.mono ?_
      rintro r w1 ⟨rfl, b1⟩
      have HX : Hid _ := HX0.out.next b1
      clear b1
      go_wp2_with fail
      refine (HJ'.out _ HX.out).mono ?_
      rintro r w2 ⟨rfl, ht⟩
      have HX : Hid _ := ht
      clear ht
      go_wp2_with fail
      refine (HDo.out _ HX.out.tab HX.out.tab4).mono ?_
      rintro r w3 ⟨rfl, hb⟩
      have HF : Hid _ := (HX.out.next hb).below
      clear hb
      go_wp2
      go_ret
      exact ⟨rfl, HF.out⟩
    | true =>
      have hlen : (dataL L).length ≤ 140737488351232 := by have := dataL_len L; omega
      have HJ' : Hid (∀ w1 : World, Ts w [(.slice a L.length c, L)] w1 → Calls Tryd.prog 16 #[.slice a L.length c, .int .u8 k, .int .i64 n] w1 fun r w' => r = .returned (.tuple #[.string (S (dataL L)), .int .i64 0]) ∧ Ts w [(.slice a L.length c, L)] w') := fun w1 h => by
        have := HJ.out w1 h
        rw [(join_yes hj).1, (join_yes hj).2] at this
        exact this
      have HSp : Hid (∀ w1 : World, Ts w [(.slice a L.length c, L)] w1 → Calls Tryd.prog 9 #[.int .u8 k, .int .i64 n, .string (S (dataL L))] w1 fun r w' => ∃ a2 c2, r = .returned (.tuple #[.slice a2 L.length c2, .int .i64 0]) ∧ Ts w [(.slice a2 L.length c2, L), (.slice a L.length c, L)] w') := fun w1 h => by
        refine (ts_split h k n (dataL L) hlen).mono fun r w' hh => ?_
        obtain ⟨a2, c2, rfl, _, _, ht⟩ := hh
        rw [(split_join hj).1, (split_join hj).2] at *
        exact ⟨a2, c2, rfl, ht⟩
      have hne : ((L.length : Int) != (L.length : Int)) = false := by simp
      have h30' : L.length ≤ 30 := by omega
      clear hg h30 h200 hj HJ hlen hs
      generalize S (dataL L) = A at *
      go_enter Tryd.func6, Tryd.ntmps6
      go_wp2_with fail
      refine HGr.out.mono ?_
      rintro r w1 ⟨rfl, b1⟩
      have HX : Hid _ := HX0.out.next b1
      clear b1
      go_wp2_with fail
      refine (HJ'.out _ HX.out).mono ?_
      rintro r w2 ⟨rfl, ht⟩
      have HX : Hid _ := ht
      clear ht
      go_wp2_with fail
      refine (HSp.out _ HX.out).mono ?_
      rintro r w3 ⟨a2, c2, rfl, ht⟩
      have HX : Hid _ := ht
      clear ht
      go_wp2
      go_loopw [11] (fun iv wr => ∃ m : Nat, m ≤ L.length ∧ iv = .int .i64 m ∧ Ts w [(.slice a2 L.length c2, L), (.slice a L.length c, L)] wr) (fun iv _ => L.length - (intOf iv).toNat)
      case atStart => exact ⟨0, Nat.zero_le _, rfl, HX.out⟩
      case round =>
        obtain ⟨m, hm, rfl, hT⟩ := hrel
        by_cases hlt : m < L.length
        · obtain ⟨x, hx⟩ : ∃ x, L[m]? = some x := ⟨_, List.getElem?_eq_getElem hlt⟩
          obtain ⟨b1, o1, rfl, c1⟩ := hT.head.cell m x hx
          obtain ⟨b2, o2, rfl, c2⟩ := hT.drop.head.cell m x hx
          have hlt2 : (m : Int) < (L.length : Int) := by omega
          have HT : Hid _ := hT
          clear hT hx
          generalize S x = X at *
          go_wp2
          go_quiet (fail)
          have HTq : Hid (Ts w [(.slice (some ⟨b1, o1, none⟩) L.length _, L), (.slice (some ⟨b2, o2, none⟩) L.length _, L)] (wr.drewN nq)) := ⟨HT.out.base, below_drewN HT.out.below _, fun v l hv => HT.out.texts v l hv⟩
          generalize wr.drewN nq = wx at *
          go_wp2
          go_roundw
          case rel => exact ⟨m + 1, by omega, by go_num, HTq.out⟩
          case measure => simp [intOf]; omega
        · obtain rfl : m = L.length := by omega
          have HT : Hid _ := hT
          clear hT
          have hlt2 : ¬ ((L.length : Nat) : Int) < (L.length : Int) := by omega
          go_wp2_with fail
          refine (HDo.out _ HT.out.tab HT.out.tab4).mono ?_
          rintro r w4 ⟨rfl, hb⟩
          have HF : Hid _ := (HT.out.next hb).below
          clear hb
          go_wp2
          go_ret
          exact ⟨rfl, HF.out⟩
end Go.Proofs.YtalofhnjlmgloaaDoor
