/- The document's own Join (layer 6). -/
import Derived.Test.YtalofhnjlmgloaaDoorNg
import Derived.Test.YtalofhnjlmgloaaDoorNm
import Derived.Test.YtalofhnjlmgloaaDoorJd
namespace Go.Proofs.YtalofhnjlmgloaaDoor
open Go.RowKit

/-- What the document's Join goes through: all blocks are frames'. -/
theorem join_of {L : List (List UInt8)} {k e : Int} : joinB L k e = (decide (splitE k e (dataL L) = 0) && decide (splitL k e (dataL L) = L)) := by
  unfold joinB
  by_cases h : splitE k e (dataL L) = 0
  · rw [splitL_ok h]
  · simp [h]
theorem none_join {L : List (List UInt8)} {k e : Int} {i : Nat} {b : List UInt8} (hb : L[i]? = some b) (h : decB b = false) : joinB L k e = false := bad_join hb (fun hg => by have := hg.1; rw [h] at this; cases this)
set_option maxRecDepth 100000 in
set_option maxHeartbeats 4000000 in
theorem rjoin_any {v : Value} {L : List (List UInt8)} {w : World} (k e : Int) (h : TextsAt w v L) (hT : Tab w) (hT4 : Tab4 w) (hL : L.length ≤ 1000000) :
    Calls Tryd.prog 17 #[v, .int .u8 k, .int .i64 e] w fun r w' => r = .returned (.tuple #[.string (S (joinL L k e)), .int .i64 (joinE L k e)]) ∧ Below w.heap.size w w' := by
  obtain ⟨a, q, rfl, -⟩ := id h
  have HNo : Hid (∀ w', joinB L k e = false → Below w.heap.size w w' → (Ending.returned (.tuple #[.string ⟨#[]⟩, .int .i64 10]) = .returned (.tuple #[.string (S (joinL L k e)), .int .i64 (joinE L k e)]) ∧ Below w.heap.size w w')) := fun w' hj hb => ⟨by rw [(join_no hj).1, (join_no hj).2]; rfl, hb⟩
  have HYes : Hid (∀ w', joinB L k e = true → Below w.heap.size w w' → (Ending.returned (.tuple #[.string (S (dataL L)), .int .i64 0]) = .returned (.tuple #[.string (S (joinL L k e)), .int .i64 (joinE L k e)]) ∧ Below w.heap.size w w')) := fun w' hj hb => ⟨by rw [(join_yes hj).1, (join_yes hj).2], hb⟩
  have HS : Hid (Ts w [(.slice a L.length q, L)] w) := (Ts.start hT hT4).add h
  have HDl : Hid ((dataL L).length ≤ 140737488351232) := by have := dataL_len L; show _ ≤ _; omega
  clear h hT hT4
  go_enter Tryd.func17, Tryd.ntmps17
  go_wp2
  go_loopw [8, 9] (fun dv iv wr => ∃ m : Nat, m ≤ L.length ∧ iv = .int .i64 m ∧ dv = .string (S (dataL (L.take m))) ∧ Ts w [(.slice a L.length q, L)] wr) (fun _ iv _ => L.length - (intOf iv).toNat)
  case atStart => exact ⟨0, Nat.zero_le _, rfl, rfl, HS.out⟩
  case round =>
    obtain ⟨m, hm, rfl, rfl, hJ⟩ := hrel
    by_cases hlt : m < L.length
    · obtain ⟨x, hx⟩ : ∃ x, L[m]? = some x := ⟨_, List.getElem?_eq_getElem hlt⟩
      obtain ⟨b1, o1, rfl, c1⟩ := hJ.head.cell m x hx
      have hlt2 : (m : Int) < (L.length : Int) := by omega
      have HC : Hid ((decE x = 10 ∧ frV (decF x) = .agg #[.int .u8 0, .int .i64 0, .int .i64 0, .string ⟨#[]⟩] ∧ joinB L k e = false) ∨
          (decE x = 0 ∧ ∃ k2 e2 i2 D2, frV (decF x) = .agg #[.int .u8 k2, .int .i64 e2, .int .i64 i2, .string (S D2)] ∧ D2.length ≤ 112 ∧ dataL (L.take (m + 1)) = dataL (L.take m) ++ D2)) := by
        show _ ∨ _
        cases hd : decB x with
        | false => exact .inl ⟨(dec_no hd).2, (dec_no hd).1, none_join hx hd⟩
        | true => exact .inr ⟨decE_ok.2 hd, (decF x).k, (decF x).e, (decF x).i, (decF x).d, rfl, dec_len, dataL_take hx⟩
      have HD2 : Hid (Calls Tryd.prog 27 #[.string (S x)] wr fun e w' => e = .returned (.tuple #[frV (decF x), .int .i64 (decE x)]) ∧ Below wr.heap.size wr w') := rdecode_any x wr hJ.tab hJ.tab4
      have HJ : Hid _ := hJ
      clear hx hJ
      generalize frV (decF x) = V at *
      generalize decE x = N at *
      generalize S x = X at *
      go_wp2_with fail
      refine HD2.out.mono ?_
      rintro e' w2 ⟨rfl, b2⟩
      have HJ2 : Hid _ := HJ.out.next b2
      clear b2 HJ HD2 c1
      rcases HC.out with ⟨hN, hV, hj⟩ | ⟨hN, k2, e2, i2, D2, hV, hd, hd1⟩
      · subst hN hV
        have Hj : Hid _ := hj
        clear hj HC
        have HJ3 : Hid _ := HJ2.out.alloc (.cells #[.int .u8 0, .int .i64 0, .int .i64 0, .string ⟨#[]⟩] 39)
        go_upto_region 6 with fail
        have HF : Hid _ := HNo.out _ Hj.out HJ3.out.below
        generalize w2.alloc _ = W2 at *
        go_wp2
        go_ret2
        exact HF.out
      · subst hN hV
        have Hd1 : Hid _ := hd1
        have HS2 : Hid (S (dataL (L.take m)) ++ S D2 = S (dataL (L.take (m + 1)))) := by show _ = _; rw [Hd1.out, S_app, S_toList]
        have hA1 : (S D2).size ≤ 112 := by rw [S_size]; exact hd
        have hB1 : (S (dataL (L.take m))).size ≤ 112000000 := by
          rw [S_size]
          have := dataL_len (L.take m)
          have h2 : (L.take m).length ≤ m := List.length_take_le _ _
          omega
        clear hd hd1 HC
        generalize S D2 = A at *
        generalize S (dataL (L.take m)) = B at *
        have HY := TS.start2 (k := k2) (e := e2) (i := i2) (D := A) (t := 39) HJ2.out.tab HJ2.out.tab4 HJ2.out.below
        have HJ3 : Hid _ := HJ2.out.alloc (.cells #[.int .u8 k2, .int .i64 e2, .int .i64 i2, .string A] 39)
        go_upto_region 6 with fail
        generalize w2.heap.size = B2 at *
        generalize w2.alloc _ = W2 at *
        have c3 := HY.c3
        clear HY
        go_wp2
        rw [HS2.out]
        go_roundw
        case rel => exact ⟨m + 1, by omega, by go_num, rfl, HJ3.out⟩
        case measure => simp [intOf]; omega
    · obtain rfl : m = L.length := by omega
      rw [List.take_of_length_le (Nat.le_refl _)]
      have hlt2 : ¬ ((L.length : Nat) : Int) < (L.length : Int) := by omega
      have HJ : Hid _ := hJ
      have HSp : Hid (∀ w1 : World, Ts w [(.slice a L.length q, L)] w1 → Calls Tryd.prog 10 #[.int .u8 k, .int .i64 e, .string (S (dataL L))] w1 fun r w' => ∃ a2 c2, r = .returned (.tuple #[.slice a2 (splitL k e (dataL L)).length c2, .int .i64 (splitE k e (dataL L))]) ∧ Ts w [(.slice a2 (splitL k e (dataL L)).length c2, splitL k e (dataL L)), (.slice a L.length q, L)] w') := fun w1 h =>
        (rsplit_any k e (dataL L) w1 h.tab h.tab4 HDl.out).mono fun r w' hh => by
          obtain ⟨v, rfl, ho, hb⟩ := hh
          obtain ⟨a2, c2, rfl⟩ := owns_slice ho
          exact ⟨a2, c2, rfl, (h.next hb).add (texts_of_owns ho).1⟩
      clear hJ
      have HJd : Hid (joinB L k e = (decide (splitE k e (dataL L) = 0) && decide (splitL k e (dataL L) = L))) := join_of
      have HLs : Hid (splitL k e (dataL L) = [] ∨ (splitL k e (dataL L)).length ≤ 65536) := by
        show _ ∨ _
        by_cases h : splitE k e (dataL L) = 0
        · rw [splitL_ok h, blkL_length]; exact .inr (splitE_ok.1 h).1
        · exact .inl (splitL_no h)
      generalize splitL k e (dataL L) = R at *
      generalize splitE k e (dataL L) = M at *
      generalize S (dataL L) = D at *
      by_cases hM : M = 0
      rotate_left
      · have hM2 : (M != 0) = true := by simpa using hM
        have Hj : Hid (joinB L k e = false) := by show _ = _; rw [HJd.out]; simp [hM]
        clear hM
        go_wp2_with fail
        refine (HSp.out _ HJ.out).mono ?_
        rintro r w2 ⟨a2, c2, rfl, ht⟩
        have HF : Hid _ := HNo.out _ Hj.out ht.below
        clear ht
        go_wp2
        go_ret2
        exact HF.out
      subst hM
      by_cases hl : R.length = L.length
      rotate_left
      · have hl2 : ((R.length : Int) != (L.length : Int)) = true := by simp; omega
        have Hj : Hid (joinB L k e = false) := by
          show _ = _; rw [HJd.out]
          have : ¬ R = L := fun e => hl (by rw [e])
          simp [this]
        clear hl
        go_wp2_with fail
        refine (HSp.out _ HJ.out).mono ?_
        rintro r w2 ⟨a2, c2, rfl, ht⟩
        have HF : Hid _ := HNo.out _ Hj.out ht.below
        clear ht
        go_wp2
        go_ret2
        exact HF.out
      have hl2 : ((R.length : Int) != (L.length : Int)) = false := by simp; omega
      go_wp2_with fail
      refine (HSp.out _ HJ.out).mono ?_
      rintro r w2 ⟨a2, c2, rfl, ht⟩
      have HX : Hid _ := ht
      clear ht
      go_wp2
      go_loopw [14] (fun iv wr => ∃ m : Nat, m ≤ L.length ∧ iv = .int .i64 m ∧ R.take m = L.take m ∧ Ts w [(.slice a2 R.length c2, R), (.slice a L.length q, L)] wr) (fun iv _ => L.length - (intOf iv).toNat)
      case atStart => exact ⟨0, Nat.zero_le _, rfl, rfl, HX.out⟩
      case round =>
        obtain ⟨m, hm, rfl, hsame, hT⟩ := hrel
        by_cases hlt : m < L.length
        · obtain ⟨x, hx⟩ : ∃ x, L[m]? = some x := ⟨_, List.getElem?_eq_getElem hlt⟩
          obtain ⟨y, hy⟩ : ∃ y, R[m]? = some y := ⟨_, List.getElem?_eq_getElem (by omega)⟩
          obtain ⟨b1, o1, rfl, c1⟩ := hT.head.cell m y hy
          obtain ⟨b2, o2, rfl, c2⟩ := hT.drop.head.cell m x hx
          have hlt2 : (m : Int) < (R.length : Int) := by omega
          have HT : Hid _ := hT
          by_cases hxy : y = x
          · subst hxy
            have HN : Hid (R.take (m + 1) = L.take (m + 1)) := by show _ = _; rw [List.take_add_one, List.take_add_one, hsame, hx, hy]
            clear hT hx hy hsame
            generalize S y = Y at *
            go_wp2
            go_quiet (fail)
            have HTq : Hid (Ts w [(.slice (some ⟨b1, o1, none⟩) R.length _, R), (.slice (some ⟨b2, o2, none⟩) L.length _, L)] (wr.drewN nq)) := ⟨HT.out.base, below_drewN HT.out.below _, fun v l hv => HT.out.texts v l hv⟩
            generalize wr.drewN nq = wx at *
            go_wp2
            go_roundw
            case rel => exact ⟨m + 1, by omega, by go_num, HN.out, HTq.out⟩
            case measure => simp [intOf]; omega
          · have Hj : Hid (joinB L k e = false) := by
              show _ = _; rw [HJd.out]
              have : ¬ R = L := fun e => hxy (by rw [e, hx] at hy; exact (Option.some.inj hy).symm)
              simp [this]
            have hne := S_ne hxy
            clear hT hx hy hsame hxy
            generalize S y = Y at *
            generalize S x = X at *
            go_wp2
            go_quiet (fail)
            have HF : Hid _ := HNo.out (wr.drewN nq) Hj.out (below_drewN HT.out.below _)
            generalize wr.drewN nq = wx at *
            go_wp2
            go_ret2
            exact HF.out
        · obtain rfl : m = L.length := by omega
          have hRL : R = L := by
            rw [List.take_of_length_le (by omega), List.take_of_length_le (Nat.le_refl _)] at hsame
            exact hsame
          have HF : Hid _ := HYes.out wr (by rw [HJd.out, hRL]; simp) hT.below
          clear hT hsame hRL
          have hlt2 : ¬ ((L.length : Nat) : Int) < (R.length : Int) := by omega
          go_wp2
          go_ret2
          exact HF.out
end Go.Proofs.YtalofhnjlmgloaaDoor
