/- The law RunsTurn (layer 7). -/
import Derived.Test.YtbnfhhjgalphgaaZp
namespace Go.Proofs.Ytbnfhhjgalphgaa
open Go.RowKit

theorem st_turn {st : List Int} {m : Nat} {z : Int} (h : st[m]? = some z) : blankB st m = decide (z = 0) := by unfold blankB; rw [h]; simp
set_option maxRecDepth 100000 in
set_option maxHeartbeats 4000000 in
theorem turn_walk {W : World} {v : Value} {l : List Int} {n : Int} (h : U8At W v l) (hn : 0 ≤ n ∧ n ≤ 65535) : Calls Try.prog 8 #[v, .int .u16 n] W fun e w' => e = .returned (.bool true) ∧ Below W.heap.size W w' := by
  obtain ⟨_, a, q, rfl, _⟩ := id h
  by_cases h2 : 300 < l.length
  · have h3 : (l.length : Int) > 300 := by omega
    clear h
    go_enter Try.func8, Try.ntmps8
    go_wp2_with fail
    refine (does_any _).mono ?_
    rintro e w1 ⟨rfl, b⟩
    have HB : Hid _ := b
    clear b
    go_wp2
    go_ret
    exact ⟨rfl, HB.out⟩
  have h3 : ¬ (l.length : Int) > 300 := by omega
  by_cases h4 : l.length = 0
  · have h5 : (l.length : Int) = 0 := by omega
    clear h h2
    go_enter Try.func8, Try.ntmps8
    go_wp2_with fail
    refine (does_any _).mono ?_
    rintro e w1 ⟨rfl, b⟩
    have HB : Hid _ := b
    clear b
    go_wp2
    go_ret
    exact ⟨rfl, HB.out⟩
  have h5 : ¬ (l.length : Int) = 0 := by omega
  obtain ⟨k, hk⟩ : ∃ k : Nat, n.tmod (l.length : Int) = (k : Int) ∧ k < l.length := by
    have e : n.tmod (l.length : Int) = n % (l.length : Int) := Int.tmod_eq_emod_of_nonneg hn.1
    have e1 := Int.emod_nonneg n h5
    have e2 := Int.emod_lt_of_pos n (by omega : (0 : Int) < (l.length : Int))
    exact ⟨(n % (l.length : Int)).toNat, by rw [e]; omega, by omega⟩
  obtain ⟨hk, hkl⟩ := hk
  have hst : (stL l).length = l.length := stL_length l
  have HU : Hid (U8At W (.slice a l.length q) l) := h
  clear h h4
  go_enter Try.func8, Try.ntmps8
  go_wp2_with fail
  refine (states_rl HU.out (by omega)).mono ?_
  rintro e w1 ⟨sa, sc, rfl, hsc, hN⟩
  have HW : Hid (BW W w1) := ⟨hN.below⟩
  have HN : Hid (Nw W (.slice sa l.length sc) (stL l) w1) := ⟨hN⟩
  have b := Below.refl w1.heap.size w1
  clear hN HU hsc
  clear b
  generalize stL l = st at *
  have HL : Hid (st.length = l.length) := hst
  have hkst : k < st.length := by omega
  have h80 : st.length ≤ 80000 := by omega
  have h30 : st.length ≤ 300 := by omega
  obtain ⟨z, hz⟩ : ∃ z, st[k]? = some z := ⟨_, List.getElem?_eq_getElem hkst⟩
  have HZ : Hid (st[k]? = some z) := hz
  have hbl := st_turn hz
  have HTn : Hid (z = 0 → giveT (freeL st) ⟨k, 1⟩ = none) := fun e => turn_no st (by omega) k hkst (by rw [hbl, e]; rfl)
  have HTs : Hid (¬ z = 0 → giveT (freeL st) ⟨k, 1⟩ = some (freeL (st.set k 0))) := fun e => turn_runs st (by omega) k hkst (by rw [hbl]; simpa using e)
  have hl7 : (st.set k 0).length ≤ 80000 := by rw [List.length_set]; exact h80
  clear hst hz hbl
  obtain ⟨g, rfl, hgw, -⟩ := HN.out.at_ HZ.out
  go_wp2_with fail
  refine (HN.out.free h80).mono ?_
  rintro e w2 ⟨fa, fc, rfl, hF, b⟩
  have HF : Hid _ := hF
  have hb12 := b.size
  clear hF
  have HW : Hid _ := HW.out.below b
  have HN : Hid _ := HN.out.below b
  clear b
  have hw12 : w1.heap.size ≤ w2.heap.size := hb12
  have hFl : (freeL st).length ≤ 400 := Nat.le_trans (free_len st) (by omega)
  have hki : (k : Int) < (l.length : Int) := by omega
  by_cases hz0 : z = 0
  · skip
    have hG := HTn.out hz0
    subst hz0
    clear HTn HTs
    go_wp2_with fail
    refine (give_no ⟨k, 1⟩ HF.out.rl (by omega) (by simp only; omega) (by simp only; omega) hG).mono ?_
    rintro e w3 ⟨rfl, b⟩
    have HW : Hid _ := HW.out.below b
    have HN : Hid _ := HN.out.below b
    have HF : Hid _ := HF.out.below b
    clear b
    obtain ⟨g2, e2, -, c1, -, -⟩ := HN.out.at_ HZ.out
    obtain rfl : g = g2 := by simpa using e2
    clear e2 hG
    go_wp2_with fail
    refine (does_any w3).mono ?_
    rintro e w4 ⟨rfl, b⟩
    have HW : Hid _ := HW.out.below b
    have HN : Hid _ := HN.out.below b
    have HF : Hid _ := HF.out.below b
    clear b
    go_wp2
    go_ret
    exact ⟨rfl, HW.out.h⟩
  have hG := HTs.out hz0
  have HTot : Hid (totL (freeL (st.set k 0)) = totL (freeL st) + 1) := tot_give hG
  have hGl := give_len hG
  clear HTn HTs
  go_wp2_with fail
  refine (give_yb ⟨k, 1⟩ HF.out.rl (by omega) (by simp only; omega) (by simp only; omega) hG).mono ?_
  rintro e w3 ⟨xa, xc, rfl, hX, b⟩
  have HX : Hid _ := hX.mono hw12
  clear hX
  have HW : Hid _ := HW.out.below b
  have HN : Hid _ := HN.out.below b
  have HF : Hid _ := HF.out.below b
  clear b
  obtain ⟨g2, e2, -, c1, f1, hset⟩ := HN.out.at_ HZ.out
  obtain rfl : g = g2 := by simpa using e2
  have HNs : Hid (Nw W (.slice (some ⟨g, 0, none⟩) l.length sc) (st.set k 0) (w3.setCell ⟨g, k, none⟩ (.int .i64 0))) := hset 0
  have HFs : Hid (RB w1.heap.size (w3.setCell ⟨g, k, none⟩ (.int .i64 0)) (.slice fa (freeL st).length fc) (freeL st)) := HF.out.set hgw k _
  have HXs : Hid (RB w1.heap.size (w3.setCell ⟨g, k, none⟩ (.int .i64 0)) (.slice xa (freeL (st.set k 0)).length xc) (freeL (st.set k 0))) := HX.out.set hgw k _
  clear e2 hset hG
  obtain ⟨w4, hw4⟩ : ∃ w4, w3.setCell ⟨g, k, none⟩ (.int .i64 0) = w4 := ⟨_, rfl⟩
  rw [hw4] at HNs HFs HXs
  clear HN HF HX HW
  have HN := HNs
  have HF := HFs
  have HX := HXs
  have HW : Hid (BW W w4) := HNs.out.bw
  clear HNs HFs HXs
  generalize hS : st.set k 0 = s2 at *
  go_wp2_with fail
  clear hw4
  refine (HN.out.free hl7).mono ?_
  rintro e w5 ⟨ya, yc, rfl, hY, b⟩
  have HY : Hid _ := hY.rl
  clear hY
  have HN : Hid _ := HN.out.below b
  have HF : Hid _ := HF.out.below b
  have HX : Hid _ := HX.out.below b
  have HW : Hid _ := HW.out.below b
  clear b
  go_wp2_with fail
  refine (same_rl HX.out.rl HY.out).mono ?_
  rintro e w6 ⟨rfl, b⟩
  rw [sameB_iff.2 rfl]
  have HN : Hid _ := HN.out.below b
  have HF : Hid _ := HF.out.below b
  have HX : Hid _ := HX.out.below b
  have HW : Hid _ := HW.out.below b
  have HY : Hid _ := HY.out.below b
  clear b
  have t1 := tot_fits (l := freeL s2)
  have t2 := tot_fits (l := freeL st)
  have t3 : wrap64 (totL (freeL st) + 1) = totL (freeL st) + 1 := by unfold wrap64; omega
  go_wp2_with fail
  refine (total_rl HX.out.rl).mono ?_
  rintro e w7 ⟨rfl, b⟩
  rw [HTot.out]
  have HN : Hid _ := HN.out.below b
  have HF : Hid _ := HF.out.below b
  have HX : Hid _ := HX.out.below b
  have HW : Hid _ := HW.out.below b
  have HY : Hid _ := HY.out.below b
  clear b
  go_wp2_with fail
  refine (total_rl HF.out.rl).mono ?_
  rintro e w8 ⟨rfl, b⟩
  have HN : Hid _ := HN.out.below b
  have HF : Hid _ := HF.out.below b
  have HX : Hid _ := HX.out.below b
  have HW : Hid _ := HW.out.below b
  have HY : Hid _ := HY.out.below b
  clear b
  go_wp2_with fail
  refine (does_any w8).mono ?_
  rintro e w9 ⟨rfl, b⟩
  have HN : Hid _ := HN.out.below b
  have HF : Hid _ := HF.out.below b
  have HX : Hid _ := HX.out.below b
  have HW : Hid _ := HW.out.below b
  have HY : Hid _ := HY.out.below b
  clear b
  go_wp2
  go_ret
  exact ⟨rfl, HW.out.h⟩
end Go.Proofs.Ytbnfhhjgalphgaa
