/- The law DeviceFail holds: at every input it returns true, and its arguments read as before. -/
import Derived.Test.YthlaackalmgfnaaFg7
import Derived.Test.YthlaackalmgfnaaRows
import Derived.Test.YthlaackalmgfnaaChecked
import Derived.ProofKit
import Derived.OpenShut
import Derived.ShutString
import Derived.ChangeOld
import Derived.SizedLaws
import Derived.Deep.DeepHandedRow
import Derived.Lib.LaidTab
import Derived.Test.YthlaackalmgfnaaEe
/- The law DeviceFail, walked. -/
namespace Go.Proofs.Ythlaackalmgfnaa
open Go.RowKit

set_option linter.unusedSimpArgs false in
set_option maxRecDepth 100000 in
set_option maxHeartbeats 12800000 in
theorem fail_law {w : World} {a a' : Option Addr} {xs ys : List DoX} (h : DosAt w a xs) (h' : DosAt w a' ys) (c c' n n2 : Nat) (hn : n < 256) (hn2 : n2 < 256) {ka : Option Addr} {kc : Nat} {k : List Int} (hk : IntsAt w (.slice ka k.length kc) k) : Calls Try.prog 7 #[.agg #[.slice a xs.length c, .slice a' ys.length c'], .agg #[.int .u8 (n : Int), .int .u8 (n2 : Int)], .slice ka k.length kc] w fun e w' => e = .returned (.bool true) ∧ Below w.heap.size w w' := by
  obtain ⟨W0, hW0⟩ : ∃ W0, (w.alloc (.cells #[.slice a xs.length c, .slice a' ys.length c'] 64)).alloc (.cells #[.int .u8 (n : Int), .int .u8 (n2 : Int)] 76) = W0 := ⟨_, rfl⟩
  have hB0 : Below w.heap.size w W0 := by rw [← hW0]; exact ((Below.refl _ _).alloc (Nat.le_refl _) _).alloc (by simp) _
  have hG0 : W0.heap[w.heap.size]? = some (.cells #[.slice a xs.length c, .slice a' ys.length c'] 64 (0, 0)) := by rw [← hW0, Below.heap_alloc _ _ _ (by simp)]; exact heap_alloc_last _ _
  have hG1 : W0.heap[w.heap.size + 1]? = some (.cells #[.int .u8 (n : Int), .int .u8 (n2 : Int)] 76 (0, 0)) := by
    rw [← hW0]
    have := heap_alloc_last (w.alloc (.cells #[.slice a xs.length c, .slice a' ys.length c'] 64)) (.cells #[.int .u8 (n : Int), .int .u8 (n2 : Int)] 76)
    simpa using this
  have HG : Hid (∀ wr, Below W0.heap.size W0 wr → wr.cell? ⟨w.heap.size, 0, none⟩ = some (.slice a xs.length c) ∧ wr.cell? ⟨w.heap.size, 1, none⟩ = some (.slice a' ys.length c') ∧ wr.cell? ⟨w.heap.size + 1, 0, none⟩ = some (.int .u8 (n : Int)) ∧ wr.cell? ⟨w.heap.size + 1, 1, none⟩ = some (.int .u8 (n2 : Int))) := fun wr hb => by
    have e : wr.heap[w.heap.size]? = some (.cells #[.slice a xs.length c, .slice a' ys.length c'] 64 (0, 0)) := by rw [hb.block _ (row_lt hG0)]; exact hG0
    have e2 : wr.heap[w.heap.size + 1]? = some (.cells #[.int .u8 (n : Int), .int .u8 (n2 : Int)] 76 (0, 0)) := by rw [hb.block _ (row_lt hG1)]; exact hG1
    exact ⟨by rw [cell_of_row _ _ _ _ _ _ e]; rfl, by rw [cell_of_row _ _ _ _ _ _ e]; rfl, by rw [cell_of_row _ _ _ _ _ _ e2]; rfl, by rw [cell_of_row _ _ _ _ _ _ e2]; rfl⟩
  have HMu : Hid (Calls Try.prog 9 #[.slice a xs.length c, .int .i64 60] W0 fun e w' => e = .returned (.bool (muchD xs 60)) ∧ w' = W0) := much_any (h.below hB0) c 60 (by omega)
  have HMu2 : Hid (Calls Try.prog 9 #[.slice a' ys.length c', .int .i64 60] W0 fun e w' => e = .returned (.bool (muchD ys 60)) ∧ w' = W0) := much_any (h'.below hB0) c' 60 (by omega)
  have HX : Hid (DosAt W0 a xs) := h.below hB0
  have HY : Hid (DosAt W0 a' ys) := h'.below hB0
  have HK : Hid (IntsAt W0 (.slice ka k.length kc) k) := hk.below hB0
  have HB0 : Hid (Below w.heap.size w W0) := hB0
  have HW0 : Hid _ := hW0
  obtain ⟨c0, c1, c2, c3⟩ := HG.out W0 (Below.refl _ _)
  clear h h' hk hB0 hG0 hG1 hW0
  go_enter Try.func7, Try.ntmps7
  go_wp2_with fail
  rw [HW0.out]
  refine Calls.mono HMu.out ?_
  rintro e w' ⟨rfl, rfl⟩
  clear HMu HW0
  cases hm1 : muchD xs 60 with
  | true =>
    clear hm1 HX HY HK HG HMu2
    go_wp2
    go_ret
    exact ⟨rfl, HB0.out⟩
  | false =>
    obtain ⟨hl, hm, hmx⟩ := much_parts hm1
    have HM : Hid (xs.any muchB = false) := hm
    clear hm1 hm hmx
    go_wp2_with fail
    refine Calls.mono HMu2.out ?_
    rintro e w0 ⟨rfl, rfl⟩
    clear HMu2
    cases hm2 : muchD ys 60 with
    | true =>
      clear hm2 HX HY HK HG
      go_wp2
      go_ret
      exact ⟨rfl, HB0.out⟩
    | false =>
      obtain ⟨hl2, -, hmy⟩ := much_parts hm2
      have HMY : Hid (∀ x ∈ ys, x.k.length ≤ 100) := fun x hx => (hmy x hx).2
      clear hm2 hmy
      by_cases hkl : 100 < k.length
      · have hkl2 : (100 : Int) < (k.length : Int) := by omega
        clear HX HY HK HG
        go_wp2
        go_ret
        exact ⟨rfl, HB0.out⟩
      · have hkl2 : ¬ (100 : Int) < (k.length : Int) := by omega
        obtain ⟨f1, f2⟩ := afterD_few n xs
        have hwf := afterD_wf n xs
        have hup := afterD_up n xs
        obtain ⟨D0, hD0⟩ : ∃ D0, afterD n xs = D0 := ⟨_, rfl⟩
        rw [hD0] at f1 f2 hwf hup
        have HA : Hid (afterD n xs = D0) := hD0
        have HWf : Hid (Wf D0 ∧ D0.up = true) := ⟨hwf, hup⟩
        clear hD0 hwf
        have HAf : Hid (∀ ds wr, Sys w0 ds [] [] [] wr → Calls Try.prog 28 #[.int .u8 (n : Int), .slice a xs.length c] wr fun e w' => ∃ p, e = .returned (.pointer (some ⟨p, 0, none⟩)) ∧ Sys w0 (ds ++ [(p, D0)]) [] [] [] w') := fun ds wr h => by
          have := sys_after h HX.out c n hn (by omega) HM.out
          rw [HA.out] at this
          exact this
        have HS0 : Hid (Sys w0 [] [] [] [] w0.drew) := (Sys.nil w0).below (Below.refl _ _).drew
        go_upto_region 3 with fail
        go_cut [7, 8] (fun s1 s2 wx => ∃ p1 p2, s1 = .pointer (some ⟨p1, 0, none⟩) ∧ s2 = .pointer (some ⟨p2, 0, none⟩) ∧ Sys w0 [(p1, D0), (p2, D0)] [] [] [] wx)
        case first =>
          refine wp_region_held (S := fun w' => Below w0.heap.size w0 w') (by kernel_rfl) ?_
          change wpAnyH _ _ _ _ _ _ _ _ (World.drew _)
          have HBd : Below w0.heap.size w0 w0.drew := (Below.refl _ _).drew
          clear c0 c1 c2 c3
          generalize w0.drew = W9 at *
          refine wpAnyH_take (i := 0) (v := .pointer (some ⟨w.heap.size + 1, 0, none⟩)) rfl (by kernel_rfl) (by kernel_rfl) (by kernel_rfl) (fun _ _ _ h => h) (Or.inl ⟨by first | rfl | kernel_rfl, by intro w hw; obtain ⟨hw1, hw2, hw3, hw4⟩ := HG.out w hw; go_simp⟩) HBd ?_
          simp only [List.getElem_toArray, List.getElem_cons_succ, List.getElem_cons_zero, Act.put, List.setIfInBounds_toArray, List.set_cons_zero, List.set_cons_succ]
          refine wpAnyH_take (i := 1) (v := .int .u8 (n : Int)) rfl (by kernel_rfl) (by kernel_rfl) (by kernel_rfl) (fun _ _ _ h => h) (Or.inl ⟨by first | rfl | kernel_rfl, by intro w hw; obtain ⟨hw1, hw2, hw3, hw4⟩ := HG.out w hw; go_simp⟩) HBd ?_
          simp only [List.getElem_toArray, List.getElem_cons_succ, List.getElem_cons_zero, Act.put, List.setIfInBounds_toArray, List.set_cons_zero, List.set_cons_succ]
          refine wpAnyH_take (i := 2) (v := .pointer (some ⟨w.heap.size, 0, none⟩)) rfl (by kernel_rfl) (by kernel_rfl) (by kernel_rfl) (fun _ _ _ h => h) (Or.inl ⟨by first | rfl | kernel_rfl, by intro w hw; obtain ⟨hw1, hw2, hw3, hw4⟩ := HG.out w hw; go_simp⟩) HBd ?_
          simp only [List.getElem_toArray, List.getElem_cons_succ, List.getElem_cons_zero, Act.put, List.setIfInBounds_toArray, List.set_cons_zero, List.set_cons_succ]
          refine wpAnyH_take (i := 3) (v := .slice a xs.length c) rfl (by kernel_rfl) (by kernel_rfl) (by kernel_rfl) (fun _ _ _ h => h) (Or.inl ⟨by first | rfl | kernel_rfl, by intro w hw; obtain ⟨hw1, hw2, hw3, hw4⟩ := HG.out w hw; go_simp⟩) HBd ?_
          simp only [List.getElem_toArray, List.getElem_cons_succ, List.getElem_cons_zero, Act.put, List.setIfInBounds_toArray, List.set_cons_zero, List.set_cons_succ]
          refine wpAnyH_take (i := 5) (v := .pointer (some ⟨w.heap.size + 1, 0, none⟩)) rfl (by kernel_rfl) (by kernel_rfl) (by kernel_rfl) (fun _ _ _ h => h) (Or.inl ⟨by first | rfl | kernel_rfl, by intro w hw; obtain ⟨hw1, hw2, hw3, hw4⟩ := HG.out w hw; go_simp⟩) HBd ?_
          simp only [List.getElem_toArray, List.getElem_cons_succ, List.getElem_cons_zero, Act.put, List.setIfInBounds_toArray, List.set_cons_zero, List.set_cons_succ]
          refine wpAnyH_take (i := 6) (v := .int .u8 (n : Int)) rfl (by kernel_rfl) (by kernel_rfl) (by kernel_rfl) (fun _ _ _ h => h) (Or.inl ⟨by first | rfl | kernel_rfl, by intro w hw; obtain ⟨hw1, hw2, hw3, hw4⟩ := HG.out w hw; go_simp⟩) HBd ?_
          simp only [List.getElem_toArray, List.getElem_cons_succ, List.getElem_cons_zero, Act.put, List.setIfInBounds_toArray, List.set_cons_zero, List.set_cons_succ]
          refine wpAnyH_take (i := 7) (v := .pointer (some ⟨w.heap.size, 0, none⟩)) rfl (by kernel_rfl) (by kernel_rfl) (by kernel_rfl) (fun _ _ _ h => h) (Or.inl ⟨by first | rfl | kernel_rfl, by intro w hw; obtain ⟨hw1, hw2, hw3, hw4⟩ := HG.out w hw; go_simp⟩) HBd ?_
          simp only [List.getElem_toArray, List.getElem_cons_succ, List.getElem_cons_zero, Act.put, List.setIfInBounds_toArray, List.set_cons_zero, List.set_cons_succ]
          refine wpAnyH_take (i := 8) (v := .slice a xs.length c) rfl (by kernel_rfl) (by kernel_rfl) (by kernel_rfl) (fun _ _ _ h => h) (Or.inl ⟨by first | rfl | kernel_rfl, by intro w hw; obtain ⟨hw1, hw2, hw3, hw4⟩ := HG.out w hw; go_simp⟩) HBd ?_
          simp only [List.getElem_toArray, List.getElem_cons_succ, List.getElem_cons_zero, Act.put, List.setIfInBounds_toArray, List.set_cons_zero, List.set_cons_succ]
          refine wpAnyH_ready (rs := [4]) (by kernel_rfl) (by simp) (AllReadyH.cons (by simp only [List.getElem?_toArray, List.getElem?_cons_succ, List.getElem?_cons_zero]; rfl) (fun K hK => ?_) AllReadyH.nil)
          refine step_plain rfl ?_
          go_simp
          refine Calls.mono (HAf.out _ _ HS0.out) ?_
          rintro e w1 ⟨p1, rfl, h1⟩
          have HBd := h1.base
          refine hK.out _ _ HBd (fun _ => ?_)
          clear hK K
          try simp only [List.getElem_toArray, List.getElem_cons_succ, List.getElem_cons_zero, Act.put, List.setIfInBounds_toArray, List.set_cons_zero, List.set_cons_succ]
          refine wpAnyH_ready (rs := [9]) (by kernel_rfl) (by simp) (AllReadyH.cons (by simp only [List.getElem?_toArray, List.getElem?_cons_succ, List.getElem?_cons_zero]; rfl) (fun K hK => ?_) AllReadyH.nil)
          refine step_plain rfl ?_
          go_simp
          refine Calls.mono (HAf.out _ _ h1) ?_
          rintro e w2 ⟨p2, rfl, h2⟩
          have HBd := h2.base
          refine hK.out _ _ HBd (fun _ => ?_)
          clear hK K
          try simp only [List.getElem_toArray, List.getElem_cons_succ, List.getElem_cons_zero, Act.put, List.setIfInBounds_toArray, List.set_cons_zero, List.set_cons_succ]
          refine wpAnyH_take (i := 10) (v := .pointer (some ⟨p1, 0, none⟩)) rfl (by kernel_rfl) (by kernel_rfl) (by kernel_rfl) (fun _ _ _ h => h) (Or.inl ⟨by first | rfl | kernel_rfl, by intro w hw; obtain ⟨hw1, hw2, hw3, hw4⟩ := HG.out w hw; go_simp⟩) HBd ?_
          simp only [List.getElem_toArray, List.getElem_cons_succ, List.getElem_cons_zero, Act.put, List.setIfInBounds_toArray, List.set_cons_zero, List.set_cons_succ]
          refine wpAnyH_take (i := 11) (v := .pointer (some ⟨p2, 0, none⟩)) rfl (by kernel_rfl) (by kernel_rfl) (by kernel_rfl) (fun _ _ _ h => h) (Or.inl ⟨by first | rfl | kernel_rfl, by intro w hw; obtain ⟨hw1, hw2, hw3, hw4⟩ := HG.out w hw; go_simp⟩) HBd ?_
          simp only [List.getElem_toArray, List.getElem_cons_succ, List.getElem_cons_zero, Act.put, List.setIfInBounds_toArray, List.set_cons_zero, List.set_cons_succ]
          refine wpAnyH_done (by kernel_rfl) ?_ _
          go_wp2_with fail
          go_meet
          exact ⟨p1, p2, rfl, rfl, h2⟩
        case rest =>
          obtain ⟨p1, p2, rfl, rfl, hS⟩ := hcut
          have HS1 : Hid _ := hS
          obtain ⟨c0, c1, c2, c3⟩ := HG.out wc hS.base
          have HL : Hid (((n2 : Int) % 20) = ((n2 % 20 : Nat) : Int)) := by show _ = _; omega
          have hl20 : n2 % 20 < 20 := Nat.mod_lt _ (by omega)
          have HFa : Hid (Calls Try.prog 34 #[.pointer (some ⟨p1, 0, none⟩), .int .i64 ((n2 : Int) % 20), .slice ka k.length kc] wc fun e w' => e = .returned (.int .i64 0) ∧ Sys w0 [(p1, wF D0 (n2 % 20) k), (p2, D0)] [] [] [] w') := by
            have := sys_fail HS1.out 0 rfl ((n2 % 20 : Nat) : Int) (by omega) HK.out (by omega)
            rw [failF_up HWf.out.2] at this
            rw [HL.out]
            exact this
          clear hS HS1 HAf HS0 HX HA HM
          go_wp2_with fail
          refine Calls.mono HFa.out ?_
          rintro e w3 ⟨rfl, h3⟩
          have HS3 : Hid _ := h3
          clear h3 HFa c0 c1 c2 c3
          go_wp2
          have HFK : Hid (FK w0 w.heap.size a' c' ys k ka kc D0.starts) := ⟨fun wr hb => (HG.out wr hb).2.1, HY.out, HK.out, hl2, HMY.out, by omega⟩
          have HFR : Hid (FR w0 p1 p2 k D0.starts (n2 % 20) 0 D0 w3) := ⟨hl20, HWf.out.1, HWf.out.2, rfl, by omega, HS3.out⟩
          clear HS3 HG HY HK HMY
          rw [HL.out]
          refine floop2 HFK.out (n2 % 20) 0 D0 (Nat.zero_le _) HFR.out (by kernel_rfl) ?_ ?_
          · intro u cc y0 y1 y4 left m ov wr hFR
            have hS := hFR.sys
            have hou := hFR.up
            have HS90 : Hid (Sys w0 [(p1, wF ov left k), (p2, ov)] [] [] [] wr) := hS
            clear HFR HFK hFR HL hl20
            unfold ffr
            have hSE : statesD (wF ov left k) = statesD ov := rfl
            have hAE : allD (wF ov left k) = allD ov := rfl
            have HSE : Hid _ := hSE
            have HAE : Hid _ := hAE
            clear hS hSE hAE
            have HC101 : Hid (Calls Try.prog 26 #[.pointer (some ⟨p1, 0, none⟩)] wr fun e w' => e = .returned (.bool true) ∧ w' = wr) := by
                            have := sys_up HS90.out 0 rfl 
                            rw [show (wF ov left k).up = true from hou] at this
                            exact this
            go_wp2_with fail
            refine Calls.mono HC101.out ?_
            rintro e w101 ⟨rfl, rfl⟩
            clear HC101 
            have HC102 : Hid (Calls Try.prog 24 #[.pointer (some ⟨p1, 0, none⟩)] w101 fun e w' => ∃ v, e = .returned v ∧ Sys w0 [(p1, wF ov left k), (p2, ov)] [(v, statesD (wF ov left k))] [] [] w') := sys_states HS90.out 0 rfl
            clear HS90
            go_wp2_with fail
            refine Calls.mono HC102.out ?_
            rintro e w102 ⟨v102, rfl, h102⟩
            have HS102 : Hid (Sys w0 [(p1, wF ov left k), (p2, ov)] [(v102, statesD (wF ov left k))] [] [] w102) := h102
            clear HC102 h102 
            have HC103 : Hid (Calls Try.prog 24 #[.pointer (some ⟨p2, 0, none⟩)] w102 fun e w' => ∃ v, e = .returned v ∧ Sys w0 [(p1, wF ov left k), (p2, ov)] [(v, statesD (ov)), (v102, statesD (wF ov left k))] [] [] w') := sys_states HS102.out 1 rfl
            clear HS102
            go_wp2_with fail
            refine Calls.mono HC103.out ?_
            rintro e w103 ⟨v103, rfl, h103⟩
            have HS103 : Hid (Sys w0 [(p1, wF ov left k), (p2, ov)] [(v103, statesD (ov)), (v102, statesD (wF ov left k))] [] [] w103) := h103
            clear HC103 h103 
            have HC104 : Hid (Calls Try.prog 14 #[v102, v103] w103 fun e w' => e = .returned (.bool true) ∧ Sys w0 [(p1, wF ov left k), (p2, ov)] [(v103, statesD (ov)), (v102, statesD (wF ov left k))] [] [] w') := sys_ints HS103.out (l1 := statesD (wF ov left k)) (l2 := statesD (ov)) (by simp) (by simp) (by have := statesD_len2 HS103.out 0 rfl; omega) HSE.out
            clear HS103
            go_wp2_with fail
            refine Calls.mono HC104.out ?_
            rintro e w104 ⟨rfl, h104⟩
            have HS104 : Hid (Sys w0 [(p1, wF ov left k), (p2, ov)] [(v103, statesD (ov)), (v102, statesD (wF ov left k))] [] [] w104) := h104
            clear HC104 h104 
            have HC105 : Hid (Calls Try.prog 30 #[.pointer (some ⟨p1, 0, none⟩)] w104 fun e w' => ∃ v, e = .returned v ∧ Sys w0 [(p1, wF ov left k), (p2, ov)] [(v103, statesD (ov)), (v102, statesD (wF ov left k))] [(v, allD (wF ov left k))] [] w') := sys_all HS104.out 0 rfl
            clear HS104
            go_wp2_with fail
            refine Calls.mono HC105.out ?_
            rintro e w105 ⟨v105, rfl, h105⟩
            have HS105 : Hid (Sys w0 [(p1, wF ov left k), (p2, ov)] [(v103, statesD (ov)), (v102, statesD (wF ov left k))] [(v105, allD (wF ov left k))] [] w105) := h105
            clear HC105 h105 
            have HC106 : Hid (Calls Try.prog 30 #[.pointer (some ⟨p2, 0, none⟩)] w105 fun e w' => ∃ v, e = .returned v ∧ Sys w0 [(p1, wF ov left k), (p2, ov)] [(v103, statesD (ov)), (v102, statesD (wF ov left k))] [(v, allD (ov)), (v105, allD (wF ov left k))] [] w') := sys_all HS105.out 1 rfl
            clear HS105
            go_wp2_with fail
            refine Calls.mono HC106.out ?_
            rintro e w106 ⟨v106, rfl, h106⟩
            have HS106 : Hid (Sys w0 [(p1, wF ov left k), (p2, ov)] [(v103, statesD (ov)), (v102, statesD (wF ov left k))] [(v106, allD (ov)), (v105, allD (wF ov left k))] [] w106) := h106
            clear HC106 h106 
            have HC107 : Hid (Calls Try.prog 35 #[v105, v106] w106 fun e w' => e = .returned (.bool true) ∧ Sys w0 [(p1, wF ov left k), (p2, ov)] [(v103, statesD (ov)), (v102, statesD (wF ov left k))] [(v106, allD (ov)), (v105, allD (wF ov left k))] [] w') := sys_texts HS106.out (l1 := allD (wF ov left k)) (l2 := allD (ov)) (by simp) (by simp) (by have := allD_len2 HS106.out 0 rfl; omega) HAE.out
            clear HS106
            go_wp2_with fail
            refine Calls.mono HC107.out ?_
            rintro e w107 ⟨rfl, h107⟩
            have HS107 : Hid (Sys w0 [(p1, wF ov left k), (p2, ov)] [(v103, statesD (ov)), (v102, statesD (wF ov left k))] [(v106, allD (ov)), (v105, allD (wF ov left k))] [] w107) := h107
            clear HC107 h107 
            have HC108 : Hid (Calls Try.prog 25 #[.pointer (some ⟨p1, 0, none⟩)] w107 fun e w' => e = .returned (.int .i64 (ov.acts.length : Int)) ∧ w' = w107) := by
                            have := sys_pending HS107.out 0 rfl 
                            rw [show (wF ov left k).acts.length = ov.acts.length from rfl] at this
                            exact this
            go_wp2_with fail
            refine Calls.mono HC108.out ?_
            rintro e w108 ⟨rfl, rfl⟩
            clear HC108 
            have HC109 : Hid (Calls Try.prog 25 #[.pointer (some ⟨p2, 0, none⟩)] w108 fun e w' => e = .returned (.int .i64 (ov.acts.length : Int)) ∧ w' = w108) := sys_pending HS107.out 1 rfl 
            go_wp2_with fail
            refine Calls.mono HC109.out ?_
            rintro e w109 ⟨rfl, rfl⟩
            clear HC109 
            have hpp : ((ov.acts.length : Int) == (ov.acts.length : Int)) = true := by simp
            have HC110 : Hid (Calls Try.prog 16 #[] w109 fun e w' => e = .returned (.bool true) ∧ Sys w0 [(p1, wF ov left k), (p2, ov)] [(v103, statesD (ov)), (v102, statesD (wF ov left k))] [(v106, allD (ov)), (v105, allD (wF ov left k))] [] w') := (does_any w109).mono fun _ _ hh => ⟨hh.1, HS107.out.below hh.2⟩
            clear HS107
            go_wp2_with fail
            refine Calls.mono HC110.out ?_
            rintro e w110 ⟨rfl, h110⟩
            have HS110 : Hid (Sys w0 [(p1, wF ov left k), (p2, ov)] [(v103, statesD (ov)), (v102, statesD (wF ov left k))] [(v106, allD (ov)), (v105, allD (wF ov left k))] [] w110) := h110
            clear HC110 h110 
            have HB : Hid (Below w.heap.size w w110) := HB0.out.trans (HS110.out.base.mono HB0.out.size)
            clear HS110
            go_wp2
            go_ret
            exact ⟨rfl, HB.out⟩
          · intro a1 w1 h6 hd hb
            show bodyPost Try.prog Try.f7 (fun e w' => e = .returned (.bool true) ∧ Below w.heap.size w w') .ret a1 w1
            refine bodyPost_ret (v := .bool true) ?_ hd (And.intro rfl (HB0.out.trans (hb.mono HB0.out.size)))
            simp only [results, Try.results7]
            simpa [go_sem] using h6
theorem fail_int {w : World} {a a' : Option Addr} {xs ys : List DoX} (h : DosAt w a xs ∧ DosAt w a' ys) (c c' n n2 : Nat) (hn : n < 256 ∧ n2 < 256) {ka : Option Addr} {kc : Nat} {k : List Int} (hk : IntsAt w (.slice ka k.length kc) k) : Calls Try.prog 7 #[.agg #[.slice a xs.length c, .slice a' ys.length c'], .agg #[.int .u8 (n : Int), .int .u8 (n2 : Int)], .slice ka k.length kc] w fun e w' => e = .returned (.bool true) ∧ Below w.heap.size w w' := fail_law h.1 h.2 c c' n n2 hn.1 hn.2 hk
end Go.Proofs.Ythlaackalmgfnaa

/- How a row is opened: what every seat needs. -/
namespace Go.Proofs.Ythlaackalmgfnaa
open Go.ChangeShapes Go.WideShapes Go.ChangeAt Go.RowKit

theorem own : ownKnob Try.prog.godebug = none := by kernel_rfl
theorem laidOut : laidOutB Try.prog = true := by kernel_rfl
end Go.Proofs.Ythlaackalmgfnaa

/- How what is asked of a device, as an argument, is opened. -/
namespace Go.Proofs.Ythlaackalmgfnaa
open Go.ChangeShapes Go.WideShapes Go.ChangeAt Go.RowKit

theorem cells_do : Try.prog.cellsOf 37 = 5 := by kernel_rfl
theorem cells_du8 : Try.prog.cellsOf 5 = 1 := by kernel_rfl
theorem cells_dint : Try.prog.cellsOf 3 = 1 := by kernel_rfl
theorem cells_dstr : Try.prog.cellsOf 9 = 1 := by kernel_rfl
theorem cells_dints : Try.prog.cellsOf 31 = 1 := by kernel_rfl
/-- A list of numbers that came in. -/
theorem ints_cells {H : Type} {enc : TypeId × Value → H} {W : World} {b0 fuel : Nat} {held : Bool} {c : Value} {y : DataW H × List MemPlace} (h : DataW.trod enc Try.prog W b0 (fun _ => true) held fuel 31 [c] = some y) :
    ∃ (ka : Option Addr) (k : List Int) (kc : Nat), c = .slice ka k.length kc ∧ IntsAt W c k := by
  rcases open_ints Try.underlying31 Try.underlying3 cells_dint h with ⟨hcs, _⟩ | ⟨x, l, cc, zs, hcs, _, hl, hm, hz, _, hcell, hwz⟩
  · obtain rfl : c = .slice none 0 0 := by simpa using hcs
    exact ⟨none, [], 0, rfl, none, 0, rfl, fun i n hi => by simp at hi⟩
  · obtain rfl : c = .slice (some x) l cc := by simpa using hcs
    have hz' : zs.length = cc := by simpa using hz
    refine ⟨some x, zs.take l, cc, by rw [List.length_take, Nat.min_eq_left (by omega)], some x, cc, by rw [List.length_take, Nat.min_eq_left (by omega)], fun i n hi => ?_⟩
    have hil : i < l := by have := (List.getElem?_eq_some_iff.1 hi).1; simp at this; omega
    obtain ⟨b, off, spot⟩ := x
    have h0 := hcell 0 (by omega)
    have hspot : spot = none := by simpa [Addr.add] using World.cell?_spot h0
    subst hspot
    refine ⟨b, off, rfl, ?_⟩
    have hc := hcell i (by omega)
    rw [List.getElem?_take, if_pos hil] at hi
    have e : zs.getD i 0 = n := by rw [List.getD_eq_getElem?_getD, hi]; rfl
    rw [e] at hc
    by_cases e0 : i = 0
    · subst e0; simpa [Addr.add] using hc
    · simpa [Addr.add, e0] using hc
set_option maxRecDepth 100000 in
theorem do_cells {H : Type} {enc : TypeId × Value → H} {W : World} {b0 fuel : Nat} {held : Bool} {cs : List Value} {y : DataW H × List MemPlace} (h : DataW.trod enc Try.prog W b0 (fun _ => true) held fuel 37 cs = some y) :
    ∃ x : DoX, cs = x.v.toList ∧ x.ok W := by
  obtain ⟨xs, n, _, rfl, hl, hlen, hf⟩ := DataW.trod_struct Try.underlying37 h
  rw [cells_do] at hl
  match cs, hl with
  | [c0, c1, c2, c3, c4], _ =>
    match xs, hlen with
    | [y0, y1, y2, y3, y4], _ =>
      have f0 : DataW.trod enc Try.prog W b0 (fun _ => true) held n 5 [c0] = some y0 := by
        have g : DataW.trod enc Try.prog W b0 (fun _ => true) held n 5 (([c0, c1, c2, c3, c4].drop 0).take (Try.prog.cellsOf 5)) = some y0 := hf 0 _ rfl
        rw [cells_du8] at g
        exact g
      have f1 : DataW.trod enc Try.prog W b0 (fun _ => true) held n 3 [c1] = some y1 := by
        have g : DataW.trod enc Try.prog W b0 (fun _ => true) held n 3 (([c0, c1, c2, c3, c4].drop 1).take (Try.prog.cellsOf 3)) = some y1 := hf 1 _ rfl
        rw [cells_dint] at g
        exact g
      have f2 : DataW.trod enc Try.prog W b0 (fun _ => true) held n 3 [c2] = some y2 := by
        have g : DataW.trod enc Try.prog W b0 (fun _ => true) held n 3 (([c0, c1, c2, c3, c4].drop 2).take (Try.prog.cellsOf 3)) = some y2 := hf 2 _ rfl
        rw [cells_dint] at g
        exact g
      have f3 : DataW.trod enc Try.prog W b0 (fun _ => true) held n 9 [c3] = some y3 := by
        have g : DataW.trod enc Try.prog W b0 (fun _ => true) held n 9 (([c0, c1, c2, c3, c4].drop 3).take (Try.prog.cellsOf 9)) = some y3 := hf 3 _ rfl
        rw [cells_dstr] at g
        exact g
      have f4 : DataW.trod enc Try.prog W b0 (fun _ => true) held n 31 [c4] = some y4 := by
        have g : DataW.trod enc Try.prog W b0 (fun _ => true) held n 31 (([c0, c1, c2, c3, c4].drop 4).take (Try.prog.cellsOf 31)) = some y4 := hf 4 _ rfl
        rw [cells_dints] at g
        exact g
      obtain ⟨q, hq, _, wq⟩ := DataW.trod_int (fuel := n) (cs := [c0]) Try.underlying5 f0
      obtain ⟨i, hi, _, wi⟩ := DataW.trod_int (fuel := n) (cs := [c1]) Try.underlying3 f1
      obtain ⟨m, hm, _, wm⟩ := DataW.trod_int (fuel := n) (cs := [c2]) Try.underlying3 f2
      obtain ⟨s, hs, _, _⟩ := DataW.trod_string (fuel := n) (cs := [c3]) Try.underlying9 f3
      obtain ⟨ka, k, kc, hk, hki⟩ := ints_cells (fuel := n) (c := c4) f4
      have bq := bounds_u8 wq
      have bi := bounds_i64 wi
      have bm := bounds_i64 wm
      refine ⟨⟨q.toNat, i, m, s.data.toList, k, ka, kc⟩, ?_, ⟨by show q.toNat < 256; omega, by show i < _; omega, by show m < _; omega, ?_⟩⟩
      · have e0 : c0 = .int .u8 ((q.toNat : Nat) : Int) := by rw [show ((q.toNat : Nat) : Int) = q by omega]; exact (List.cons.inj hq).1
        have e1 : c1 = .int .i64 i := (List.cons.inj hi).1
        have e2 : c2 = .int .i64 m := (List.cons.inj hm).1
        have e3 : c3 = .string (S s.data.toList) := by rw [S_data]; exact (List.cons.inj hs).1
        rw [e0, e1, e2, e3, hk]
        rfl
      · rw [hk] at hki
        exact hki
set_option maxRecDepth 100000 in
theorem open_do {H : Type} {enc : TypeId × Value → H} {W : World} {base b0 : Nat} {held : Bool} {v : Value} {d : DataW H} {p : List MemPlace}
    (hval : Value.okWide Try.prog W .any base 37 v) (h : DataW.Trod enc Try.prog W b0 (fun _ => true) held 37 v d p) :
    ∃ x : DoX, v = .agg x.v ∧ x.ok W := by
  obtain ⟨cs, rfl, hsz⟩ := okWide_struct Try.underlying37 hval
  obtain ⟨fuel, hf⟩ := h
  obtain ⟨x, hx, hok⟩ := do_cells (cs := cs.toList) (by simpa [Value.cells] using hf)
  exact ⟨x, by rw [Array.toList_inj.1 hx], hok⟩
end Go.Proofs.Ythlaackalmgfnaa

/- How a list of what is asked of a device, as an argument, is opened. -/
namespace Go.Proofs.Ythlaackalmgfnaa
open Go.ChangeShapes Go.WideShapes Go.ChangeAt Go.RowKit

set_option maxRecDepth 100000 in
theorem dos_cells {H : Type} {enc : TypeId × Value → H} {W : World} {b0 fuel : Nat} {held : Bool} {c : Value} {y : DataW H × List MemPlace} (h : DataW.trod enc Try.prog W b0 (fun _ => true) held fuel 22 [c] = some y) :
    ∃ (a : Option Addr) (xs : List DoX) (cc : Nat), c = .slice a xs.length cc ∧ DosAt W a xs := by
  rcases DataW.trod_slice Try.underlying22 h with ⟨hcs, _⟩ | ⟨a, len, cap, elems, rest, n, _, hcs, _, hb, hl, hm, hlen, hel, hsp, hns⟩
  · obtain rfl : c = .slice none 0 0 := by simpa using hcs
    exact ⟨none, [], 0, rfl, fun j x hj => by simp at hj⟩
  · obtain rfl : c = .slice (some a) len cap := by simpa using hcs
    have each : ∀ i, i < len → ∃ cs x, W.cells? b0 (a.add (i * 5)) 5 = some cs ∧ cs = (DoX.v x).toList ∧ DoX.ok W x := fun i hi => by
      have h1 := hel i hi
      rw [cells_do, List.getElem?_eq_getElem (by omega)] at h1
      cases hc : W.cells? b0 (a.add (i * 5)) 5 with
      | none => rw [hc] at h1; cases h1
      | some cs =>
        rw [hc] at h1
        obtain ⟨x, hx1, hx2⟩ := do_cells (cs := cs) h1
        exact ⟨cs, x, rfl, hx1, hx2⟩
    refine ⟨some a, (List.range len).map fun i => if h : i < len then (each i h).choose_spec.choose else ⟨0, 0, 0, [], [], none, 0⟩, cap, by simp, fun j x hj => ?_⟩
    have hjl : j < len := by have := (List.getElem?_eq_some_iff.1 hj).1; simpa using this
    rw [List.getElem?_map, List.getElem?_range hjl] at hj
    simp only [Option.map_some, dif_pos hjl, Option.some.injEq] at hj
    obtain ⟨h1, h2, h3⟩ := (each j hjl).choose_spec.choose_spec
    rw [hj] at h2 h3
    refine ⟨h3, ?_⟩
    obtain ⟨b, off, spot⟩ := a
    obtain ⟨_, hcl, hcc⟩ := World.cells?_some h1
    rw [h2] at hcl hcc
    have hspot : spot = none := by
      obtain ⟨cs0, x0, g1, g2, _⟩ := each 0 (by omega)
      obtain ⟨_, _, gcc⟩ := World.cells?_some g1
      have c0 := gcc 0 (by omega)
      rw [g2, show x0.v.toList[0]? = some (Value.int .u8 (x0.q : Int)) from rfl] at c0
      simpa [Addr.add] using World.cell?_spot c0
    subst hspot
    refine ⟨b, off, rfl, fun i v hv => ?_⟩
    have hi : i < 5 := by have := (List.getElem?_eq_some_iff.1 hv).1; rw [DoX.size] at this; exact this
    have hc := hcc i hi
    rw [Addr.add_mid, Addr.add_mid] at hc
    rw [hc]; exact hv
set_option maxRecDepth 100000 in
theorem open_dos {H : Type} {enc : TypeId × Value → H} {W : World} {base b0 : Nat} {held : Bool} {v : Value} {d : DataW H} {p : List MemPlace}
    (_ : Value.okWide Try.prog W .any base 22 v) (h : DataW.Trod enc Try.prog W b0 (fun _ => true) held 22 v d p) :
    ∃ (a : Option Addr) (cc : Nat) (xs : List DoX), v = .slice a xs.length cc ∧ DosAt W a xs := by
  rename_i hval
  obtain ⟨a0, len, cap, rfl⟩ := okWide_slice Try.underlying22 hval
  obtain ⟨fuel, hf⟩ := h
  obtain ⟨a, xs, cc, h1, h2⟩ := dos_cells (c := .slice a0 len cap) (by simpa [Value.cells] using hf)
  exact ⟨a, cc, xs, h1, h2⟩
end Go.Proofs.Ythlaackalmgfnaa

/- How two lists of what is asked, a list of numbers, two bytes, and a torn crash, as arguments, are opened. -/
namespace Go.Proofs.Ythlaackalmgfnaa
open Go.ChangeShapes Go.WideShapes Go.ChangeAt Go.RowKit

theorem okWide_arr {P : Program} {w : World} {r : Reach} {base n : Nat} {t e : TypeId} {v : Value} (ht : P.underlying t = some (.array n e)) (h : Value.okWide P w r base t v) : ∃ cs, v = .agg cs ∧ cs.size = P.cellsOf t := by
  unfold Value.okWide at h
  rw [ht] at h
  cases v <;> simp at h
  all_goals first | exact ⟨_, rfl, h.1⟩ | exact ⟨_, rfl, h⟩
set_option maxRecDepth 100000 in
theorem open_ks {H : Type} {enc : TypeId × Value → H} {W : World} {base b0 : Nat} {held : Bool} {v : Value} {d : DataW H} {p : List MemPlace}
    (hval : Value.okWide Try.prog W .any base 31 v) (h : DataW.Trod enc Try.prog W b0 (fun _ => true) held 31 v d p) :
    ∃ (a : Option Addr) (cc : Nat) (k : List Int), v = .slice a k.length cc ∧ IntsAt W (.slice a k.length cc) k := by
  obtain ⟨a0, len, cap, rfl⟩ := okWide_slice Try.underlying31 hval
  obtain ⟨fuel, hf⟩ := h
  obtain ⟨a, k, cc, h1, h2⟩ := ints_cells (c := .slice a0 len cap) (by simpa [Value.cells] using hf)
  refine ⟨a, cc, k, h1, ?_⟩
  rw [← h1]; exact h2
theorem cells_dos : Try.prog.cellsOf 22 = 1 := by kernel_rfl
theorem cells_dos2 : Try.prog.cellsOf 64 = 2 := by kernel_rfl
set_option maxRecDepth 100000 in
theorem open_dos2 {H : Type} {enc : TypeId × Value → H} {W : World} {base b0 : Nat} {held : Bool} {v : Value} {d : DataW H} {p : List MemPlace}
    (hval : Value.okWide Try.prog W .any base 64 v) (h : DataW.Trod enc Try.prog W b0 (fun _ => true) held 64 v d p) :
    ∃ (a : Option Addr) (c : Nat) (xs : List DoX) (a' : Option Addr) (c' : Nat) (ys : List DoX), v = .agg #[.slice a xs.length c, .slice a' ys.length c'] ∧ DosAt W a xs ∧ DosAt W a' ys := by
  obtain ⟨cs, rfl, hsz⟩ := okWide_arr Try.underlying64 hval
  obtain ⟨fuel, hf⟩ := h
  obtain ⟨xs, m, _, _, hl, hxs, hall⟩ := DataW.trod_array Try.underlying64 (cs := cs.toList) (by simpa [Value.cells] using hf)
  rw [cells_dos2] at hl
  obtain ⟨l⟩ := cs
  match l, hl with
  | [c0, c1], _ =>
    have g0 := hall 0 (by omega)
    have g1 := hall 1 (by omega)
    rw [cells_dos] at g0 g1
    have e0 : DataW.trod enc Try.prog W b0 (fun _ => true) held m 22 [c0] = xs[0]? := g0
    have e1 : DataW.trod enc Try.prog W b0 (fun _ => true) held m 22 [c1] = xs[1]? := g1
    rw [List.getElem?_eq_getElem (by omega)] at e0 e1
    obtain ⟨a, ys, c, r1, r2⟩ := dos_cells e0
    obtain ⟨a', zs, c', s1, s2⟩ := dos_cells e1
    exact ⟨a, c, ys, a', c', zs, by rw [r1, s1], r2, s2⟩
/-- Small numbers that a slice holds. -/
def BytesAt (w : World) (v : Value) (l : List Nat) : Prop := (∀ x ∈ l, x < 256) ∧ ∃ a c, v = .slice a l.length c ∧ ∀ (i n : Nat), l[i]? = some n → ∃ b o, a = some ⟨b, o, none⟩ ∧ w.cell? ⟨b, o + i, none⟩ = some (.int .u8 (n : Int))
set_option maxRecDepth 100000 in
theorem bytes_cells {H : Type} {enc : TypeId × Value → H} {W : World} {b0 fuel : Nat} {held : Bool} {c : Value} {y : DataW H × List MemPlace} (h : DataW.trod enc Try.prog W b0 (fun _ => true) held fuel 71 [c] = some y) :
    ∃ (ka : Option Addr) (k : List Nat) (kc : Nat), c = .slice ka k.length kc ∧ BytesAt W c k := by
  rcases open_ints Try.underlying71 Try.underlying5 cells_du8 h with ⟨hcs, _⟩ | ⟨x, l, cc, zs, hcs, _, hl, hm, hz, _, hcell, hwz⟩
  · obtain rfl : c = .slice none 0 0 := by simpa using hcs
    exact ⟨none, [], 0, rfl, fun x hx => by simp at hx, none, 0, rfl, fun i n hi => by simp at hi⟩
  · obtain rfl : c = .slice (some x) l cc := by simpa using hcs
    have hz' : zs.length = cc := by simpa using hz
    have hb : ∀ z ∈ zs, 0 ≤ z ∧ z < 256 := fun z hzz => by have := bounds_u8 (hwz z hzz); omega
    refine ⟨some x, (zs.take l).map Int.toNat, cc, by rw [List.length_map, List.length_take, Nat.min_eq_left (by omega)], fun n hn => ?_, some x, cc, by rw [List.length_map, List.length_take, Nat.min_eq_left (by omega)], fun i n hi => ?_⟩
    · obtain ⟨z, hz1, rfl⟩ := List.mem_map.1 hn
      have := hb z (List.mem_of_mem_take hz1); omega
    · have hil : i < l := by have := (List.getElem?_eq_some_iff.1 hi).1; simp at this; omega
      obtain ⟨b, off, spot⟩ := x
      have h0 := hcell 0 (by omega)
      have hspot : spot = none := by simpa [Addr.add] using World.cell?_spot h0
      subst hspot
      refine ⟨b, off, rfl, ?_⟩
      have hc := hcell i (by omega)
      rw [List.getElem?_map, List.getElem?_take, if_pos hil, List.getElem?_eq_getElem (by omega)] at hi
      have e : zs.getD i 0 = (n : Int) := by
        rw [List.getD_eq_getElem?_getD, List.getElem?_eq_getElem (by omega)]
        have := hb zs[i] (List.getElem_mem _)
        simp at hi ⊢
        omega
      rw [e] at hc
      by_cases e0 : i = 0
      · subst e0; simpa [Addr.add] using hc
      · simpa [Addr.add, e0] using hc
theorem cells_u8x2 : Try.prog.cellsOf 76 = 2 := by kernel_rfl
set_option maxRecDepth 100000 in
theorem open_u8x2 {H : Type} {enc : TypeId × Value → H} {W : World} {base b0 : Nat} {held : Bool} {v : Value} {d : DataW H} {p : List MemPlace}
    (hval : Value.okWide Try.prog W .any base 76 v) (h : DataW.Trod enc Try.prog W b0 (fun _ => true) held 76 v d p) :
    ∃ n m : Nat, v = .agg #[.int .u8 (n : Int), .int .u8 (m : Int)] ∧ n < 256 ∧ m < 256 := by
  obtain ⟨cs, rfl, hsz⟩ := okWide_arr Try.underlying76 hval
  obtain ⟨fuel, hf⟩ := h
  obtain ⟨xs, m, _, _, hl, hxs, hall⟩ := DataW.trod_array Try.underlying76 (cs := cs.toList) (by simpa [Value.cells] using hf)
  rw [cells_u8x2] at hl
  obtain ⟨l⟩ := cs
  match l, hl with
  | [c0, c1], _ =>
    have g0 := hall 0 (by omega)
    have g1 := hall 1 (by omega)
    rw [cells_du8] at g0 g1
    have e0 : DataW.trod enc Try.prog W b0 (fun _ => true) held m 5 [c0] = xs[0]? := g0
    have e1 : DataW.trod enc Try.prog W b0 (fun _ => true) held m 5 [c1] = xs[1]? := g1
    rw [List.getElem?_eq_getElem (by omega)] at e0 e1
    obtain ⟨q, hq, _, wq⟩ := DataW.trod_int (cs := [c0]) Try.underlying5 e0
    obtain ⟨r, hr, _, wr⟩ := DataW.trod_int (cs := [c1]) Try.underlying5 e1
    have bq := bounds_u8 wq
    have br := bounds_u8 wr
    refine ⟨q.toNat, r.toNat, ?_, by omega, by omega⟩
    rw [show ((q.toNat : Nat) : Int) = q by omega, show ((r.toNat : Nat) : Int) = r by omega, (List.cons.inj hq).1, (List.cons.inj hr).1]
/-- A crash in the midst of writes and erasures. -/
structure TornX where
  s : List UInt8
  ws : List Nat
  es : List Nat
  k : List Int
  wa : Option Addr
  wc : Nat
  ea : Option Addr
  ec : Nat
  ka : Option Addr
  kc : Nat
def TornX.v (x : TornX) : Array Value := #[.string (S x.s), .slice x.wa x.ws.length x.wc, .slice x.ea x.es.length x.ec, .slice x.ka x.k.length x.kc]
structure TornX.ok (w : World) (x : TornX) : Prop where
  ws : BytesAt w (.slice x.wa x.ws.length x.wc) x.ws
  es : BytesAt w (.slice x.ea x.es.length x.ec) x.es
  k : IntsAt w (.slice x.ka x.k.length x.kc) x.k
theorem cells_du8s : Try.prog.cellsOf 71 = 1 := by kernel_rfl
theorem cells_torn : Try.prog.cellsOf 73 = 4 := by kernel_rfl
set_option maxRecDepth 100000 in
theorem open_torn {H : Type} {enc : TypeId × Value → H} {W : World} {base b0 : Nat} {held : Bool} {v : Value} {d : DataW H} {p : List MemPlace}
    (hval : Value.okWide Try.prog W .any base 73 v) (h : DataW.Trod enc Try.prog W b0 (fun _ => true) held 73 v d p) :
    ∃ x : TornX, v = .agg x.v ∧ x.ok W := by
  obtain ⟨cs, rfl, hsz⟩ := okWide_struct Try.underlying73 hval
  obtain ⟨fuel, hf0⟩ := h
  obtain ⟨xs, n, _, _, hl, hlen, hf⟩ := DataW.trod_struct Try.underlying73 (cs := cs.toList) (by simpa [Value.cells] using hf0)
  rw [cells_torn] at hl
  obtain ⟨l⟩ := cs
  match l, hl with
  | [c0, c1, c2, c3], _ =>
    match xs, hlen with
    | [y0, y1, y2, y3], _ =>
      have f0 : DataW.trod enc Try.prog W b0 (fun _ => true) held n 9 [c0] = some y0 := by
        have g : DataW.trod enc Try.prog W b0 (fun _ => true) held n 9 (([c0, c1, c2, c3].drop 0).take (Try.prog.cellsOf 9)) = some y0 := hf 0 _ rfl
        rw [cells_dstr] at g
        exact g
      have f1 : DataW.trod enc Try.prog W b0 (fun _ => true) held n 71 [c1] = some y1 := by
        have g : DataW.trod enc Try.prog W b0 (fun _ => true) held n 71 (([c0, c1, c2, c3].drop 1).take (Try.prog.cellsOf 71)) = some y1 := hf 1 _ rfl
        rw [cells_du8s] at g
        exact g
      have f2 : DataW.trod enc Try.prog W b0 (fun _ => true) held n 71 [c2] = some y2 := by
        have g : DataW.trod enc Try.prog W b0 (fun _ => true) held n 71 (([c0, c1, c2, c3].drop 2).take (Try.prog.cellsOf 71)) = some y2 := hf 2 _ rfl
        rw [cells_du8s] at g
        exact g
      have f3 : DataW.trod enc Try.prog W b0 (fun _ => true) held n 31 [c3] = some y3 := by
        have g : DataW.trod enc Try.prog W b0 (fun _ => true) held n 31 (([c0, c1, c2, c3].drop 3).take (Try.prog.cellsOf 31)) = some y3 := hf 3 _ rfl
        rw [cells_dints] at g
        exact g
      obtain ⟨s, hs, _, _⟩ := DataW.trod_string (fuel := n) (cs := [c0]) Try.underlying9 f0
      obtain ⟨wa, ws, wc, hw1, hw2⟩ := bytes_cells (fuel := n) (c := c1) f1
      obtain ⟨ea, es, ec, he1, he2⟩ := bytes_cells (fuel := n) (c := c2) f2
      obtain ⟨ka, k, kc, hk1, hk2⟩ := ints_cells (fuel := n) (c := c3) f3
      rw [hw1] at hw2
      rw [he1] at he2
      rw [hk1] at hk2
      refine ⟨⟨s.data.toList, ws, es, k, wa, wc, ea, ec, ka, kc⟩, ?_, hw2, he2, hk2⟩
      have e0 : c0 = .string (S s.data.toList) := by rw [S_data]; exact (List.cons.inj hs).1
      rw [e0, hw1, he1, hk1]
      rfl
end Go.Proofs.Ythlaackalmgfnaa

namespace Go.Proofs.Ythlaackalmgfnaa.deviceFail
open Go.ChangeShapes Go.WideShapes Go.ChangeAt Go.RowKit

set_option maxRecDepth 100000 in
theorem contract (H : Type) (enc : TypeId × Value → H) (W : World) (base : Nat) (args : Array Value) (ds gs : List (DataW H)) (before : List MemPlace)
    (hval : ∀ (j : Nat) t v, Try.f7.params[j]? = some t → args[j]? = some v → Value.okWide Try.prog W .any base t v)
    (hW : DataW.Whole enc Try.prog Try.f7.params.toList Rows.deviceFailSpec.vars false W args.toList ds gs before) :
    Calls Try.prog 7 args W fun e W' => ∃ v, e = .returned v ∧ Rows.deviceFailSpec.post enc Try.prog Try.f7 false true false false W args v W' := by
  have hW' := hW
  obtain ⟨p, q, hA0, hV, rfl, hfz, hnd⟩ := hW
  have hA : DataW.TrodAll enc Try.prog W 0 (fun _ => true) true Try.f7.params.toList args.toList ds p := hA0
  rw [Try.params7] at hA hval
  obtain ⟨v0, vs0, d0, ds0, p0, q0, hargs, rfl, rfl, h0, r0⟩ := trodAll_cons hA
  obtain ⟨v1, vs1, d1, ds1, p1, q1, rfl, rfl, rfl, h1, r1⟩ := trodAll_cons r0
  obtain ⟨v2, vs2, d2, ds2, p2, q2, rfl, rfl, rfl, h2, r2⟩ := trodAll_cons r1
  obtain ⟨rfl, rfl, rfl⟩ := trodAll_nil r2
  obtain rfl : args = #[v0, v1, v2] := by cases args; simp_all
  obtain ⟨rfl, rfl⟩ := trodVars_none hV
  have k0 := h0
  have lt0 : ∀ x ∈ p0, x.block < W.heap.size := by obtain ⟨m, hm⟩ := k0; exact DataW.trod_lt m _ _ _ hm
  have k1 := h1
  have lt1 : ∀ x ∈ p1, x.block < W.heap.size := by obtain ⟨m, hm⟩ := k1; exact DataW.trod_lt m _ _ _ hm
  have k2 := h2
  have lt2 : ∀ x ∈ p2, x.block < W.heap.size := by obtain ⟨m, hm⟩ := k2; exact DataW.trod_lt m _ _ _ hm
  obtain ⟨lA, lC, l, lB, lD, lY, rfl, b0⟩ := open_dos2 (hval 0 64 v0 rfl rfl) h0
  obtain ⟨n, nB, rfl, b1⟩ := open_u8x2 (hval 1 76 v1 rfl rfl) h1
  obtain ⟨kA, kC, k, rfl, b2⟩ := open_ks (hval 2 31 v2 rfl rfl) h2
  clear hA0
  simp only [List.append_nil] at hW'
  refine (fail_int b0 lC lD n nB b1 b2).mono fun e W' ⟨he, bel⟩ => ?_
  subst he
  exact ⟨_, rfl, _, _, _, [], _, [], hW', trodAll_mk1 (shut_bool Try.underlying4 _), (trodAll_cons_mk (Below.trod laidOut (by kernel_rfl) (of_decide_eq_true (by kernel_rfl)) k0 bel lt0) (trodAll_cons_mk (Below.trod laidOut (by kernel_rfl) (of_decide_eq_true (by kernel_rfl)) k1 bel lt1) (trodAll_cons_mk (Below.trod laidOut (by kernel_rfl) (of_decide_eq_true (by kernel_rfl)) k2 bel lt2) trodAll_mk0))), rfl, bel.frame _, fun h => by cases h⟩

theorem laid_met (os : Os) : laidMet Try.prog Rows.deviceFailRow.laid ((World.holding Try.prog os ⟨#[], #[], []⟩).forCall (fun _ _ => 0) ⟨#[], #[Value.agg #[.slice none 0 0, .slice none 0 0], .agg #[.int .u8 0, .int .u8 0], .slice none 0 0], []⟩).memory := laidMet_of_run' 8 (by kernel_rfl) (by kernel_rfl)
theorem reads (os : Os) {H : Type} (enc : TypeId × Value → H) : ∃ places, DataW.whole enc Try.prog ((World.holding Try.prog os ⟨#[], #[], []⟩).forCall (fun _ _ => 0) ⟨#[], #[Value.agg #[.slice none 0 0, .slice none 0 0], .agg #[.int .u8 0, .int .u8 0], .slice none 0 0], []⟩).memory Try.f7.params.toList Rows.deviceFailSpec.vars false #[Value.agg #[.slice none 0 0, .slice none 0 0], .agg #[.int .u8 0, .int .u8 0], .slice none 0 0].toList 8 = some ([.agg [.nil, .nil], .agg [.lit (.int .u8 0), .lit (.int .u8 0)], .nil], [], places) :=
  ⟨[], by kernel_rfl⟩

set_option maxRecDepth 100000 in
theorem lifted (os : Os) (started : os.Started) (H : Type) (enc : TypeId × Value → H) (F : Stop.Interp) :
    ReturnsInHanded {} Try.checked os 7 .any ((OpenSpec.ofChange Rows.deviceFailSpec).preRow enc Try.prog Try.f7 Rows.deviceFailRow.domain false Rows.deviceFailRow.laid) (((OpenSpec.ofChange Rows.deviceFailSpec).at F).post enc Try.prog Try.f7 false true false false) := by
  obtain ⟨places, hx⟩ := reads os enc
  refine returnsInHanded_of_row (C := Try.checked) (s := OpenSpec.ofChange Rows.deviceFailSpec) own started (by kernel_rfl) Try.func7
    (witness_row_at (enc := enc) (C := Try.checked) false _ #[Value.agg #[.slice none 0 0, .slice none 0 0], .agg #[.int .u8 0, .int .u8 0], .slice none 0 0] rfl (by kernel_rfl) (by kernel_rfl) (by kernel_rfl)
      (OpenSpec.preRow_of_cond 8 hx (by kernel_rfl) (fun k hk => by cases hk) (by kernel_rfl) (laid_met os))) ?_
  intro W base args ds gs before hval hW _ _ _ _ _ _
  exact contract H enc W base args ds gs before hval hW

theorem said : Rows.DeviceFailSaid :=
  OpenClaim.holds_of_cond 7 Try.f7 rfl rfl rfl rfl rfl rfl rfl ⟨rfl, rfl, rfl, rfl, rfl⟩ rfl rfl rfl rfl rfl (by kernel_rfl) Try.func7 (by kernel_rfl)
    (of_decide_eq_true (by kernel_rfl)) (by unfold Func.isWrapper; first | (rw [if_pos (by decide +kernel)]; kernel_rfl) | (rw [if_neg (by decide +kernel)]; exact ⟨rfl, rfl⟩))
    (fun os started H enc _ F => by rw [OpenClaim.pre_eq_preRow]; exact lifted os started H enc F)
end Go.Proofs.Ythlaackalmgfnaa.deviceFail
