/- The law DeviceFail, walked. -/
import Derived.Test.YthlaackalmgfnaaFg7
namespace Go.Proofs.Ythlaackalmgfnaa
open Go.RowKit

set_option linter.unusedSimpArgs false in
set_option maxRecDepth 100000 in
set_option maxHeartbeats 12800000 in
theorem fail_law {w : World} {a a' : Option Addr} {xs ys : List DoX} (h : DosAt w a xs) (h' : DosAt w a' ys) (c c' n n2 : Nat) (hn : n < 256) (hn2 : n2 < 256) {ka : Option Addr} {kc : Nat} {k : List Int} (hk : IntsAt w (.slice ka k.length kc) k) : Calls Try.prog 7 #[.agg #[.slice a xs.length c, .slice a' ys.length c'], .agg #[.int .u8 (n : Int), .int .u8 (n2 : Int)], .slice ka k.length kc] w fun e w' => e = .returned (.bool true) ∧ Below w.heap.size w w' := by
  obtain ⟨W0, hW0⟩ : ∃ W0, (w.alloc (.cells #[.slice a xs.length c, .slice a' ys.length c'] 64)).alloc (.cells #[.int .u8 (n : Int), .int .u8 (n2 : Int)] 76) = W0 := ⟨_, rfl⟩
  have hB0 : Below w.heap.size w W0 := by rw [← hW0]; exact ((Below.refl _ _).alloc (Nat.le_refl _) _).alloc (by simp) _
  have hG0 : W0.heap[w.heap.size]? = some (.cells #[.slice a xs.length c, .slice a' ys.length c'] 64 (0, 0)) := by rw [← hW0, Below.heap_alloc _ _ _ (by simp)]; exact heap_alloc_last _ _
  have hG1 : W0.heap[w.heap.size + 1]? = some (.cells #[.int .u8 (n : Int), .int .u8 (n2 : Int)] 76 (0, 0)) := by
    rw [← hW0]
    have := heap_alloc_last (w.alloc (.cells #[.slice a xs.length c, .slice a' ys.length c'] 64)) (.cells #[.int .u8 (n : Int), .int .u8 (n2 : Int)] 76)
    simpa using this
  have HG : Hid (∀ wr, Below W0.heap.size W0 wr → wr.cell? ⟨w.heap.size, 0, none⟩ = some (.slice a xs.length c) ∧ wr.cell? ⟨w.heap.size, 1, none⟩ = some (.slice a' ys.length c') ∧ wr.cell? ⟨w.heap.size + 1, 0, none⟩ = some (.int .u8 (n : Int)) ∧ wr.cell? ⟨w.heap.size + 1, 1, none⟩ = some (.int .u8 (n2 : Int))) := fun wr hb => by
    have e : wr.heap[w.heap.size]? = some (.cells #[.slice a xs.length c, .slice a' ys.length c'] 64 (0, 0)) := by rw [hb.block _ (row_lt hG0)]; exact hG0
    have e2 : wr.heap[w.heap.size + 1]? = some (.cells #[.int .u8 (n : Int), .int .u8 (n2 : Int)] 76 (0, 0)) := by rw [hb.block _ (row_lt hG1)]; exact hG1
    exact ⟨by rw [cell_of_row _ _ _ _ _ _ e]; rfl, by rw [cell_of_row _ _ _ _ _ _ e]; rfl, by rw [cell_of_row _ _ _ _ _ _ e2]; rfl, by rw [cell_of_row _ _ _ _ _ _ e2]; rfl⟩
  have HMu : Hid (Calls Try.prog 9 #[.slice a xs.length c, .int .i64 60] W0 fun e w' => e = .returned (.bool (muchD xs 60)) ∧ w' = W0) := much_any (h.below hB0) c 60 (by omega)
  have HMu2 : Hid (Calls Try.prog 9 #[.slice a' ys.length c', .int .i64 60] W0 fun e w' => e = .returned (.bool (muchD ys 60)) ∧ w' = W0) := much_any (h'.below hB0) c' 60 (by omega)
  have HX : Hid (DosAt W0 a xs) := h.below hB0
  have HY : Hid (DosAt W0 a' ys) := h'.below hB0
  have HK : Hid (IntsAt W0 (.slice ka k.length kc) k) := hk.below hB0
  have HB0 : Hid (Below w.heap.size w W0) := hB0
  have HW0 : Hid _ := hW0
  obtain ⟨c0, c1, c2, c3⟩ := HG.out W0 (Below.refl _ _)
  clear h h' hk hB0 hG0 hG1 hW0
  go_enter Try.func7, Try.ntmps7
  go_wp2_with fail
  rw [HW0.out]
  refine Calls.mono HMu.out ?_
  rintro e w' ⟨rfl, rfl⟩
  clear HMu HW0
  cases hm1 : muchD xs 60 with
  | true =>
    clear hm1 HX HY HK HG HMu2
    go_wp2
    go_ret
    exact ⟨rfl, HB0.out⟩
  | false =>
    obtain ⟨hl, hm, hmx⟩ := much_parts hm1
    have HM : Hid (xs.any muchB = false) := hm
    clear hm1 hm hmx
    go_wp2_with fail
    refine Calls.mono HMu2.out ?_
    rintro e w0 ⟨rfl, rfl⟩
    clear HMu2
    cases hm2 : muchD ys 60 with
    | true =>
      clear hm2 HX HY HK HG
      go_wp2
      go_ret
      exact ⟨rfl, HB0.out⟩
    | false =>
      obtain ⟨hl2, -, hmy⟩ := much_parts hm2
      have HMY : Hid (∀ x ∈ ys, x.k.length ≤ 100) := fun x hx => (hmy x hx).2
      clear hm2 hmy
      by_cases hkl : 100 < k.length
      · have hkl2 : (100 : Int) < (k.length : Int) := by omega
        clear HX HY HK HG
        go_wp2
        go_ret
        exact ⟨rfl, HB0.out⟩
      · have hkl2 : ¬ (100 : Int) < (k.length : Int) := by omega
        obtain ⟨f1, f2⟩ := afterD_few n xs
        have hwf := afterD_wf n xs
        have hup := afterD_up n xs
        obtain ⟨D0, hD0⟩ : ∃ D0, afterD n xs = D0 := ⟨_, rfl⟩
        rw [hD0] at f1 f2 hwf hup
        have HA : Hid (afterD n xs = D0) := hD0
        have HWf : Hid (Wf D0 ∧ D0.up = true) := ⟨hwf, hup⟩
        clear hD0 hwf
        have HAf : Hid (∀ ds wr, Sys w0 ds [] [] [] wr → Calls Try.prog 28 #[.int .u8 (n : Int), .slice a xs.length c] wr fun e w' => ∃ p, e = .returned (.pointer (some ⟨p, 0, none⟩)) ∧ Sys w0 (ds ++ [(p, D0)]) [] [] [] w') := fun ds wr h => by
          have := sys_after h HX.out c n hn (by omega) HM.out
          rw [HA.out] at this
          exact this
        have HS0 : Hid (Sys w0 [] [] [] [] w0.drew) := (Sys.nil w0).below (Below.refl _ _).drew
        go_upto_region 3 with fail
        go_cut [7, 8] (fun s1 s2 wx => ∃ p1 p2, s1 = .pointer (some ⟨p1, 0, none⟩) ∧ s2 = .pointer (some ⟨p2, 0, none⟩) ∧ Sys w0 [(p1, D0), (p2, D0)] [] [] [] wx)
        case first =>
          refine wp_region_held (S := fun w' => Below w0.heap.size w0 w') (by kernel_rfl) ?_
          change wpAnyH _ _ _ _ _ _ _ _ (World.drew _)
          have HBd : Below w0.heap.size w0 w0.drew := (Below.refl _ _).drew
          clear c0 c1 c2 c3
          generalize w0.drew = W9 at *
          refine wpAnyH_take (i := 0) (v := .pointer (some ⟨w.heap.size + 1, 0, none⟩)) rfl (by kernel_rfl) (by kernel_rfl) (by kernel_rfl) (fun _ _ _ h => h) (Or.inl ⟨by first | rfl | kernel_rfl, by intro w hw; obtain ⟨hw1, hw2, hw3, hw4⟩ := HG.out w hw; go_simp⟩) HBd ?_
          simp only [List.getElem_toArray, List.getElem_cons_succ, List.getElem_cons_zero, Act.put, List.setIfInBounds_toArray, List.set_cons_zero, List.set_cons_succ]
          refine wpAnyH_take (i := 1) (v := .int .u8 (n : Int)) rfl (by kernel_rfl) (by kernel_rfl) (by kernel_rfl) (fun _ _ _ h => h) (Or.inl ⟨by first | rfl | kernel_rfl, by intro w hw; obtain ⟨hw1, hw2, hw3, hw4⟩ := HG.out w hw; go_simp⟩) HBd ?_
          simp only [List.getElem_toArray, List.getElem_cons_succ, List.getElem_cons_zero, Act.put, List.setIfInBounds_toArray, List.set_cons_zero, List.set_cons_succ]
          refine wpAnyH_take (i := 2) (v := .pointer (some ⟨w.heap.size, 0, none⟩)) rfl (by kernel_rfl) (by kernel_rfl) (by kernel_rfl) (fun _ _ _ h => h) (Or.inl ⟨by first | rfl | kernel_rfl, by intro w hw; obtain ⟨hw1, hw2, hw3, hw4⟩ := HG.out w hw; go_simp⟩) HBd ?_
          simp only [List.getElem_toArray, List.getElem_cons_succ, List.getElem_cons_zero, Act.put, List.setIfInBounds_toArray, List.set_cons_zero, List.set_cons_succ]
          refine wpAnyH_take (i := 3) (v := .slice a xs.length c) rfl (by kernel_rfl) (by kernel_rfl) (by kernel_rfl) (fun _ _ _ h => h) (Or.inl ⟨by first | rfl | kernel_rfl, by intro w hw; obtain ⟨hw1, hw2, hw3, hw4⟩ := HG.out w hw; go_simp⟩) HBd ?_
          simp only [List.getElem_toArray, List.getElem_cons_succ, List.getElem_cons_zero, Act.put, List.setIfInBounds_toArray, List.set_cons_zero, List.set_cons_succ]
          refine wpAnyH_take (i := 5) (v := .pointer (some ⟨w.heap.size + 1, 0, none⟩)) rfl (by kernel_rfl) (by kernel_rfl) (by kernel_rfl) (fun _ _ _ h => h) (Or.inl ⟨by first | rfl | kernel_rfl, by intro w hw; obtain ⟨hw1, hw2, hw3, hw4⟩ := HG.out w hw; go_simp⟩) HBd ?_
          simp only [List.getElem_toArray, List.getElem_cons_succ, List.getElem_cons_zero, Act.put, List.setIfInBounds_toArray, List.set_cons_zero, List.set_cons_succ]
          refine wpAnyH_take (i := 6) (v := .int .u8 (n : Int)) rfl (by kernel_rfl) (by kernel_rfl) (by kernel_rfl) (fun _ _ _ h => h) (Or.inl ⟨by first | rfl | kernel_rfl, by intro w hw; obtain ⟨hw1, hw2, hw3, hw4⟩ := HG.out w hw; go_simp⟩) HBd ?_
          simp only [List.getElem_toArray, List.getElem_cons_succ, List.getElem_cons_zero, Act.put, List.setIfInBounds_toArray, List.set_cons_zero, List.set_cons_succ]
          refine wpAnyH_take (i := 7) (v := .pointer (some ⟨w.heap.size, 0, none⟩)) rfl (by kernel_rfl) (by kernel_rfl) (by kernel_rfl) (fun _ _ _ h => h) (Or.inl ⟨by first | rfl | kernel_rfl, by intro w hw; obtain ⟨hw1, hw2, hw3, hw4⟩ := HG.out w hw; go_simp⟩) HBd ?_
          simp only [List.getElem_toArray, List.getElem_cons_succ, List.getElem_cons_zero, Act.put, List.setIfInBounds_toArray, List.set_cons_zero, List.set_cons_succ]
          refine wpAnyH_take (i := 8) (v := .slice a xs.length c) rfl (by kernel_rfl) (by kernel_rfl) (by kernel_rfl) (fun _ _ _ h => h) (Or.inl ⟨by first | rfl | kernel_rfl, by intro w hw; obtain ⟨hw1, hw2, hw3, hw4⟩ := HG.out w hw; go_simp⟩) HBd ?_
          simp only [List.getElem_toArray, List.getElem_cons_succ, List.getElem_cons_zero, Act.put, List.setIfInBounds_toArray, List.set_cons_zero, List.set_cons_succ]
          refine wpAnyH_ready (rs := [4]) (by kernel_rfl) (by simp) (AllReadyH.cons (by simp only [List.getElem?_toArray, List.getElem?_cons_succ, List.getElem?_cons_zero]; rfl) (fun K hK => ?_) AllReadyH.nil)
          refine step_plain rfl ?_
          go_simp
          refine Calls.mono (HAf.out _ _ HS0.out) ?_
          rintro e w1 ⟨p1, rfl, h1⟩
          have HBd := h1.base
          refine hK.out _ _ HBd (fun _ => ?_)
          clear hK K
          try simp only [List.getElem_toArray, List.getElem_cons_succ, List.getElem_cons_zero, Act.put, List.setIfInBounds_toArray, List.set_cons_zero, List.set_cons_succ]
          refine wpAnyH_ready (rs := [9]) (by kernel_rfl) (by simp) (AllReadyH.cons (by simp only [List.getElem?_toArray, List.getElem?_cons_succ, List.getElem?_cons_zero]; rfl) (fun K hK => ?_) AllReadyH.nil)
          refine step_plain rfl ?_
          go_simp
          refine Calls.mono (HAf.out _ _ h1) ?_
          rintro e w2 ⟨p2, rfl, h2⟩
          have HBd := h2.base
          refine hK.out _ _ HBd (fun _ => ?_)
          clear hK K
          try simp only [List.getElem_toArray, List.getElem_cons_succ, List.getElem_cons_zero, Act.put, List.setIfInBounds_toArray, List.set_cons_zero, List.set_cons_succ]
          refine wpAnyH_take (i := 10) (v := .pointer (some ⟨p1, 0, none⟩)) rfl (by kernel_rfl) (by kernel_rfl) (by kernel_rfl) (fun _ _ _ h => h) (Or.inl ⟨by first | rfl | kernel_rfl, by intro w hw; obtain ⟨hw1, hw2, hw3, hw4⟩ := HG.out w hw; go_simp⟩) HBd ?_
          simp only [List.getElem_toArray, List.getElem_cons_succ, List.getElem_cons_zero, Act.put, List.setIfInBounds_toArray, List.set_cons_zero, List.set_cons_succ]
          refine wpAnyH_take (i := 11) (v := .pointer (some ⟨p2, 0, none⟩)) rfl (by kernel_rfl) (by kernel_rfl) (by kernel_rfl) (fun _ _ _ h => h) (Or.inl ⟨by first | rfl | kernel_rfl, by intro w hw; obtain ⟨hw1, hw2, hw3, hw4⟩ := HG.out w hw; go_simp⟩) HBd ?_
          simp only [List.getElem_toArray, List.getElem_cons_succ, List.getElem_cons_zero, Act.put, List.setIfInBounds_toArray, List.set_cons_zero, List.set_cons_succ]
          refine wpAnyH_done (by kernel_rfl) ?_ _
          go_wp2_with fail
          go_meet
          exact ⟨p1, p2, rfl, rfl, h2⟩
        case rest =>
          obtain ⟨p1, p2, rfl, rfl, hS⟩ := hcut
          have HS1 : Hid _ := hS
          obtain ⟨c0, c1, c2, c3⟩ := HG.out wc hS.base
          have HL : Hid (((n2 : Int) % 20) = ((n2 % 20 : Nat) : Int)) := by show _ = _; omega
          have hl20 : n2 % 20 < 20 := Nat.mod_lt _ (by omega)
          have HFa : Hid (Calls Try.prog 34 #[.pointer (some ⟨p1, 0, none⟩), .int .i64 ((n2 : Int) % 20), .slice ka k.length kc] wc fun e w' => e = .returned (.int .i64 0) ∧ Sys w0 [(p1, wF D0 (n2 % 20) k), (p2, D0)] [] [] [] w') := by
            have := sys_fail HS1.out 0 rfl ((n2 % 20 : Nat) : Int) (by omega) HK.out (by omega)
            rw [failF_up HWf.out.2] at this
            rw [HL.out]
            exact this
          clear hS HS1 HAf HS0 HX HA HM
          go_wp2_with fail
          refine Calls.mono HFa.out ?_
          rintro e w3 ⟨rfl, h3⟩
          have HS3 : Hid _ := h3
          clear h3 HFa c0 c1 c2 c3
          go_wp2
          have HFK : Hid (FK w0 w.heap.size a' c' ys k ka kc D0.starts) := ⟨fun wr hb => (HG.out wr hb).2.1, HY.out, HK.out, hl2, HMY.out, by omega⟩
          have HFR : Hid (FR w0 p1 p2 k D0.starts (n2 % 20) 0 D0 w3) := ⟨hl20, HWf.out.1, HWf.out.2, rfl, by omega, HS3.out⟩
          clear HS3 HG HY HK HMY
          rw [HL.out]
          refine floop2 HFK.out (n2 % 20) 0 D0 (Nat.zero_le _) HFR.out (by kernel_rfl) ?_ ?_
          · intro u cc y0 y1 y4 left m ov wr hFR
            have hS := hFR.sys
            have hou := hFR.up
            have HS90 : Hid (Sys w0 [(p1, wF ov left k), (p2, ov)] [] [] [] wr) := hS
            clear HFR HFK hFR HL hl20
            unfold ffr
            have hSE : statesD (wF ov left k) = statesD ov := rfl
            have hAE : allD (wF ov left k) = allD ov := rfl
            have HSE : Hid _ := hSE
            have HAE : Hid _ := hAE
            clear hS hSE hAE
            have HC101 : Hid (Calls Try.prog 26 #[.pointer (some ⟨p1, 0, none⟩)] wr fun e w' => e = .returned (.bool true) ∧ w' = wr) := by
                            have := sys_up HS90.out 0 rfl 
                            rw [show (wF ov left k).up = true from hou] at this
                            exact this
            go_wp2_with fail
            refine Calls.mono HC101.out ?_
            rintro e w101 ⟨rfl, rfl⟩
            clear HC101 
            have HC102 : Hid (Calls Try.prog 24 #[.pointer (some ⟨p1, 0, none⟩)] w101 fun e w' => ∃ v, e = .returned v ∧ Sys w0 [(p1, wF ov left k), (p2, ov)] [(v, statesD (wF ov left k))] [] [] w') := sys_states HS90.out 0 rfl
            clear HS90
            go_wp2_with fail
            refine Calls.mono HC102.out ?_
            rintro e w102 ⟨v102, rfl, h102⟩
            have HS102 : Hid (Sys w0 [(p1, wF ov left k), (p2, ov)] [(v102, statesD (wF ov left k))] [] [] w102) := h102
            clear HC102 h102 
            have HC103 : Hid (Calls Try.prog 24 #[.pointer (some ⟨p2, 0, none⟩)] w102 fun e w' => ∃ v, e = .returned v ∧ Sys w0 [(p1, wF ov left k), (p2, ov)] [(v, statesD (ov)), (v102, statesD (wF ov left k))] [] [] w') := sys_states HS102.out 1 rfl
            clear HS102
            go_wp2_with fail
            refine Calls.mono HC103.out ?_
            rintro e w103 ⟨v103, rfl, h103⟩
            have HS103 : Hid (Sys w0 [(p1, wF ov left k), (p2, ov)] [(v103, statesD (ov)), (v102, statesD (wF ov left k))] [] [] w103) := h103
            clear HC103 h103 
            have HC104 : Hid (Calls Try.prog 14 #[v102, v103] w103 fun e w' => e = .returned (.bool true) ∧ Sys w0 [(p1, wF ov left k), (p2, ov)] [(v103, statesD (ov)), (v102, statesD (wF ov left k))] [] [] w') := sys_ints HS103.out (l1 := statesD (wF ov left k)) (l2 := statesD (ov)) (by simp) (by simp) (by have := statesD_len2 HS103.out 0 rfl; omega) HSE.out
            clear HS103
            go_wp2_with fail
            refine Calls.mono HC104.out ?_
            rintro e w104 ⟨rfl, h104⟩
            have HS104 : Hid (Sys w0 [(p1, wF ov left k), (p2, ov)] [(v103, statesD (ov)), (v102, statesD (wF ov left k))] [] [] w104) := h104
            clear HC104 h104 
            have HC105 : Hid (Calls Try.prog 30 #[.pointer (some ⟨p1, 0, none⟩)] w104 fun e w' => ∃ v, e = .returned v ∧ Sys w0 [(p1, wF ov left k), (p2, ov)] [(v103, statesD (ov)), (v102, statesD (wF ov left k))] [(v, allD (wF ov left k))] [] w') := sys_all HS104.out 0 rfl
            clear HS104
            go_wp2_with fail
            refine Calls.mono HC105.out ?_
            rintro e w105 ⟨v105, rfl, h105⟩
            have HS105 : Hid (Sys w0 [(p1, wF ov left k), (p2, ov)] [(v103, statesD (ov)), (v102, statesD (wF ov left k))] [(v105, allD (wF ov left k))] [] w105) := h105
            clear HC105 h105 
            have HC106 : Hid (Calls Try.prog 30 #[.pointer (some ⟨p2, 0, none⟩)] w105 fun e w' => ∃ v, e = .returned v ∧ Sys w0 [(p1, wF ov left k), (p2, ov)] [(v103, statesD (ov)), (v102, statesD (wF ov left k))] [(v, allD (ov)), (v105, allD (wF ov left k))] [] w') := sys_all HS105.out 1 rfl
            clear HS105
            go_wp2_with fail
            refine Calls.mono HC106.out ?_
            rintro e w106 ⟨v106, rfl, h106⟩
            have HS106 : Hid (Sys w0 [(p1, wF ov left k), (p2, ov)] [(v103, statesD (ov)), (v102, statesD (wF ov left k))] [(v106, allD (ov)), (v105, allD (wF ov left k))] [] w106) := h106
            clear HC106 h106 
            have HC107 : Hid (Calls Try.prog 35 #[v105, v106] w106 fun e w' => e = .returned (.bool true) ∧ Sys w0 [(p1, wF ov left k), (p2, ov)] [(v103, statesD (ov)), (v102, statesD (wF ov left k))] [(v106, allD (ov)), (v105, allD (wF ov left k))] [] w') := sys_texts HS106.out (l1 := allD (wF ov left k)) (l2 := allD (ov)) (by simp) (by simp) (by have := allD_len2 HS106.out 0 rfl; omega) HAE.out
            clear HS106
            go_wp2_with fail
            refine Calls.mono HC107.out ?_
            rintro e w107 ⟨rfl, h107⟩
            have HS107 : Hid (Sys w0 [(p1, wF ov left k), (p2, ov)] [(v103, statesD (ov)), (v102, statesD (wF ov left k))] [(v106, allD (ov)), (v105, allD (wF ov left k))] [] w107) := h107
            clear HC107 h107 
            have HC108 : Hid (Calls Try.prog 25 #[.pointer (some ⟨p1, 0, none⟩)] w107 fun e w' => e = .returned (.int .i64 (ov.acts.length : Int)) ∧ w' = w107) := by
                            have := sys_pending HS107.out 0 rfl 
                            rw [show (wF ov left k).acts.length = ov.acts.length from rfl] at this
                            exact this
            go_wp2_with fail
            refine Calls.mono HC108.out ?_
            rintro e w108 ⟨rfl, rfl⟩
            clear HC108 
            have HC109 : Hid (Calls Try.prog 25 #[.pointer (some ⟨p2, 0, none⟩)] w108 fun e w' => e = .returned (.int .i64 (ov.acts.length : Int)) ∧ w' = w108) := sys_pending HS107.out 1 rfl 
            go_wp2_with fail
            refine Calls.mono HC109.out ?_
            rintro e w109 ⟨rfl, rfl⟩
            clear HC109 
            have hpp : ((ov.acts.length : Int) == (ov.acts.length : Int)) = true := by simp
            have HC110 : Hid (Calls Try.prog 16 #[] w109 fun e w' => e = .returned (.bool true) ∧ Sys w0 [(p1, wF ov left k), (p2, ov)] [(v103, statesD (ov)), (v102, statesD (wF ov left k))] [(v106, allD (ov)), (v105, allD (wF ov left k))] [] w') := (does_any w109).mono fun _ _ hh => ⟨hh.1, HS107.out.below hh.2⟩
            clear HS107
            go_wp2_with fail
            refine Calls.mono HC110.out ?_
            rintro e w110 ⟨rfl, h110⟩
            have HS110 : Hid (Sys w0 [(p1, wF ov left k), (p2, ov)] [(v103, statesD (ov)), (v102, statesD (wF ov left k))] [(v106, allD (ov)), (v105, allD (wF ov left k))] [] w110) := h110
            clear HC110 h110 
            have HB : Hid (Below w.heap.size w w110) := HB0.out.trans (HS110.out.base.mono HB0.out.size)
            clear HS110
            go_wp2
            go_ret
            exact ⟨rfl, HB.out⟩
          · intro a1 w1 h6 hd hb
            show bodyPost Try.prog Try.f7 (fun e w' => e = .returned (.bool true) ∧ Below w.heap.size w w') .ret a1 w1
            refine bodyPost_ret (v := .bool true) ?_ hd (And.intro rfl (HB0.out.trans (hb.mono HB0.out.size)))
            simp only [results, Try.results7]
            simpa [go_sem] using h6
theorem fail_int {w : World} {a a' : Option Addr} {xs ys : List DoX} (h : DosAt w a xs ∧ DosAt w a' ys) (c c' n n2 : Nat) (hn : n < 256 ∧ n2 < 256) {ka : Option Addr} {kc : Nat} {k : List Int} (hk : IntsAt w (.slice ka k.length kc) k) : Calls Try.prog 7 #[.agg #[.slice a xs.length c, .slice a' ys.length c'], .agg #[.int .u8 (n : Int), .int .u8 (n2 : Int)], .slice ka k.length kc] w fun e w' => e = .returned (.bool true) ∧ Below w.heap.size w w' := fail_law h.1 h.2 c c' n n2 hn.1 hn.2 hk
end Go.Proofs.Ythlaackalmgfnaa
