/- The law DeviceTorn, walked. -/
import Derived.Test.YthlaackalmgfnaaEr
import Derived.Test.YthlaackalmgfnaaEc
import Derived.Test.YthlaackalmgfnaaOf
namespace Go.Proofs.Ythlaackalmgfnaa
open Go.RowKit

set_option linter.unusedSimpArgs false in
set_option maxRecDepth 100000 in
set_option maxHeartbeats 6400000 in
theorem torn_law {w : World} {a : Option Addr} {xs : List DoX} (h : DosAt w a xs) (c n : Nat) (hn : n < 256) (x : TornX) (hx : x.ok w) : Calls Try.prog 6 #[.int .u8 (n : Int), .slice a xs.length c, .agg x.v] w fun e w' => e = .returned (.bool true) ∧ Below w.heap.size w w' := by
  obtain ⟨W0, hW0⟩ : ∃ W0, w.alloc (.cells #[.string (S x.s), .slice x.wa x.ws.length x.wc, .slice x.ea x.es.length x.ec, .slice x.ka x.k.length x.kc] 73) = W0 := ⟨_, rfl⟩
  have hB0 : Below w.heap.size w W0 := by rw [← hW0]; exact (Below.refl _ _).alloc (Nat.le_refl _) _
  have hG0 : W0.heap[w.heap.size]? = some (.cells #[.string (S x.s), .slice x.wa x.ws.length x.wc, .slice x.ea x.es.length x.ec, .slice x.ka x.k.length x.kc] 73 (0, 0)) := by rw [← hW0]; exact heap_alloc_last _ _
  have HG : Hid (∀ wr, Below W0.heap.size W0 wr → wr.cell? ⟨w.heap.size, 0, none⟩ = some (.string (S x.s)) ∧ wr.cell? ⟨w.heap.size, 1, none⟩ = some (.slice x.wa x.ws.length x.wc) ∧ wr.cell? ⟨w.heap.size, 2, none⟩ = some (.slice x.ea x.es.length x.ec) ∧ wr.cell? ⟨w.heap.size, 3, none⟩ = some (.slice x.ka x.k.length x.kc)) := fun wr hb => by
    have e : wr.heap[w.heap.size]? = some (.cells #[.string (S x.s), .slice x.wa x.ws.length x.wc, .slice x.ea x.es.length x.ec, .slice x.ka x.k.length x.kc] 73 (0, 0)) := by rw [hb.block _ (row_lt hG0)]; exact hG0
    exact ⟨by rw [cell_of_row _ _ _ _ _ _ e]; rfl, by rw [cell_of_row _ _ _ _ _ _ e]; rfl, by rw [cell_of_row _ _ _ _ _ _ e]; rfl, by rw [cell_of_row _ _ _ _ _ _ e]; rfl⟩
  have HMu : Hid (Calls Try.prog 9 #[.slice a xs.length c, .int .i64 60] W0 fun e w' => e = .returned (.bool (muchD xs 60)) ∧ w' = W0) := much_any (h.below hB0) c 60 (by omega)
  have HX : Hid (DosAt W0 a xs) := h.below hB0
  have HK : Hid (IntsAt W0 (.slice x.ka x.k.length x.kc) x.k) := hx.k.below hB0
  have below_bytes : ∀ {v : Value} {l : List Nat}, BytesAt w v l → BytesAt W0 v l := fun {v l} h => by
    obtain ⟨h1, a, c, e, hh⟩ := h
    refine ⟨h1, a, c, e, fun i n hi => ?_⟩
    obtain ⟨b, o, ea, hc⟩ := hh i n hi
    exact ⟨b, o, ea, by rw [World.cell?_of_block (hB0.block b (World.block_lt_of_cell? w _ hc))]; exact hc⟩
  have HWs : Hid (BytesAt W0 (.slice x.wa x.ws.length x.wc) x.ws) := below_bytes hx.ws
  have HEs : Hid (BytesAt W0 (.slice x.ea x.es.length x.ec) x.es) := below_bytes hx.es
  have HB0 : Hid (Below w.heap.size w W0) := hB0
  have HW0 : Hid _ := hW0
  obtain ⟨c0, c1, c2, c3⟩ := HG.out W0 (Below.refl _ _)
  clear h hx hB0 hG0 hW0 below_bytes
  have HBl : Hid (∀ w : World, Calls Try.prog 20 #[.string (S x.s)] w fun e w' => e = .returned (.string (S (blockT x.s))) ∧ Below w.heap.size w w') := block_any x.s
  have HT128 : Hid ((blockT x.s).length = 128) := blockT_len x.s
  obtain ⟨T, hT⟩ : ∃ T, blockT x.s = T := ⟨_, rfl⟩
  rw [hT] at HBl HT128
  clear hT
  unfold TornX.v
  generalize S x.s = A at *
  go_enter Try.func6, Try.ntmps6
  go_wp2_with fail
  rw [HW0.out]
  refine Calls.mono HMu.out ?_
  rintro e w0 ⟨rfl, rfl⟩
  clear HMu HW0
  cases hm1 : muchD xs 60 with
  | true =>
    clear hm1
    clear HX HK HG
    go_wp2
    go_ret
    exact ⟨rfl, HB0.out⟩
  | false =>
    obtain ⟨hl, hm, hmx⟩ := much_parts hm1
    have HM : Hid (xs.any muchB = false) := hm
    clear hm1 hm hmx
    by_cases t1 : (100 : Int) < (x.k.length : Int)
    · clear HX HK HG
      go_wp2
      go_ret
      exact ⟨rfl, HB0.out⟩
    by_cases t2 : (200 : Int) < (A.size : Int)
    · clear HX HK HG
      go_wp2
      go_ret
      exact ⟨rfl, HB0.out⟩
    by_cases t3 : (30 : Int) < (x.ws.length : Int)
    · clear HX HK HG
      go_wp2
      go_ret
      exact ⟨rfl, HB0.out⟩
    by_cases t4 : (30 : Int) < (x.es.length : Int)
    · clear HX HK HG
      go_wp2
      go_ret
      exact ⟨rfl, HB0.out⟩
    obtain ⟨f1, f2⟩ := afterD_few n xs
    have hwf := afterD_wf n xs
    have hup := afterD_up n xs
    obtain ⟨D0, hD0⟩ : ∃ D0, afterD n xs = D0 := ⟨_, rfl⟩
    rw [hD0] at f1 f2 hwf hup
    have HA : Hid (afterD n xs = D0) := hD0
    have HFl : Hid (flushD D0 = (0, flD D0)) := flush_eqD hwf hup
    have HTw : Hid (Tw D0.told (ofT T) (List.replicate D0.told.length false) (List.replicate D0.told.length false) D0.starts 0 (flD D0)) := Tw.start hwf hup _
    have HPl : Hid (∀ b ∈ D0.told, b.st ≤ 2) := hwf.plain.told
    clear hD0 hwf
    have HS0 : Hid (Sys w0 [] [] [] [] w0) := Sys.nil _
    have HC1 : Hid (Calls Try.prog 28 #[.int .u8 (n : Int), .slice a xs.length c] w0 fun e w' => ∃ p, e = .returned (.pointer (some ⟨p, 0, none⟩)) ∧ Sys w0 [(p, D0)] [] [] [] w') := by
          have := sys_after HS0.out HX.out c n hn (by omega) HM.out
          rw [HA.out] at this
          exact this
    clear HS0
    go_wp2_with fail
    refine Calls.mono HC1.out ?_
    rintro e w1 ⟨p1, rfl, h1⟩
    have HS1 : Hid (Sys w0 [(p1, D0)] [] [] [] w1) := h1
    clear HC1 h1 c0 c1 c2 c3 HX HA HM
    have HC2 : Hid (Calls Try.prog 29 #[.pointer (some ⟨p1, 0, none⟩)] w1 fun e w' => e = .returned (.int .i64 0) ∧ Sys w0 [(p1, flD D0)] [] [] [] w') := by
          have := sys_flush HS1.out 0 rfl 
          rw [HFl.out] at this
          exact this
    clear HS1
    go_wp2_with fail
    refine Calls.mono HC2.out ?_
    rintro e w2 ⟨rfl, h2⟩
    have HS2 : Hid (Sys w0 [(p1, flD D0)] [] [] [] w2) := h2
    clear HC2 h2 
    have HC3 : Hid (Calls Try.prog 24 #[.pointer (some ⟨p1, 0, none⟩)] w2 fun e w' => ∃ v, e = .returned v ∧ Sys w0 [(p1, flD D0)] [(v, statesD (flD D0))] [] [] w') := sys_states HS2.out 0 rfl
    clear HS2
    go_wp2_with fail
    refine Calls.mono HC3.out ?_
    rintro e w3 ⟨v3, rfl, h3⟩
    have HS3 : Hid (Sys w0 [(p1, flD D0)] [(v3, statesD (flD D0))] [] [] w3) := h3
    clear HC3 h3 
    have HC4 : Hid (Calls Try.prog 30 #[.pointer (some ⟨p1, 0, none⟩)] w3 fun e w' => ∃ v, e = .returned v ∧ Sys w0 [(p1, flD D0)] [(v3, statesD (flD D0))] [(v, allD (flD D0))] [] w') := sys_all HS3.out 0 rfl
    clear HS3
    go_wp2_with fail
    refine Calls.mono HC4.out ?_
    rintro e w4 ⟨v4, rfl, h4⟩
    have HS4 : Hid (Sys w0 [(p1, flD D0)] [(v3, statesD (flD D0))] [(v4, allD (flD D0))] [] w4) := h4
    clear HC4 h4 
    obtain ⟨N, hN⟩ : ∃ N, D0.told.length = N := ⟨_, rfl⟩
    obtain ⟨a1, q1, e1, -⟩ := HS4.out.int (v := v3) (l := statesD (flD D0)) (by simp)
    obtain ⟨a2, q2, e2, -⟩ := HS4.out.text (v := v4) (l := allD (flD D0)) (by simp)
    have hsm := HS4.out.small 0 rfl
    have hN512 : N ≤ 512 := by rw [← hN]; exact hsm.1
    have hN0 : 0 < N := by rw [← hN]; exact hsm.2.2
    rw [statesD_len, show (flD D0).told.length = N from hN] at e1
    rw [allD_len, show (flD D0).sure.length = N from hN] at e2
    subst e1 e2
    rw [hN] at HTw
    have HN : Hid (D0.told.length = N) := hN
    clear hN hsm
    have hn0 : ((N : Int) == 0) = false := by
      have : ¬ (N : Int) = 0 := by omega
      simpa using this
    have hne : ((N : Int) != (N : Int)) = false := by simp
    obtain ⟨c0, -⟩ := HG.out _ HS4.out.base
    have HC5 : Hid (Calls Try.prog 20 #[.string A] w4 fun e w' => e = .returned (.string (S T)) ∧ Sys w0 [(p1, flD D0)] [(.slice a1 N q1, statesD (flD D0))] [(.slice a2 N q2, allD (flD D0))] [] w') := (HBl.out _).mono fun _ _ hh => ⟨hh.1, HS4.out.below hh.2⟩
    clear HS4
    go_wp2_with fail
    refine Calls.mono HC5.out ?_
    rintro e w5 ⟨rfl, h5⟩
    have HS5 : Hid (Sys w0 [(p1, flD D0)] [(.slice a1 N q1, statesD (flD D0))] [(.slice a2 N q2, allD (flD D0))] [] w5) := h5
    clear h5 HC5 c0 HBl
    have hmk := fun W => mk_bools N (by omega) W
    have HSd : Hid (Sys w0 [(p1, flD D0)] [(.slice a1 N q1, statesD (flD D0))] [(.slice a2 N q2, allD (flD D0))] [] w5.drew) := HS5.out.below (Below.refl _ _).drew
    clear HS5
    go_upto_region 11 with fail
    go_cut [12, 13] (fun s1 s2 wx => ∃ g1 g2 : Nat, g1 ≠ g2 ∧ (∀ b, (Value.slice a1 N q1).ownBlock = some b → b ≠ g1 ∧ b ≠ g2) ∧ (∀ b, (Value.slice a2 N q2).ownBlock = some b → b ≠ g1 ∧ b ≠ g2) ∧ s1 = .slice (some ⟨g1, 0, none⟩) N N ∧ s2 = .slice (some ⟨g2, 0, none⟩) N N ∧ Sys w0 [(p1, flD D0)] [(.slice a1 N q1, statesD (flD D0))] [(.slice a2 N q2, allD (flD D0))] [(g1, .cells (bv (List.replicate N false)) 4 (0, 0)), (g2, .cells (bv (List.replicate N false)) 4 (0, 0))] wx)
    case first =>
      refine wp_region_held (S := fun _ => True) (by kernel_rfl) ?_
      change wpAnyH _ _ _ _ _ _ _ _ (World.drew _)
      generalize w5.drew = W9 at *
      have HNo : Hid (∀ g1 g2, W9.heap.size ≤ g1 → W9.heap.size ≤ g2 → ∀ b, (Value.slice a1 N q1).ownBlock = some b → b ≠ g1 ∧ b ≠ g2) := fun g1 g2 h1 h2 b hb => by
        obtain ⟨O, hO⟩ := HSd.out
        have := ((hO.ints _ (statesD (flD D0)) (by simp)).2 b hb).2
        omega
      have HNo2 : Hid (∀ g1 g2, W9.heap.size ≤ g1 → W9.heap.size ≤ g2 → ∀ b, (Value.slice a2 N q2).ownBlock = some b → b ≠ g1 ∧ b ≠ g2) := fun g1 g2 h1 h2 b hb => by
        obtain ⟨O, hO⟩ := HSd.out
        have := ((hO.texts _ (allD (flD D0)) (by simp)).2 b hb).2
        omega
      have HTwo : Hid (Sys w0 [(p1, flD D0)] [(.slice a1 N q1, statesD (flD D0))] [(.slice a2 N q2, allD (flD D0))] [(W9.heap.size + 1, .cells (bv (List.replicate N false)) 4 (0, 0)), (W9.heap.size, .cells (bv (List.replicate N false)) 4 (0, 0))] ((W9.alloc (.cells (bv (List.replicate N false)) 4)).alloc (.cells (bv (List.replicate N false)) 4))) := by
        have := (HSd.out.addRow (.cells (bv (List.replicate N false)) 4)).addRow (.cells (bv (List.replicate N false)) 4)
        rw [show (W9.alloc (.cells (bv (List.replicate N false)) 4)).heap.size = W9.heap.size + 1 by simp] at this
        exact this
      refine wpAnyH_take (i := 0) (v := .int .i64 (N : Int)) rfl (by kernel_rfl) (by kernel_rfl) (by kernel_rfl) (fun _ _ _ h => h) (Or.inl ⟨by first | rfl | kernel_rfl, by intro w _; go_simp⟩) trivial ?_
      simp only [List.getElem_toArray, List.getElem_cons_succ, List.getElem_cons_zero, Act.put, List.setIfInBounds_toArray, List.set_cons_zero, List.set_cons_succ]
      refine wpAnyH_take (i := 2) (v := .int .i64 (N : Int)) rfl (by kernel_rfl) (by kernel_rfl) (by kernel_rfl) (fun _ _ _ h => h) (Or.inl ⟨by first | rfl | kernel_rfl, by intro w _; go_simp⟩) trivial ?_
      simp only [List.getElem_toArray, List.getElem_cons_succ, List.getElem_cons_zero, Act.put, List.setIfInBounds_toArray, List.set_cons_zero, List.set_cons_succ]
      refine wpAnyH_ready (rs := [1, 3]) (by kernel_rfl) (by simp) (AllReadyH.cons (by simp only [List.getElem?_toArray, List.getElem?_cons_succ, List.getElem?_cons_zero]; rfl) (fun K hK => ?_) (AllReadyH.cons (by simp only [List.getElem?_toArray, List.getElem?_cons_succ, List.getElem?_cons_zero]; rfl) (fun K hK => ?_) AllReadyH.nil))
      · refine step_want (by first | rfl | kernel_rfl) ?_
        go_simp
        refine hK.out _ _ trivial (fun _ => ?_)
        clear hK K
        try simp only [List.getElem_toArray, List.getElem_cons_succ, List.getElem_cons_zero, Act.put, List.setIfInBounds_toArray, List.set_cons_zero, List.set_cons_succ]
        refine wpAnyH_take (i := 4) (v := .slice (some ⟨W9.heap.size, 0, none⟩) N N) rfl (by kernel_rfl) (by kernel_rfl) (by kernel_rfl) (fun _ _ _ h => h) (Or.inl ⟨by first | rfl | kernel_rfl, by intro w _; go_simp⟩) trivial ?_
        simp only [List.getElem_toArray, List.getElem_cons_succ, List.getElem_cons_zero, Act.put, List.setIfInBounds_toArray, List.set_cons_zero, List.set_cons_succ]
        refine wpAnyH_ready (rs := [3]) (by kernel_rfl) (by simp) (AllReadyH.cons (by simp only [List.getElem?_toArray, List.getElem?_cons_succ, List.getElem?_cons_zero]; rfl) (fun K hK => ?_) AllReadyH.nil)
        refine step_want (by first | rfl | kernel_rfl) ?_
        go_simp
        refine hK.out _ _ trivial (fun _ => ?_)
        clear hK K
        try simp only [List.getElem_toArray, List.getElem_cons_succ, List.getElem_cons_zero, Act.put, List.setIfInBounds_toArray, List.set_cons_zero, List.set_cons_succ]
        refine wpAnyH_take (i := 5) (v := .slice (some ⟨W9.heap.size + 1, 0, none⟩) N N) rfl (by kernel_rfl) (by kernel_rfl) (by kernel_rfl) (fun _ _ _ h => h) (Or.inl ⟨by first | rfl | kernel_rfl, by intro w _; go_simp⟩) trivial ?_
        simp only [List.getElem_toArray, List.getElem_cons_succ, List.getElem_cons_zero, Act.put, List.setIfInBounds_toArray, List.set_cons_zero, List.set_cons_succ]
        refine wpAnyH_done (by kernel_rfl) ?_ _
        go_wp2_with fail
        go_meet
        exact ⟨W9.heap.size, W9.heap.size + 1, by omega, HNo.out _ _ (by omega) (by omega), HNo2.out _ _ (by omega) (by omega), rfl, rfl, HTwo.out.less (fun _ h => h) (fun _ h => h) (fun y h => by simp at h ⊢; rcases h with h | h; exact .inr h; exact .inl h)⟩
      · refine step_want (by first | rfl | kernel_rfl) ?_
        go_simp
        refine hK.out _ _ trivial (fun _ => ?_)
        clear hK K
        try simp only [List.getElem_toArray, List.getElem_cons_succ, List.getElem_cons_zero, Act.put, List.setIfInBounds_toArray, List.set_cons_zero, List.set_cons_succ]
        refine wpAnyH_ready (rs := [1]) (by kernel_rfl) (by simp) (AllReadyH.cons (by simp only [List.getElem?_toArray, List.getElem?_cons_succ, List.getElem?_cons_zero]; rfl) (fun K hK => ?_) AllReadyH.nil)
        refine step_want (by first | rfl | kernel_rfl) ?_
        go_simp
        refine hK.out _ _ trivial (fun _ => ?_)
        clear hK K
        try simp only [List.getElem_toArray, List.getElem_cons_succ, List.getElem_cons_zero, Act.put, List.setIfInBounds_toArray, List.set_cons_zero, List.set_cons_succ]
        refine wpAnyH_take (i := 4) (v := .slice (some ⟨W9.heap.size + 1, 0, none⟩) N N) rfl (by kernel_rfl) (by kernel_rfl) (by kernel_rfl) (fun _ _ _ h => h) (Or.inl ⟨by first | rfl | kernel_rfl, by intro w _; go_simp⟩) trivial ?_
        simp only [List.getElem_toArray, List.getElem_cons_succ, List.getElem_cons_zero, Act.put, List.setIfInBounds_toArray, List.set_cons_zero, List.set_cons_succ]
        refine wpAnyH_take (i := 5) (v := .slice (some ⟨W9.heap.size, 0, none⟩) N N) rfl (by kernel_rfl) (by kernel_rfl) (by kernel_rfl) (fun _ _ _ h => h) (Or.inl ⟨by first | rfl | kernel_rfl, by intro w _; go_simp⟩) trivial ?_
        simp only [List.getElem_toArray, List.getElem_cons_succ, List.getElem_cons_zero, Act.put, List.setIfInBounds_toArray, List.set_cons_zero, List.set_cons_succ]
        refine wpAnyH_done (by kernel_rfl) ?_ _
        go_wp2_with fail
        go_meet
        exact ⟨W9.heap.size + 1, W9.heap.size, by omega, HNo.out _ _ (by omega) (by omega), HNo2.out _ _ (by omega) (by omega), rfl, rfl, HTwo.out⟩
    case rest =>
      obtain ⟨g1, g2, hg12, hi1, ht1, rfl, rfl, hS⟩ := hcut
      have HNi : Hid (∀ v l, (v, l) ∈ [(Value.slice a1 N q1, statesD (flD D0))] → v.ownBlock ≠ some g1 ∧ v.ownBlock ≠ some g2) := fun v l hv => by
        simp at hv
        obtain ⟨rfl, rfl⟩ := hv
        exact ⟨fun e => (hi1 _ e).1 rfl, fun e => (hi1 _ e).2 rfl⟩
      have HNt : Hid (∀ v l, (v, l) ∈ [(Value.slice a2 N q2, allD (flD D0))] → v.ownBlock ≠ some g1 ∧ v.ownBlock ≠ some g2) := fun v l hv => by
        simp at hv
        obtain ⟨rfl, rfl⟩ := hv
        exact ⟨fun e => (ht1 _ e).1 rfl, fun e => (ht1 _ e).2 rfl⟩
      have HSc : Hid _ := hS
      have HG12 : Hid (g1 ≠ g2) := hg12
      clear HSd hmk hi1 ht1 hS hg12
      go_wp2
      go_loopw [14] (fun i wr => ∃ m : Nat, m ≤ x.ws.length ∧ i = .int .i64 m ∧ ∃ d Wl, Tw D0.told (ofT T) Wl (List.replicate N false) D0.starts m d ∧ Sys w0 [(p1, d)] [(.slice a1 N q1, statesD (flD D0))] [(.slice a2 N q2, allD (flD D0))] [(g1, .cells (bv Wl) 4 (0, 0)), (g2, .cells (bv (List.replicate N false)) 4 (0, 0))] wr) (fun i _ => x.ws.length - (intOf i).toNat)
      case atStart => exact ⟨0, by omega, rfl, flD D0, List.replicate N false, HTw.out, HSc.out⟩
      case round =>
        obtain ⟨m, hmm, rfl, d, Wl, hP, hS⟩ := hrel
        clear HSc HTw
        obtain ⟨-, c1, -⟩ := HG.out wr hS.base
        by_cases hlt : m < x.ws.length
        · obtain ⟨z, hz⟩ : ∃ z, x.ws[m]? = some z := ⟨_, List.getElem?_eq_getElem hlt⟩
          have hz256 : z < 256 := HWs.out.1 z (List.mem_of_getElem? hz)
          obtain ⟨b, o, ha, hc⟩ : ∃ b o, x.wa = some ⟨b, o, none⟩ ∧ w0.cell? ⟨b, o + m, none⟩ = some (.int .u8 (z : Int)) := by
            obtain ⟨-, a', c', e, hh⟩ := HWs.out
            simp at e
            obtain ⟨e1, e2⟩ := e
            obtain ⟨b, o, h1, h2⟩ := hh m z hz
            exact ⟨b, o, e1.trans h1, h2⟩
          have cz : wr.cell? ⟨b, o + m, none⟩ = some (.int .u8 (z : Int)) := by rw [World.cell?_of_block (hS.base.block b (World.block_lt_of_cell? w0 _ hc))]; exact hc
          rw [ha] at c1
          clear ha
          have hlt2 : (m : Int) < (x.ws.length : Int) := by omega
          have hzN : z % N < N := Nat.mod_lt _ hN0
          have hWl : Wl.length = N := by rw [hP.lw]; exact HN.out
          obtain ⟨bw, hbw⟩ : ∃ bw, Wl[z % N]? = some bw := ⟨_, List.getElem?_eq_getElem (by omega)⟩
          have HP2 : Hid _ := hP.write (z % N) T rfl bw hbw
          have hna : ¬ (N : Int) = 0 := by omega
          have hzm : ((z % N : Nat) : Int) = (z : Int) % (N : Int) := by omega
          have HWr : Hid (Calls Try.prog 19 #[.pointer (some ⟨p1, 0, none⟩), .int .i64 ((z % N : Nat) : Int), .string (S T)] wr fun e w' => e = .returned (.int .i64 (writeD d ((z % N : Nat) : Int) T).1) ∧ Sys w0 [(p1, (writeD d ((z % N : Nat) : Int) T).2)] [(.slice a1 N q1, statesD (flD D0))] [(.slice a2 N q2, allD (flD D0))] [(g1, .cells (bv Wl) 4 (0, 0)), (g2, .cells (bv (List.replicate N false)) 4 (0, 0))] w') := sys_write hS 0 rfl _ T (by have := hP.few; omega)
          obtain ⟨R, hR⟩ : ∃ R, writeD d ((z % N : Nat) : Int) T = R := ⟨_, rfl⟩
          rw [hR] at HWr HP2
          obtain ⟨E, D1⟩ := R
          dsimp only at HWr HP2
          clear hR hP hS hz hc HG
          go_wp2_with fail
          rw [← hzm]
          clear hzm cz c1
          generalize z % N = kz at *
          refine Calls.mono HWr.out ?_
          rintro e w5 ⟨rfl, h5⟩
          have hG := h5.row (List.mem_cons_self ..)
          have cg : w5.cell? ⟨g1, kz, none⟩ = some (.bool bw) := by rw [cell_of_row _ _ _ _ _ _ hG]; exact bv_get Wl kz bw hbw
          have fg : w5.frozen? ⟨g1, kz, none⟩ = false := frozen_of_row _ _ _ _ _ hG
          have hkz2 : (kz : Int) < (N : Int) := by omega
          have HPut : Hid (∀ u : Bool, Sys w0 [(p1, D1)] [(.slice a1 N q1, statesD (flD D0))] [(.slice a2 N q2, allD (flD D0))] [(g1, .cells (bv (Wl.set kz u)) 4 (0, 0)), (g2, .cells (bv (List.replicate N false)) 4 (0, 0))] (w5.setCell ⟨g1, kz, none⟩ (.bool u))) := fun u => by
            have := h5.putRow (fun o h => by simp at h; exact HG12.out h.1) (fun v l hv => (HNi.out v l hv).1) (fun v l hv => (HNt.out v l hv).1) kz (.bool u)
            rw [bv_set] at this
            exact this
          clear h5 hG HWr
          by_cases hE : E = 0
          · subst hE
            rw [decide_eq_true (rfl : (0 : Int) = 0), Bool.true_or] at HP2
            have HN5 : Hid _ := HPut.out true
            clear HPut
            go_wp2
            go_roundw
            case rel => exact ⟨m + 1, by omega, by go_num, D1, _, HP2.out, HN5.out⟩
            case measure => simp [intOf]; omega
          · rw [decide_eq_false hE, Bool.false_or] at HP2
            have hE2 : (E == 0) = false := by simpa using hE
            have HN5 : Hid _ := HPut.out bw
            clear HPut
            go_wp2
            go_roundw
            case rel => exact ⟨m + 1, by omega, by go_num, D1, _, HP2.out, HN5.out⟩
            case measure => simp [intOf]; omega
        · have hlt2 : ¬ (m : Int) < (x.ws.length : Int) := by omega
          have HTe : Hid (Tw D0.told (ofT T) Wl (List.replicate N false) D0.starts (30 + 0) d) := { hP with few := by have := hP.few; omega }
          have HSe : Hid (Sys w0 [(p1, d)] [(.slice a1 N q1, statesD (flD D0))] [(.slice a2 N q2, allD (flD D0))] [(g1, .cells (bv Wl) 4 (0, 0)), (g2, .cells (bv (List.replicate N false)) 4 (0, 0))] wr) := hS
          have hWl : Wl.length = N := by rw [hP.lw]; exact HN.out
          clear hP hS hlt HWs
          go_wp2
          go_loopw [16] (fun i wr => ∃ m : Nat, m ≤ x.es.length ∧ i = .int .i64 m ∧ ∃ d El, Tw D0.told (ofT T) Wl El D0.starts (30 + m) d ∧ Sys w0 [(p1, d)] [(.slice a1 N q1, statesD (flD D0))] [(.slice a2 N q2, allD (flD D0))] [(g1, .cells (bv Wl) 4 (0, 0)), (g2, .cells (bv El) 4 (0, 0))] wr) (fun i _ => x.es.length - (intOf i).toNat)
          case atStart => exact ⟨0, by omega, rfl, d, List.replicate N false, HTe.out, HSe.out⟩
          case round =>
            obtain ⟨m2, hmm2, rfl, d2, El, hP, hS⟩ := hrel
            clear HSe HTe
            obtain ⟨-, -, c2, c3⟩ := HG.out wr hS.base
            by_cases hlt : m2 < x.es.length
            · obtain ⟨z, hz⟩ : ∃ z, x.es[m2]? = some z := ⟨_, List.getElem?_eq_getElem hlt⟩
              have hz256 : z < 256 := HEs.out.1 z (List.mem_of_getElem? hz)
              obtain ⟨b, o, ha, hc⟩ : ∃ b o, x.ea = some ⟨b, o, none⟩ ∧ w0.cell? ⟨b, o + m2, none⟩ = some (.int .u8 (z : Int)) := by
                obtain ⟨-, a', c', e, hh⟩ := HEs.out
                simp at e
                obtain ⟨e1, e2⟩ := e
                obtain ⟨b, o, h1, h2⟩ := hh m2 z hz
                exact ⟨b, o, e1.trans h1, h2⟩
              have cz : wr.cell? ⟨b, o + m2, none⟩ = some (.int .u8 (z : Int)) := by rw [World.cell?_of_block (hS.base.block b (World.block_lt_of_cell? w0 _ hc))]; exact hc
              rw [ha] at c2
              clear ha
              have hlt2 : (m2 : Int) < (x.es.length : Int) := by omega
              have hzN : z % N < N := Nat.mod_lt _ hN0
              have hEl : El.length = N := by rw [hP.le]; exact HN.out
              obtain ⟨kz, hkz⟩ : ∃ kz, z % N = kz := ⟨_, rfl⟩
              have hzm : (z : Int) % (N : Int) = (kz : Int) := by omega
              have hzb : ¬ (z : Int) % (N : Int) < 0 := by omega
              have hkz2 : (kz : Int) < (N : Int) := by omega
              obtain ⟨bw, hbw⟩ : ∃ bw, Wl[kz]? = some bw := ⟨_, List.getElem?_eq_getElem (by omega)⟩
              obtain ⟨be, hbe⟩ : ∃ be, El[kz]? = some be := ⟨_, List.getElem?_eq_getElem (by omega)⟩
              have hna : ¬ (N : Int) = 0 := by omega
              have cw : wr.cell? ⟨g1, kz, none⟩ = some (.bool bw) := by rw [cell_of_row _ _ _ _ _ _ (hS.row (List.mem_cons_self ..))]; exact bv_get Wl kz bw hbw
              cases bw with
              | true =>
                have HNx : Hid (Tw D0.told (ofT T) Wl El D0.starts (30 + (m2 + 1)) d2 ∧ Sys w0 [(p1, d2)] [(.slice a1 N q1, statesD (flD D0))] [(.slice a2 N q2, allD (flD D0))] [(g1, .cells (bv Wl) 4 (0, 0)), (g2, .cells (bv El) 4 (0, 0))] wr) := ⟨hP.weak, hS⟩
                clear hP hS hz hc HG
                go_wp2
                go_roundw
                case rel => exact ⟨m2 + 1, by omega, by go_num, d2, El, HNx.out⟩
                case measure => simp [intOf]; omega
              | false =>
                have HP2 : Hid _ := hP.erase kz be hbw hbe
                have HEr : Hid (Calls Try.prog 33 #[.pointer (some ⟨p1, 0, none⟩), .int .i64 (kz : Int)] wr fun e w' => e = .returned (.int .i64 (eraseD d2 (kz : Int)).1) ∧ Sys w0 [(p1, (eraseD d2 (kz : Int)).2)] [(.slice a1 N q1, statesD (flD D0))] [(.slice a2 N q2, allD (flD D0))] [(g1, .cells (bv Wl) 4 (0, 0)), (g2, .cells (bv El) 4 (0, 0))] w') := sys_erase hS 0 rfl _ (by have := hP.few; omega)
                obtain ⟨R, hR⟩ : ∃ R, eraseD d2 (kz : Int) = R := ⟨_, rfl⟩
                rw [hR] at HEr HP2
                obtain ⟨E, D1⟩ := R
                dsimp only at HEr HP2
                clear hR hP hS hz hc HG
                go_wp2_with fail
                try rw [hzm]
                clear hzm hzb cz c2 cw c3
                refine Calls.mono HEr.out ?_
                rintro e w5 ⟨rfl, h5⟩
                have hG := h5.row (b := g2) (o := .cells (bv El) 4 (0, 0)) (by simp)
                have cg : w5.cell? ⟨g2, kz, none⟩ = some (.bool be) := by rw [cell_of_row _ _ _ _ _ _ hG]; exact bv_get El kz be hbe
                have fg : w5.frozen? ⟨g2, kz, none⟩ = false := frozen_of_row _ _ _ _ _ hG
                have HPut : Hid (∀ u : Bool, Sys w0 [(p1, D1)] [(.slice a1 N q1, statesD (flD D0))] [(.slice a2 N q2, allD (flD D0))] [(g1, .cells (bv Wl) 4 (0, 0)), (g2, .cells (bv (El.set kz u)) 4 (0, 0))] (w5.setCell ⟨g2, kz, none⟩ (.bool u))) := fun u => by
                  have h6 : Sys w0 [(p1, D1)] [(.slice a1 N q1, statesD (flD D0))] [(.slice a2 N q2, allD (flD D0))] [(g2, .cells (bv El) 4 (0, 0)), (g1, .cells (bv Wl) 4 (0, 0))] w5 := h5.less (fun _ h => h) (fun _ h => h) (fun y h => by simp at h ⊢; rcases h with h | h; exact .inr h; exact .inl h)
                  have := h6.putRow (fun o h => by simp at h; exact HG12.out h.1.symm) (fun v l hv => (HNi.out v l hv).2) (fun v l hv => (HNt.out v l hv).2) kz (.bool u)
                  rw [bv_set] at this
                  exact this.less (fun _ h => h) (fun _ h => h) (fun y h => by simp at h ⊢; rcases h with h | h; exact .inr h; exact .inl h)
                clear h5 hG HEr
                by_cases hE : E = 0
                · subst hE
                  rw [decide_eq_true (rfl : (0 : Int) = 0), Bool.true_or] at HP2
                  have HN5 : Hid _ := HPut.out true
                  clear HPut
                  go_wp2
                  go_roundw
                  case rel => first | exact ⟨m2 + 1, by omega, by go_num, D1, _, HP2.out, HN5.out⟩ | ((repeat apply Exists.intro); exact ⟨⟨m2 + 1, by omega, by go_num, D1, _, HP2.out, HN5.out⟩, rfl⟩)
                  case measure => simp [intOf]; omega
                · rw [decide_eq_false hE, Bool.false_or] at HP2
                  have hE2 : (E == 0) = false := by simpa using hE
                  have HN5 : Hid _ := HPut.out be
                  clear HPut
                  go_wp2
                  go_roundw
                  case rel => first | exact ⟨m2 + 1, by omega, by go_num, D1, _, HP2.out, HN5.out⟩ | ((repeat apply Exists.intro); exact ⟨⟨m2 + 1, by omega, by go_num, D1, _, HP2.out, HN5.out⟩, rfl⟩)
                  case measure => simp [intOf]; omega
            · have hlt2 : ¬ (m2 : Int) < (x.es.length : Int) := by omega
              have HCr : Hid (crashE d2 x.k = (0, crashD d2 x.k)) := crash_up hP.up x.k
              have hEl : El.length = N := by rw [hP.le]; exact HN.out
              have HFin : Hid (∀ (i : Nat) (b0 : Blk), D0.told[i]? = some b0 → ∃ b : Blk, (stD (crashD d2 x.k)).told[i]? = some b ∧ (Wl[i]? = some true → b0.st = 0 ∧ (b = b0 ∨ ∃ n, b = ⟨1, tornB (ofT T) n⟩)) ∧ (Wl[i]? = some false → b = b0 ∨ El[i]? = some true ∧ b.st = 2)) := fun i b0 hb => hP.left x.k i b0 hb
              obtain ⟨D2, hD2⟩ : ∃ D2, crashD d2 x.k = D2 := ⟨_, rfl⟩
              have hu2 : D2.up = false ∧ D2.starts = D0.starts := by rw [← hD2]; exact ⟨rfl, hP.starts⟩
              have HSt : Hid (startD D2 = (0, stD D2)) := start_down hu2.1
              rw [hD2] at HCr HFin
              have HS90 : Hid (Sys w0 [(p1, d2)] [(.slice a1 N q1, statesD (flD D0))] [(.slice a2 N q2, allD (flD D0))] [(g1, .cells (bv Wl) 4 (0, 0)), (g2, .cells (bv El) 4 (0, 0))] wr) := hS
              clear hS hP hD2 hlt HEs
              have HC51 : Hid (Calls Try.prog 31 #[.pointer (some ⟨p1, 0, none⟩), .slice x.ka x.k.length x.kc] wr fun e w' => e = .returned (.int .i64 0) ∧ Sys w0 [(p1, D2)] [(.slice a1 N q1, statesD (flD D0))] [(.slice a2 N q2, allD (flD D0))] [(g1, .cells (bv Wl) 4 (0, 0)), (g2, .cells (bv El) 4 (0, 0))] w') := by
                              have := sys_crash HS90.out 0 rfl HK.out
                              rw [HCr.out] at this
                              exact this
              clear HS90
              go_wp2_with fail
              refine Calls.mono HC51.out ?_
              rintro e w51 ⟨rfl, h51⟩
              have HS51 : Hid (Sys w0 [(p1, D2)] [(.slice a1 N q1, statesD (flD D0))] [(.slice a2 N q2, allD (flD D0))] [(g1, .cells (bv Wl) 4 (0, 0)), (g2, .cells (bv El) 4 (0, 0))] w51) := h51
              clear HC51 h51 
              clear c3
              have HC52 : Hid (Calls Try.prog 32 #[.pointer (some ⟨p1, 0, none⟩)] w51 fun e w' => e = .returned (.int .i64 0) ∧ Sys w0 [(p1, stD D2)] [(.slice a1 N q1, statesD (flD D0))] [(.slice a2 N q2, allD (flD D0))] [(g1, .cells (bv Wl) 4 (0, 0)), (g2, .cells (bv El) 4 (0, 0))] w') := by
                              have := sys_start HS51.out 0 rfl (show D2.starts < _ by omega)
                              rw [HSt.out] at this
                              exact this
              clear HS51
              go_wp2_with fail
              refine Calls.mono HC52.out ?_
              rintro e w52 ⟨rfl, h52⟩
              have HS52 : Hid (Sys w0 [(p1, stD D2)] [(.slice a1 N q1, statesD (flD D0))] [(.slice a2 N q2, allD (flD D0))] [(g1, .cells (bv Wl) 4 (0, 0)), (g2, .cells (bv El) 4 (0, 0))] w52) := h52
              clear HC52 h52 
              have hmk := mk_32
              go_wp2
              go_loopw [18] (fun i wr => ∃ j : Nat, j ≤ N ∧ i = .int .i64 j ∧ Sys w0 [(p1, stD D2)] [(.slice a1 N q1, statesD (flD D0))] [(.slice a2 N q2, allD (flD D0))] [(g1, .cells (bv Wl) 4 (0, 0)), (g2, .cells (bv El) 4 (0, 0))] wr) (fun i _ => N - (intOf i).toNat)
              case atStart => exact ⟨0, by omega, rfl, HS52.out⟩
              case round =>
                obtain ⟨j, hj, rfl, hS⟩ := hrel
                clear HS52
                by_cases hlt : j < N
                · obtain ⟨B0, hB0⟩ : ∃ B, D0.told[j]? = some B := ⟨_, List.getElem?_eq_getElem (by rw [HN.out]; exact hlt)⟩
                  obtain ⟨B, hB, hBt, hBf⟩ := HFin.out j B0 hB0
                  obtain ⟨bw, hbw⟩ : ∃ bw, Wl[j]? = some bw := ⟨_, List.getElem?_eq_getElem (by omega)⟩
                  obtain ⟨be, hbe⟩ : ∃ be, El[j]? = some be := ⟨_, List.getElem?_eq_getElem (by omega)⟩
                  have cw : wr.cell? ⟨g1, j, none⟩ = some (.bool bw) := by rw [cell_of_row _ _ _ _ _ _ (hS.row (List.mem_cons_self ..))]; exact bv_get Wl j bw hbw
                  have ce : wr.cell? ⟨g2, j, none⟩ = some (.bool be) := by rw [cell_of_row _ _ _ _ _ _ (hS.row (b := g2) (o := .cells (bv El) 4 (0, 0)) (by simp))]; exact bv_get El j be hbe
                  have hlt2 : (j : Int) < (N : Int) := by omega
                  have HRd : Hid (Calls Try.prog 21 #[.pointer (some ⟨p1, 0, none⟩), .int .i64 (j : Int)] wr fun e w' => e = .returned (.tuple #[.string (S (txB B)), .int .i64 (if B.st = 0 then 41 else if B.st = 2 then 42 else 0)]) ∧ w' = wr) := by
                    have := sys_read hS 0 rfl (j : Int)
                    rw [read_b rfl j B hB] at this
                    exact this
                  have HSt2 : Hid (Calls Try.prog 23 #[.pointer (some ⟨p1, 0, none⟩), .int .i64 (j : Int)] wr fun e w' => e = .returned (.int .i64 (B.st : Int)) ∧ w' = wr) := by
                    have := sys_state hS 0 rfl (j : Int)
                    rw [state_b j B hB] at this
                    exact this
                  cases bw with
                  | true =>
                    obtain ⟨h0, hcs⟩ := hBt hbw
                    rcases hcs with rfl | ⟨nn, rfl⟩
                    · rw [h0] at HSt2 HRd
                      have HS : Hid _ := hS
                      clear hS hB hBt hBf hbw hbe
                      generalize S (txB B) = R at *
                      rw [if_pos rfl] at HRd
                      go_wp2_with fail
                      refine Calls.mono HRd.out ?_
                      rintro e wx ⟨rfl, rfl⟩
                      clear HRd
                      go_wp2_with fail
                      refine Calls.mono HSt2.out ?_
                      rintro e wy ⟨rfl, rfl⟩
                      clear HSt2
                      go_wp2
                      go_roundw
                      case rel => exact ⟨j + 1, by omega, by go_num, HS.out⟩
                      case measure => simp [intOf]; omega
                    · dsimp only at HSt2 HRd
                      rw [if_neg (by decide), if_neg (by decide)] at HRd
                      have hR128 : (S (txB ⟨1, tornB (ofT T) nn⟩)).size = 128 := by rw [S_size]; show (txt _).length = 128; exact txt_length _
                      have HSec : Hid (∀ q, q < 4 → (S (txB ⟨1, tornB (ofT T) nn⟩)).extract (32 * q) (32 * q + 32) = (S T).extract (32 * q) (32 * q + 32) ∨ (S (txB ⟨1, tornB (ofT T) nn⟩)).extract (32 * q) (32 * q + 32) = S (List.replicate 32 0)) := fun q hq => by
                        have := torn_sector (ofT T) nn q hq
                        rw [txt_ofT T HT128.out] at this
                        exact this
                      have hT128 : (S T).size = 128 := by rw [S_size]; exact HT128.out
                      have HS : Hid _ := hS
                      clear hS hB hBt hBf hbw hbe
                      generalize S (txB ⟨1, tornB (ofT T) nn⟩) = R at *
                      go_wp2_with fail
                      refine Calls.mono HRd.out ?_
                      rintro e wx ⟨rfl, rfl⟩
                      clear HRd
                      go_wp2_with fail
                      refine Calls.mono HSt2.out ?_
                      rintro e wy ⟨rfl, rfl⟩
                      clear HSt2
                      go_wp2
                      go_loopw [22] (fun kv wz => ∃ q : Nat, q ≤ 4 ∧ kv = .int .i64 ((32 * q : Nat) : Int) ∧ Sys w0 [(p1, stD D2)] [(.slice a1 N q1, statesD (flD D0))] [(.slice a2 N q2, allD (flD D0))] [(g1, .cells (bv Wl) 4 (0, 0)), (g2, .cells (bv El) 4 (0, 0))] wz) (fun kv _ => 4 - (intOf kv).toNat / 32)
                      case atStart => exact ⟨0, by omega, rfl, HS.out⟩
                      case round =>
                        obtain ⟨q, hq, rfl, hSz⟩ := hrel
                        clear HS
                        by_cases hq4 : q < 4
                        · obtain ⟨qk, hqk⟩ : ∃ qk, 32 * q = qk := ⟨_, rfl⟩
                          have hsec := HSec.out q hq4
                          rw [hqk] at hsec
                          have HQ : Hid (32 * q = qk) := hqk
                          have i1 : (qk : Int) < 128 := by omega
                          have i2 : ((qk : Int) + 32).toNat = qk + 32 := by omega
                          have i3 : ¬ (qk : Int) < 0 := by omega
                          have i4 : ¬ (qk : Int) + 32 < (qk : Int) := by omega
                          have i5 : ¬ (128 : Int) < (qk : Int) + 32 := by omega
                          have i6 : (qk : Int) + 32 ≤ 128 := by omega
                          have i7 : 0 ≤ (qk : Int) + 32 := by omega
                          rw [hqk]
                          clear hqk
                          have HSy : Hid _ := hSz
                          clear hSz
                          obtain ⟨X, hX⟩ : ∃ X, R.extract qk (qk + 32) = X := ⟨_, rfl⟩
                          obtain ⟨Y, hY⟩ : ∃ Y, (S T).extract qk (qk + 32) = Y := ⟨_, rfl⟩
                          rw [hX, hY] at hsec
                          by_cases hXY : X = Y
                          · subst hXY
                            clear hsec
                            go_wp2
                            go_quiet (fail)
                            have HSq : Hid _ := Sys.below HSy.out (below_drewN (Below.refl _ wr) nq)
                            generalize wr.drewN nq = wq at *
                            clear HSy
                            go_wp2
                            go_roundw
                            case rel => exact ⟨q + 1, by omega, by rw [← HQ.out]; go_num, HSq.out⟩
                            case measure => rw [← HQ.out]; simp [intOf]; omega
                          · have hXZ : X = S (List.replicate 32 0) := by rcases hsec with h | h; exact absurd h hXY; exact h
                            subst hXZ
                            clear hsec
                            have hXl : ¬ (S (List.replicate 32 0)).toList = Y.toList := fun e => hXY (by
                              rw [← hY, S_extract, toList_S, toList_S] at e
                              rw [← hY, S_extract, e])
                            have hwr : IntKind.i64.wrap ((qk : Int) + 32) = (qk : Int) + 32 := by rw [IntKind.wrap_i64]; omega
                            have f1 : ∀ W : World, (convert 71 9 (.slice (some ⟨W.heap.size, 0, none⟩) 32 32)).run Try.prog (W.alloc (.cells (hv (List.replicate 32 0)) 5)) = .ok (.string (S (List.replicate 32 0))) (W.alloc (.cells (hv (List.replicate 32 0)) 5)) := fun W => cv_32 _ _ (heap_alloc_last _ _)
                            generalize S (List.replicate 32 0) = X at *
                            generalize hv (List.replicate 32 0) = Zr at *
                            have HSq : Hid _ := Sys.below HSy.out (((Below.refl _ wr).drew).alloc (Nat.le_refl _) (.cells Zr 5))
                            clear HSy
                            go_upto_region 37 with fail
                            refine wp_region_held (S := fun _ => True) (by kernel_rfl) ?_
                            change wpAnyH _ _ _ _ _ _ _ _ (World.drew _)
                            generalize wr.drew = W9 at *
                            refine wpAnyH_take (i := 0) (v := .string R) rfl (by kernel_rfl) (by kernel_rfl) (by kernel_rfl) (fun _ _ _ h => h) (Or.inl ⟨by first | rfl | kernel_rfl, by intro w _; go_simp⟩) trivial ?_
                            simp only [List.getElem_toArray, List.getElem_cons_succ, List.getElem_cons_zero, Act.put, List.setIfInBounds_toArray, List.set_cons_zero, List.set_cons_succ]
                            refine wpAnyH_take (i := 1) (v := .int .i64 (qk : Int)) rfl (by kernel_rfl) (by kernel_rfl) (by kernel_rfl) (fun _ _ _ h => h) (Or.inl ⟨by first | rfl | kernel_rfl, by intro w _; go_simp⟩) trivial ?_
                            simp only [List.getElem_toArray, List.getElem_cons_succ, List.getElem_cons_zero, Act.put, List.setIfInBounds_toArray, List.set_cons_zero, List.set_cons_succ]
                            refine wpAnyH_take (i := 2) (v := .int .i64 (qk : Int)) rfl (by kernel_rfl) (by kernel_rfl) (by kernel_rfl) (fun _ _ _ h => h) (Or.inl ⟨by first | rfl | kernel_rfl, by intro w _; go_simp⟩) trivial ?_
                            simp only [List.getElem_toArray, List.getElem_cons_succ, List.getElem_cons_zero, Act.put, List.setIfInBounds_toArray, List.set_cons_zero, List.set_cons_succ]
                            refine wpAnyH_take (i := 3) (v := .int .i64 ((qk : Int) + 32)) rfl (by kernel_rfl) (by kernel_rfl) (by kernel_rfl) (fun _ _ _ h => h) (Or.inl ⟨by first | rfl | kernel_rfl, by intro w _; go_simp⟩) trivial ?_
                            simp only [List.getElem_toArray, List.getElem_cons_succ, List.getElem_cons_zero, Act.put, List.setIfInBounds_toArray, List.set_cons_zero, List.set_cons_succ]
                            refine wpAnyH_take (i := 4) (v := .string X) rfl (by kernel_rfl) (by kernel_rfl) (by kernel_rfl) (fun _ _ _ h => h) (Or.inl ⟨by first | rfl | kernel_rfl, by intro w _; go_simp⟩) trivial ?_
                            simp only [List.getElem_toArray, List.getElem_cons_succ, List.getElem_cons_zero, Act.put, List.setIfInBounds_toArray, List.set_cons_zero, List.set_cons_succ]
                            refine wpAnyH_take (i := 5) (v := .string (S T)) rfl (by kernel_rfl) (by kernel_rfl) (by kernel_rfl) (fun _ _ _ h => h) (Or.inl ⟨by first | rfl | kernel_rfl, by intro w _; go_simp⟩) trivial ?_
                            simp only [List.getElem_toArray, List.getElem_cons_succ, List.getElem_cons_zero, Act.put, List.setIfInBounds_toArray, List.set_cons_zero, List.set_cons_succ]
                            refine wpAnyH_take (i := 6) (v := .int .i64 (qk : Int)) rfl (by kernel_rfl) (by kernel_rfl) (by kernel_rfl) (fun _ _ _ h => h) (Or.inl ⟨by first | rfl | kernel_rfl, by intro w _; go_simp⟩) trivial ?_
                            simp only [List.getElem_toArray, List.getElem_cons_succ, List.getElem_cons_zero, Act.put, List.setIfInBounds_toArray, List.set_cons_zero, List.set_cons_succ]
                            refine wpAnyH_take (i := 7) (v := .int .i64 (qk : Int)) rfl (by kernel_rfl) (by kernel_rfl) (by kernel_rfl) (fun _ _ _ h => h) (Or.inl ⟨by first | rfl | kernel_rfl, by intro w _; go_simp⟩) trivial ?_
                            simp only [List.getElem_toArray, List.getElem_cons_succ, List.getElem_cons_zero, Act.put, List.setIfInBounds_toArray, List.set_cons_zero, List.set_cons_succ]
                            refine wpAnyH_take (i := 8) (v := .int .i64 ((qk : Int) + 32)) rfl (by kernel_rfl) (by kernel_rfl) (by kernel_rfl) (fun _ _ _ h => h) (Or.inl ⟨by first | rfl | kernel_rfl, by intro w _; go_simp⟩) trivial ?_
                            simp only [List.getElem_toArray, List.getElem_cons_succ, List.getElem_cons_zero, Act.put, List.setIfInBounds_toArray, List.set_cons_zero, List.set_cons_succ]
                            refine wpAnyH_take (i := 9) (v := .string Y) rfl (by kernel_rfl) (by kernel_rfl) (by kernel_rfl) (fun _ _ _ h => h) (Or.inl ⟨by first | rfl | kernel_rfl, by intro w _; go_simp⟩) trivial ?_
                            simp only [List.getElem_toArray, List.getElem_cons_succ, List.getElem_cons_zero, Act.put, List.setIfInBounds_toArray, List.set_cons_zero, List.set_cons_succ]
                            refine wpAnyH_take (i := 10) (v := .bool true) rfl (by kernel_rfl) (by kernel_rfl) (by kernel_rfl) (fun _ _ _ h => h) (Or.inl ⟨by first | rfl | kernel_rfl, by intro w _; go_simp⟩) trivial ?_
                            simp only [List.getElem_toArray, List.getElem_cons_succ, List.getElem_cons_zero, Act.put, List.setIfInBounds_toArray, List.set_cons_zero, List.set_cons_succ]
                            refine wpAnyH_take (i := 11) (v := .bool true) rfl (by kernel_rfl) (by kernel_rfl) (by kernel_rfl) (fun _ _ _ h => h) (Or.inl ⟨by first | rfl | kernel_rfl, by intro w _; go_simp⟩) trivial ?_
                            simp only [List.getElem_toArray, List.getElem_cons_succ, List.getElem_cons_zero, Act.put, List.setIfInBounds_toArray, List.set_cons_zero, List.set_cons_succ]
                            refine wpAnyH_take (i := 12) (v := .string R) rfl (by kernel_rfl) (by kernel_rfl) (by kernel_rfl) (fun _ _ _ h => h) (Or.inl ⟨by first | rfl | kernel_rfl, by intro w _; go_simp⟩) trivial ?_
                            simp only [List.getElem_toArray, List.getElem_cons_succ, List.getElem_cons_zero, Act.put, List.setIfInBounds_toArray, List.set_cons_zero, List.set_cons_succ]
                            refine wpAnyH_take (i := 13) (v := .int .i64 (qk : Int)) rfl (by kernel_rfl) (by kernel_rfl) (by kernel_rfl) (fun _ _ _ h => h) (Or.inl ⟨by first | rfl | kernel_rfl, by intro w _; go_simp⟩) trivial ?_
                            simp only [List.getElem_toArray, List.getElem_cons_succ, List.getElem_cons_zero, Act.put, List.setIfInBounds_toArray, List.set_cons_zero, List.set_cons_succ]
                            refine wpAnyH_take (i := 14) (v := .int .i64 (qk : Int)) rfl (by kernel_rfl) (by kernel_rfl) (by kernel_rfl) (fun _ _ _ h => h) (Or.inl ⟨by first | rfl | kernel_rfl, by intro w _; go_simp⟩) trivial ?_
                            simp only [List.getElem_toArray, List.getElem_cons_succ, List.getElem_cons_zero, Act.put, List.setIfInBounds_toArray, List.set_cons_zero, List.set_cons_succ]
                            refine wpAnyH_take (i := 15) (v := .int .i64 ((qk : Int) + 32)) rfl (by kernel_rfl) (by kernel_rfl) (by kernel_rfl) (fun _ _ _ h => h) (Or.inl ⟨by first | rfl | kernel_rfl, by intro w _; go_simp⟩) trivial ?_
                            simp only [List.getElem_toArray, List.getElem_cons_succ, List.getElem_cons_zero, Act.put, List.setIfInBounds_toArray, List.set_cons_zero, List.set_cons_succ]
                            refine wpAnyH_take (i := 16) (v := .string X) rfl (by kernel_rfl) (by kernel_rfl) (by kernel_rfl) (fun _ _ _ h => h) (Or.inl ⟨by first | rfl | kernel_rfl, by intro w _; go_simp⟩) trivial ?_
                            simp only [List.getElem_toArray, List.getElem_cons_succ, List.getElem_cons_zero, Act.put, List.setIfInBounds_toArray, List.set_cons_zero, List.set_cons_succ]
                            refine wpAnyH_ready (rs := [17]) (by kernel_rfl) (by simp) (AllReadyH.cons (by simp only [List.getElem?_toArray, List.getElem?_cons_succ, List.getElem?_cons_zero]; rfl) (fun K hK => ?_) AllReadyH.nil)
                            refine step_want (by first | rfl | kernel_rfl) ?_
                            go_simp
                            refine hK.out _ _ trivial (fun _ => ?_)
                            clear hK K
                            try simp only [List.getElem_toArray, List.getElem_cons_succ, List.getElem_cons_zero, Act.put, List.setIfInBounds_toArray, List.set_cons_zero, List.set_cons_succ]
                            refine wpAnyH_ready (rs := [18]) (by kernel_rfl) (by simp) (AllReadyH.cons (by simp only [List.getElem?_toArray, List.getElem?_cons_succ, List.getElem?_cons_zero]; rfl) (fun K hK => ?_) AllReadyH.nil)
                            refine step_want (by first | rfl | kernel_rfl) ?_
                            go_simp
                            refine hK.out _ _ trivial (fun _ => ?_)
                            clear hK K
                            try simp only [List.getElem_toArray, List.getElem_cons_succ, List.getElem_cons_zero, Act.put, List.setIfInBounds_toArray, List.set_cons_zero, List.set_cons_succ]
                            refine wpAnyH_take (i := 19) (v := .bool false) rfl (by kernel_rfl) (by kernel_rfl) (by kernel_rfl) (fun _ _ _ h => h) (Or.inl ⟨by first | rfl | kernel_rfl, by intro w _; go_simp⟩) trivial ?_
                            simp only [List.getElem_toArray, List.getElem_cons_succ, List.getElem_cons_zero, Act.put, List.setIfInBounds_toArray, List.set_cons_zero, List.set_cons_succ]
                            refine wpAnyH_take (i := 20) (v := .bool false) rfl (by kernel_rfl) (by kernel_rfl) (by kernel_rfl) (fun _ _ _ h => h) (Or.inl ⟨by first | rfl | kernel_rfl, by intro w _; go_simp⟩) trivial ?_
                            simp only [List.getElem_toArray, List.getElem_cons_succ, List.getElem_cons_zero, Act.put, List.setIfInBounds_toArray, List.set_cons_zero, List.set_cons_succ]
                            refine wpAnyH_done (by kernel_rfl) ?_ _
                            go_wp2
                            go_roundw
                            case rel => exact ⟨q + 1, by omega, by rw [← HQ.out]; go_num, HSq.out⟩
                            case measure => rw [← HQ.out]; simp [intOf]; omega
                        · obtain rfl : q = 4 := by omega
                          have HSy : Hid _ := hSz
                          clear hSz
                          go_wp2
                          go_roundw
                          case rel => exact ⟨j + 1, by omega, by go_num, HSy.out⟩
                          case measure => simp [intOf]; omega
                  | false =>
                    have hc2 := hBf hbw
                    obtain ⟨b1, o1, rfl, c1⟩ := hS.intAt (a := a1) (n := N) (c := q1) (l := statesD (flD D0)) (by simp) (statesD_get (flD D0) j B0 hB0)
                    obtain ⟨b2, o2, rfl, c2⟩ := hS.textAt (a := a2) (n := N) (c := q2) (l := allD (flD D0)) (by simp) (allD_txB (d := flD D0) hup rfl j B0 hB0)
                    have hst2 := HPl.out B0 (List.mem_of_getElem? hB0)
                    have HS : Hid _ := hS
                    by_cases h2 : B.st = 2 ∧ be = true
                    · obtain ⟨h2, rfl⟩ := h2
                      rw [h2] at HSt2 HRd
                      rw [if_neg (by decide), if_pos rfl] at HRd
                      clear hS hB hBt hBf hbw hbe hc2 hB0
                      generalize S (txB B) = R at *
                      go_wp2_with fail
                      refine Calls.mono HRd.out ?_
                      rintro e wx ⟨rfl, rfl⟩
                      clear HRd
                      go_wp2_with fail
                      refine Calls.mono HSt2.out ?_
                      rintro e wy ⟨rfl, rfl⟩
                      clear HSt2
                      go_wp2
                      go_roundw
                      case rel => exact ⟨j + 1, by omega, by go_num, HS.out⟩
                      case measure => simp [intOf]; omega
                    · have e : B = B0 := by
                        rcases hc2 with h | ⟨h3, h4⟩
                        · exact h
                        · rw [hbe] at h3
                          exact absurd ⟨h4, by simpa using h3⟩ h2
                      subst e
                      have hdec : be = false ∨ (((B.st : Int) == 2) = false) := by
                        cases be with
                        | false => exact .inl rfl
                        | true =>
                          right
                          have : ¬ (B.st : Int) = 2 := fun e => h2 ⟨by omega, rfl⟩
                          simpa using this
                      have hne2 : ((B.st : Int) != (B.st : Int)) = false := by simp
                      clear hS hB hBt hBf hbw hbe hc2 hB0 h2
                      generalize (if B.st = 0 then (41 : Int) else if B.st = 2 then 42 else 0) = code at *
                      generalize S (txB B) = R at *
                      generalize (B.st : Int) = st at *
                      rcases hdec with rfl | hdec
                      · go_wp2_with fail
                        refine Calls.mono HRd.out ?_
                        rintro e wx ⟨rfl, rfl⟩
                        clear HRd
                        go_wp2_with fail
                        refine Calls.mono HSt2.out ?_
                        rintro e wy ⟨rfl, rfl⟩
                        clear HSt2
                        go_wp2
                        go_roundw
                        case rel => exact ⟨j + 1, by omega, by go_num, HS.out⟩
                        case measure => simp [intOf]; omega
                      · cases be with
                        | true =>
                          go_wp2_with fail
                          refine Calls.mono HRd.out ?_
                          rintro e wx ⟨rfl, rfl⟩
                          clear HRd
                          go_wp2_with fail
                          refine Calls.mono HSt2.out ?_
                          rintro e wy ⟨rfl, rfl⟩
                          clear HSt2
                          go_wp2
                          go_roundw
                          case rel => exact ⟨j + 1, by omega, by go_num, HS.out⟩
                          case measure => simp [intOf]; omega
                        | false =>
                          go_wp2_with fail
                          refine Calls.mono HRd.out ?_
                          rintro e wx ⟨rfl, rfl⟩
                          clear HRd
                          go_wp2_with fail
                          refine Calls.mono HSt2.out ?_
                          rintro e wy ⟨rfl, rfl⟩
                          clear HSt2
                          go_wp2
                          go_roundw
                          case rel => exact ⟨j + 1, by omega, by go_num, HS.out⟩
                          case measure => simp [intOf]; omega
                · have hlt2 : ¬ (j : Int) < (N : Int) := by omega
                  have HS99 : Hid (Sys w0 [(p1, stD D2)] [(.slice a1 N q1, statesD (flD D0))] [(.slice a2 N q2, allD (flD D0))] [(g1, .cells (bv Wl) 4 (0, 0)), (g2, .cells (bv El) 4 (0, 0))] wr) := hS
                  clear hS hlt
                  have HC71 : Hid (Calls Try.prog 16 #[] wr fun e w' => e = .returned (.bool true) ∧ Sys w0 [(p1, stD D2)] [(.slice a1 N q1, statesD (flD D0))] [(.slice a2 N q2, allD (flD D0))] [(g1, .cells (bv Wl) 4 (0, 0)), (g2, .cells (bv El) 4 (0, 0))] w') := (does_any wr).mono fun _ _ hh => ⟨hh.1, HS99.out.below hh.2⟩
                  clear HS99
                  go_wp2_with fail
                  refine Calls.mono HC71.out ?_
                  rintro e w71 ⟨rfl, h71⟩
                  have HS71 : Hid (Sys w0 [(p1, stD D2)] [(.slice a1 N q1, statesD (flD D0))] [(.slice a2 N q2, allD (flD D0))] [(g1, .cells (bv Wl) 4 (0, 0)), (g2, .cells (bv El) 4 (0, 0))] w71) := h71
                  clear HC71 h71 
                  have HB : Hid (Below w.heap.size w w71) := HB0.out.trans (HS71.out.base.mono HB0.out.size)
                  clear HS71
                  go_wp2
                  go_ret
                  exact ⟨rfl, HB.out⟩
theorem torn_int {w : World} {a : Option Addr} {xs : List DoX} (h : DosAt w a xs) (c : Nat) (n : Int) (h0 : 0 ≤ n) (h1 : n < 256) (x : TornX) (hx : x.ok w) : Calls Try.prog 6 #[.int .u8 n, .slice a xs.length c, .agg x.v] w fun e w' => e = .returned (.bool true) ∧ Below w.heap.size w w' := by
  obtain ⟨m, rfl⟩ : ∃ m : Nat, n = m := ⟨n.toNat, by omega⟩
  exact torn_law h c m (by omega) x hx
end Go.Proofs.Ythlaackalmgfnaa
