/- The law DeviceSure, walked. -/
import Derived.Test.YthlaackalmgfnaaEp
import Derived.Test.YthlaackalmgfnaaEc
namespace Go.Proofs.Ythlaackalmgfnaa
open Go.RowKit

set_option maxRecDepth 100000 in
set_option maxHeartbeats 6400000 in
theorem sure_any {w : World} {a a' : Option Addr} {xs ys : List DoX} (h : DosAt w a xs) (h' : DosAt w a' ys) (c c' n : Nat) (hn : n < 256) {ka : Option Addr} {kc : Nat} {k : List Int} (hk : IntsAt w (.slice ka k.length kc) k) : Calls Try.prog 5 #[.int .u8 (n : Int), .agg #[.slice a xs.length c, .slice a' ys.length c'], .slice ka k.length kc] w fun e w' => e = .returned (.bool true) ∧ Below w.heap.size w w' := by
  obtain ⟨W0, hW0⟩ : ∃ W0, w.alloc (.cells #[.slice a xs.length c, .slice a' ys.length c'] 64) = W0 := ⟨_, rfl⟩
  have hB0 : Below w.heap.size w W0 := by rw [← hW0]; exact (Below.refl _ _).alloc (Nat.le_refl _) _
  have hG0 : W0.heap[w.heap.size]? = some (.cells #[.slice a xs.length c, .slice a' ys.length c'] 64 (0, 0)) := by rw [← hW0]; exact heap_alloc_last _ _
  have HG : Hid (∀ wr, Below W0.heap.size W0 wr → wr.cell? ⟨w.heap.size, 0, none⟩ = some (.slice a xs.length c) ∧ wr.cell? ⟨w.heap.size, 1, none⟩ = some (.slice a' ys.length c')) := fun wr hb => by
    have e : wr.heap[w.heap.size]? = some (.cells #[.slice a xs.length c, .slice a' ys.length c'] 64 (0, 0)) := by rw [hb.block _ (row_lt hG0)]; exact hG0
    exact ⟨by rw [cell_of_row _ _ _ _ _ _ e]; rfl, by rw [cell_of_row _ _ _ _ _ _ e]; rfl⟩
  have HMu : Hid (Calls Try.prog 9 #[.slice a xs.length c, .int .i64 60] W0 fun e w' => e = .returned (.bool (muchD xs 60)) ∧ w' = W0) := much_any (h.below hB0) c 60 (by omega)
  have HMu2 : Hid (Calls Try.prog 9 #[.slice a' ys.length c', .int .i64 60] W0 fun e w' => e = .returned (.bool (muchD ys 60)) ∧ w' = W0) := much_any (h'.below hB0) c' 60 (by omega)
  have HX : Hid (DosAt W0 a xs) := h.below hB0
  have HY : Hid (DosAt W0 a' ys) := h'.below hB0
  have HK : Hid (IntsAt W0 (.slice ka k.length kc) k) := hk.below hB0
  have HB0 : Hid (Below w.heap.size w W0) := hB0
  have HW0 : Hid _ := hW0
  obtain ⟨c0, c1⟩ := HG.out W0 (Below.refl _ _)
  clear h h' hk hB0 hG0 hW0
  go_enter Try.func5, Try.ntmps5
  go_wp2_with fail
  rw [HW0.out]
  refine Calls.mono HMu.out ?_
  rintro e w' ⟨rfl, rfl⟩
  clear HMu HW0
  cases hm1 : muchD xs 60 with
  | true =>
    clear hm1 HX HY HK HG HMu2
    go_wp2
    go_ret
    exact ⟨rfl, HB0.out⟩
  | false =>
    obtain ⟨hl, hm, hmx⟩ := much_parts hm1
    have HM : Hid (xs.any muchB = false) := hm
    clear hm1 hm hmx
    go_wp2_with fail
    refine Calls.mono HMu2.out ?_
    rintro e w0 ⟨rfl, rfl⟩
    clear HMu2
    cases hm2 : muchD ys 60 with
    | true =>
      clear hm2 HX HY HK HG
      go_wp2
      go_ret
      exact ⟨rfl, HB0.out⟩
    | false =>
      obtain ⟨hl2, -, hmy⟩ := much_parts hm2
      have HMY : Hid (∀ x ∈ ys, x.k.length ≤ 100) := fun x hx => (hmy x hx).2
      clear hm2 hmy
      by_cases hkl : 100 < k.length
      · have hkl2 : (100 : Int) < (k.length : Int) := by omega
        clear HX HY HK HG
        go_wp2
        go_ret
        exact ⟨rfl, HB0.out⟩
      · have hkl2 : ¬ (100 : Int) < (k.length : Int) := by omega
        obtain ⟨f1, f2⟩ := afterD_few n xs
        have hwf := afterD_wf n xs
        have hup := afterD_up n xs
        obtain ⟨D0, hD0⟩ : ∃ D0, afterD n xs = D0 := ⟨_, rfl⟩
        rw [hD0] at f1 f2 hwf hup
        have HA : Hid (afterD n xs = D0) := hD0
        have HFl : Hid (flushD D0 = (0, flD D0)) := flush_eqD hwf hup
        have HPh : Hid (Ph D0.told (List.replicate D0.told.length false) D0.starts 0 (flD D0)) := Ph.start hwf hup
        clear hD0 hwf
        have HS0 : Hid (Sys w0 [] [] [] [] w0) := Sys.nil _
        have HC1 : Hid (Calls Try.prog 28 #[.int .u8 (n : Int), .slice a xs.length c] w0 fun e w' => ∃ p, e = .returned (.pointer (some ⟨p, 0, none⟩)) ∧ Sys w0 [(p, D0)] [] [] [] w') := by
                  have := sys_after HS0.out HX.out c n hn (by omega) HM.out
                  rw [HA.out] at this
                  exact this
        clear HS0
        go_wp2_with fail
        refine Calls.mono HC1.out ?_
        rintro e w1 ⟨p1, rfl, h1⟩
        have HS1 : Hid (Sys w0 [(p1, D0)] [] [] [] w1) := h1
        clear HC1 h1 c0 c1 HX HA HM
        have HC2 : Hid (Calls Try.prog 29 #[.pointer (some ⟨p1, 0, none⟩)] w1 fun e w' => e = .returned (.int .i64 0) ∧ Sys w0 [(p1, flD D0)] [] [] [] w') := by
                  have := sys_flush HS1.out 0 rfl 
                  rw [HFl.out] at this
                  exact this
        clear HS1
        go_wp2_with fail
        refine Calls.mono HC2.out ?_
        rintro e w2 ⟨rfl, h2⟩
        have HS2 : Hid (Sys w0 [(p1, flD D0)] [] [] [] w2) := h2
        clear HC2 h2 
        have HC3 : Hid (Calls Try.prog 24 #[.pointer (some ⟨p1, 0, none⟩)] w2 fun e w' => ∃ v, e = .returned v ∧ Sys w0 [(p1, flD D0)] [(v, statesD (flD D0))] [] [] w') := sys_states HS2.out 0 rfl
        clear HS2
        go_wp2_with fail
        refine Calls.mono HC3.out ?_
        rintro e w3 ⟨v3, rfl, h3⟩
        have HS3 : Hid (Sys w0 [(p1, flD D0)] [(v3, statesD (flD D0))] [] [] w3) := h3
        clear HC3 h3 
        have HC4 : Hid (Calls Try.prog 30 #[.pointer (some ⟨p1, 0, none⟩)] w3 fun e w' => ∃ v, e = .returned v ∧ Sys w0 [(p1, flD D0)] [(v3, statesD (flD D0))] [(v, allD (flD D0))] [] w') := sys_all HS3.out 0 rfl
        clear HS3
        go_wp2_with fail
        refine Calls.mono HC4.out ?_
        rintro e w4 ⟨v4, rfl, h4⟩
        have HS4 : Hid (Sys w0 [(p1, flD D0)] [(v3, statesD (flD D0))] [(v4, allD (flD D0))] [] w4) := h4
        clear HC4 h4 
        obtain ⟨N, hN⟩ : ∃ N, D0.told.length = N := ⟨_, rfl⟩
        obtain ⟨a1, q1, e1, -⟩ := HS4.out.int (v := v3) (l := statesD (flD D0)) (by simp)
        obtain ⟨a2, q2, e2, -⟩ := HS4.out.text (v := v4) (l := allD (flD D0)) (by simp)
        have hsm := (HS4.out.small 0 rfl).1
        have hN512 : N ≤ 512 := by rw [← hN]; exact hsm
        rw [statesD_len, show (flD D0).told.length = N from hN] at e1
        rw [allD_len, show (flD D0).sure.length = N from hN] at e2
        subst e1 e2
        have hmk := mk_bools N (by omega) w4
        have HT0 : Sys w0 [(p1, flD D0)] [(.slice a1 N q1, statesD (flD D0))] [(.slice a2 N q2, allD (flD D0))] [(w4.heap.size, .cells (bv (List.replicate N false)) 4 (0, 0))] (w4.alloc (.cells (bv (List.replicate N false)) 4)) := HS4.out.addRow (.cells (bv (List.replicate N false)) 4)
        rw [hN] at HPh
        have HT : Hid _ := HT0
        have HN : Hid (D0.told.length = N) := hN
        have HNi : Hid (∀ v l, (v, l) ∈ [(Value.slice a1 N q1, statesD (flD D0))] → v.ownBlock ≠ some w4.heap.size) := fun v l hv e => by
          obtain ⟨O, hO⟩ := HS4.out
          have := ((hO.ints v l hv).2 _ e).2
          omega
        have HNt : Hid (∀ v l, (v, l) ∈ [(Value.slice a2 N q2, allD (flD D0))] → v.ownBlock ≠ some w4.heap.size) := fun v l hv e => by
          obtain ⟨O, hO⟩ := HS4.out
          have := ((hO.texts v l hv).2 _ e).2
          omega
        clear HT0 hN hsm HS4
        go_wp2
        clear hmk
        go_loopw [11] (fun i wr => ∃ m : Nat, m ≤ ys.length ∧ i = .int .i64 m ∧ ∃ d g, Ph D0.told g D0.starts m d ∧ Sys w0 [(p1, d)] [(.slice a1 N q1, statesD (flD D0))] [(.slice a2 N q2, allD (flD D0))] [(w4.heap.size, .cells (bv g) 4 (0, 0))] wr) (fun i _ => ys.length - (intOf i).toNat)
        case atStart => exact ⟨0, by omega, rfl, flD D0, List.replicate N false, HPh.out, HT.out⟩
        case round =>
          obtain ⟨m, hmm, rfl, d, g, hP, hS⟩ := hrel
          clear HT HPh
          obtain ⟨-, c1⟩ := HG.out wr hS.base
          by_cases hlt : m < ys.length
          · obtain ⟨x, hx⟩ : ∃ x, ys[m]? = some x := ⟨_, List.getElem?_eq_getElem hlt⟩
            obtain ⟨hok, b, o, rfl, hrg⟩ := HY.out m x hx
            have HRg : Hid (wr.rangeAt b (o + m * 5) x.v.toList) := range_below hrg hS.base
            have hlt2 : (m : Int) < (ys.length : Int) := by omega
            have hq2 : (x.q : Int) < 256 := by have := hok.q; omega
            have hxk := HMY.out x (List.mem_of_getElem? hx)
            have HIC : Hid ((Try.prog.info? 37).map (·.size) = some x.v.toList.length) := by show _ = _; rw [DoX.size]; kernel_rfl
            have HI5 : Hid ((Try.prog.info? 37).map (·.size) = some 5) := by show _ = some 5; kernel_rfl
            have HOne : Hid (x.v.toList.toArray.all (·.oneCell') = true) := by show _ = _; simp [DoX.v, doV, DoX.kv, Value.oneCell']
            have hS1 : Sys w0 [(p1, d)] [(.slice a1 N q1, statesD (flD D0))] [(.slice a2 N q2, allD (flD D0))] [(wr.heap.size, .cells #[.int .u8 (x.q : Int), .int .i64 x.i, .int .i64 x.n, .string (S x.s), .slice x.ka x.k.length x.kc] 37), (w4.heap.size, .cells (bv g) 4 (0, 0))] (wr.alloc (.cells #[.int .u8 (x.q : Int), .int .i64 x.i, .int .i64 x.n, .string (S x.s), .slice x.ka x.k.length x.kc] 37)) := hS.addRow _
            have HPx : Hid (x.q % 13 < 7 → Ph D0.told (goneB g x) D0.starts (m + 1) (withD d x).2) := fun hq => hP.step x hq
            have HPs : Hid (Ph D0.told g D0.starts (m + 1) d) := ⟨hP.wf, hP.sure, hP.up, hP.starts, by have := hP.few; omega, hP.len, hP.gone⟩
            have hgl : g.length = N := by rw [hP.len]; exact HN.out
            by_cases hq : x.q % 13 < 7
            · have HW : Hid (Calls Try.prog 12 #[.pointer (some ⟨p1, 0, none⟩), .agg #[.int .u8 (x.q : Int), .int .i64 x.i, .int .i64 x.n, .string (S x.s), .slice x.ka x.k.length x.kc]] (wr.alloc (.cells #[.int .u8 (x.q : Int), .int .i64 x.i, .int .i64 x.n, .string (S x.s), .slice x.ka x.k.length x.kc] 37)) (Tells fun r w' => Sys w0 [(p1, (withD d x).2)] [(.slice a1 N q1, statesD (flD D0))] [(.slice a2 N q2, allD (flD D0))] [(wr.heap.size, .cells #[.int .u8 (x.q : Int), .int .i64 x.i, .int .i64 x.n, .string (S x.s), .slice x.ka x.k.length x.kc] 37), (w4.heap.size, .cells (bv g) 4 (0, 0))] w')) :=
                Calls.mono (sys_with hS1 0 rfl x hok (by omega) (by omega) (by have := hP.few; omega) (by rw [hP.starts]; omega)) fun _ _ ⟨r, he, _, hs⟩ => ⟨r, he, hs⟩
              have hq3 : ¬ (7 : Int) ≤ (x.q : Int) % 13 := by omega
              have HP2 : Hid (Ph D0.told (goneB g x) D0.starts (m + 1) (withD d x).2) := HPx.out hq
              have HGB : Hid (goneB g x = if (x.q % 13 = 5 ∨ x.q % 13 = 6) ∧ 0 ≤ x.i ∧ x.i < g.length then g.set x.i.toNat true else g) := rfl
              clear hP hS hS1 hx hrg HPx HPs hok
              unfold DoX.v doV DoX.kv at HRg HIC HOne
              generalize S x.s = A at *
              go_wp2_with (first | (refine store_last rfl 37 (.tmp 12) (.tmp 59) rfl 5 _ _ _ rfl rfl HI5.out rfl rfl HOne.out ?_) | (refine wpList_load_mid rfl 37 (.tmp 58) rfl b (o + m * 5) rfl _ _ HRg.out Try.underlying37 rfl HIC.out ?_))
              refine Calls.mono HW.out ?_
              rintro e w5 ⟨r, rfl, h5⟩
              have hr0 : w5.heap[wr.heap.size]? = some (.cells #[.int .u8 (x.q : Int), .int .i64 x.i, .int .i64 x.n, .string A, .slice x.ka x.k.length x.kc] 37 (0, 0)) := h5.row (List.mem_cons_self ..)
              have cq : w5.cell? ⟨wr.heap.size, 1, none⟩ = some (.int .i64 x.i) := by rw [cell_of_row _ _ _ _ _ _ hr0]; rfl
              have hS5 : Sys w0 [(p1, (withD d x).2)] [(.slice a1 N q1, statesD (flD D0))] [(.slice a2 N q2, allD (flD D0))] [(w4.heap.size, .cells (bv g) 4 (0, 0))] w5 := h5.less (fun _ h => h) (fun _ h => h) (fun y h => List.mem_cons_of_mem _ h)
              obtain ⟨d', hd'⟩ : ∃ d', (withD d x).2 = d' := ⟨_, rfl⟩
              obtain ⟨g', hg'⟩ : ∃ g', goneB g x = g' := ⟨_, rfl⟩
              rw [hd', hg'] at HP2
              rw [hd'] at hS5
              rw [hg'] at HGB
              clear hd' hg' hr0 h5 HW HRg
              generalize x.i = xi at *
              generalize x.q = q at *
              by_cases k5 : q % 13 = 5
              · have t1 : (q : Int) % 13 = 5 := by omega
                by_cases hi0 : 0 ≤ xi
                · obtain ⟨j, rfl⟩ : ∃ j : Nat, xi = j := ⟨xi.toNat, by omega⟩
                  by_cases hi1 : j < N
                  · have hj2 : (j : Int) < (N : Int) := by omega
                    have hgg : g' = g.set j true := by have := HGB.out; rw [if_pos ⟨by omega, by omega, by omega⟩, Int.toNat_natCast] at this; exact this
                    have hG := hS5.row (List.mem_cons_self ..)
                    obtain ⟨v0, cg⟩ : ∃ v, w5.cell? ⟨w4.heap.size, j, none⟩ = some v := by rw [cell_of_row _ _ _ _ _ _ hG]; exact ⟨_, Array.getElem?_eq_getElem (by rw [bv_size]; omega)⟩
                    have fg : w5.frozen? ⟨w4.heap.size, j, none⟩ = false := frozen_of_row _ _ _ _ _ hG
                    have HSx : Hid (Sys w0 [(p1, d')] [(.slice a1 N q1, statesD (flD D0))] [(.slice a2 N q2, allD (flD D0))] [(w4.heap.size, .cells (bv g') 4 (0, 0))] (w5.setCell ⟨w4.heap.size, j, none⟩ (.bool true))) := by
                      have := hS5.putRow (fun _ h => by simp at h) HNi.out HNt.out j (.bool true)
                      rw [bv_set, ← hgg] at this
                      exact this
                    clear hS5 hG hgg HGB
                    go_wp2
                    go_roundw
                    case rel => exact ⟨m + 1, by omega, by go_num, d', g', HP2.out, HSx.out⟩
                    case measure => simp [intOf]; omega
                  · have hj2 : ¬ (j : Int) < (N : Int) := by omega
                    have HSx : Hid (Sys w0 [(p1, d')] [(.slice a1 N q1, statesD (flD D0))] [(.slice a2 N q2, allD (flD D0))] [(w4.heap.size, .cells (bv g') 4 (0, 0))] w5) := by
                      have hgg := HGB.out
                      rw [if_neg (by omega)] at hgg
                      rw [hgg]; exact hS5
                    clear hS5 HGB
                    go_wp2
                    go_roundw
                    case rel => exact ⟨m + 1, by omega, by go_num, d', g', HP2.out, HSx.out⟩
                    case measure => simp [intOf]; omega
                · have HSx : Hid (Sys w0 [(p1, d')] [(.slice a1 N q1, statesD (flD D0))] [(.slice a2 N q2, allD (flD D0))] [(w4.heap.size, .cells (bv g') 4 (0, 0))] w5) := by
                    have hgg := HGB.out
                    rw [if_neg (by omega)] at hgg
                    rw [hgg]; exact hS5
                  clear hS5 HGB
                  go_wp2
                  go_roundw
                  case rel => exact ⟨m + 1, by omega, by go_num, d', g', HP2.out, HSx.out⟩
                  case measure => simp [intOf]; omega
              by_cases k6 : q % 13 = 6
              · have t1 : (q : Int) % 13 = 6 := by omega
                by_cases hi0 : 0 ≤ xi
                · obtain ⟨j, rfl⟩ : ∃ j : Nat, xi = j := ⟨xi.toNat, by omega⟩
                  by_cases hi1 : j < N
                  · have hj2 : (j : Int) < (N : Int) := by omega
                    have hgg : g' = g.set j true := by have := HGB.out; rw [if_pos ⟨by omega, by omega, by omega⟩, Int.toNat_natCast] at this; exact this
                    have hG := hS5.row (List.mem_cons_self ..)
                    obtain ⟨v0, cg⟩ : ∃ v, w5.cell? ⟨w4.heap.size, j, none⟩ = some v := by rw [cell_of_row _ _ _ _ _ _ hG]; exact ⟨_, Array.getElem?_eq_getElem (by rw [bv_size]; omega)⟩
                    have fg : w5.frozen? ⟨w4.heap.size, j, none⟩ = false := frozen_of_row _ _ _ _ _ hG
                    have HSx : Hid (Sys w0 [(p1, d')] [(.slice a1 N q1, statesD (flD D0))] [(.slice a2 N q2, allD (flD D0))] [(w4.heap.size, .cells (bv g') 4 (0, 0))] (w5.setCell ⟨w4.heap.size, j, none⟩ (.bool true))) := by
                      have := hS5.putRow (fun _ h => by simp at h) HNi.out HNt.out j (.bool true)
                      rw [bv_set, ← hgg] at this
                      exact this
                    clear hS5 hG hgg HGB
                    go_wp2
                    go_roundw
                    case rel => exact ⟨m + 1, by omega, by go_num, d', g', HP2.out, HSx.out⟩
                    case measure => simp [intOf]; omega
                  · have hj2 : ¬ (j : Int) < (N : Int) := by omega
                    have HSx : Hid (Sys w0 [(p1, d')] [(.slice a1 N q1, statesD (flD D0))] [(.slice a2 N q2, allD (flD D0))] [(w4.heap.size, .cells (bv g') 4 (0, 0))] w5) := by
                      have hgg := HGB.out
                      rw [if_neg (by omega)] at hgg
                      rw [hgg]; exact hS5
                    clear hS5 HGB
                    go_wp2
                    go_roundw
                    case rel => exact ⟨m + 1, by omega, by go_num, d', g', HP2.out, HSx.out⟩
                    case measure => simp [intOf]; omega
                · have HSx : Hid (Sys w0 [(p1, d')] [(.slice a1 N q1, statesD (flD D0))] [(.slice a2 N q2, allD (flD D0))] [(w4.heap.size, .cells (bv g') 4 (0, 0))] w5) := by
                    have hgg := HGB.out
                    rw [if_neg (by omega)] at hgg
                    rw [hgg]; exact hS5
                  clear hS5 HGB
                  go_wp2
                  go_roundw
                  case rel => exact ⟨m + 1, by omega, by go_num, d', g', HP2.out, HSx.out⟩
                  case measure => simp [intOf]; omega
              have t1 : ¬ (q : Int) % 13 = 5 := by omega
              have t2 : ¬ (q : Int) % 13 = 6 := by omega
              have t1b : ((q : Int) % 13 == 5) = false := by simpa using t1
              have t2b : ((q : Int) % 13 == 6) = false := by simpa using t2
              have HSx : Hid (Sys w0 [(p1, d')] [(.slice a1 N q1, statesD (flD D0))] [(.slice a2 N q2, allD (flD D0))] [(w4.heap.size, .cells (bv g') 4 (0, 0))] w5) := by
                have hgg := HGB.out
                rw [if_neg (by omega)] at hgg
                rw [hgg]; exact hS5
              clear hS5 HGB
              go_wp2
              go_roundw
              case rel => exact ⟨m + 1, by omega, by go_num, d', g', HP2.out, HSx.out⟩
              case measure => simp [intOf]; omega
            · have hq3 : (7 : Int) ≤ (x.q : Int) % 13 := by omega
              have HS2 : Hid (Sys w0 [(p1, d)] [(.slice a1 N q1, statesD (flD D0))] [(.slice a2 N q2, allD (flD D0))] [(w4.heap.size, .cells (bv g) 4 (0, 0))] (wr.alloc (.cells #[.int .u8 (x.q : Int), .int .i64 x.i, .int .i64 x.n, .string (S x.s), .slice x.ka x.k.length x.kc] 37))) := hS.below ((Below.refl _ _).alloc (Nat.le_refl _) _)
              clear hP hS hS1 hx hrg HPx hok
              unfold DoX.v doV DoX.kv at HRg HIC HOne
              generalize S x.s = A at *
              go_wp2_with (first | (refine store_last rfl 37 (.tmp 12) (.tmp 59) rfl 5 _ _ _ rfl rfl HI5.out rfl rfl HOne.out ?_) | (refine wpList_load_mid rfl 37 (.tmp 58) rfl b (o + m * 5) rfl _ _ HRg.out Try.underlying37 rfl HIC.out ?_))
              go_roundw
              case rel => exact ⟨m + 1, by omega, by go_num, d, g, HPs.out, HS2.out⟩
              case measure => simp [intOf]; omega
          · have hlt2 : ¬ (m : Int) < (ys.length : Int) := by omega
            have hwf2 := hP.wf
            have HPf : Hid (Ph D0.told g D0.starts m d) := hP
            have HCr : Hid (crashE d k = (0, crashD d k)) := crash_up hP.up k
            obtain ⟨D2, hD2⟩ : ∃ D2, crashD d k = D2 := ⟨_, rfl⟩
            have hD2w : Wf D2 := by rw [← hD2]; exact hP.wf.crash k
            have hu2 : D2.up = false ∧ D2.starts = D0.starts ∧ D2.acts = [] := by rw [← hD2]; exact ⟨rfl, hP.starts, rfl⟩
            have hl3 : D2.told.length = N ∧ D2.sure.length = N := by
              have h1 := hD2w.plain.len
              have h2 : D2.sure.length = N := by rw [← hD2]; show (crashN d.sure d.told d.acts k d.acts.length).1.length = N; rw [(crashN_len _ _ _ _ _).1, hP.sure]; exact HN.out
              exact ⟨by omega, h2⟩
            have HFin : Hid (∀ (i : Nat) (b : Blk), D0.told[i]? = some b → (b.st = 2 ∨ b.st = 1 ∧ g[i]? = some false) → D2.told[i]? = some b) := fun i b hb hc => by rw [← hD2]; exact hP.stays k i b hb hc
            have HSt : Hid (startD D2 = (0, stD D2)) := start_down hu2.1
            rw [hD2] at HCr
            have hgl : g.length = N := by rw [hP.len]; exact HN.out
            have HPl : Hid (∀ b ∈ D0.told, b.st ≤ 2) := by
              have := hP.wf.plain.sure
              rw [hP.sure] at this
              exact this
            have HS90 : Hid (Sys w0 [(p1, d)] [(.slice a1 N q1, statesD (flD D0))] [(.slice a2 N q2, allD (flD D0))] [(w4.heap.size, .cells (bv g) 4 (0, 0))] wr) := hS
            clear hS hP hwf2 HPf hD2 hlt HMY HY HG

            have HC5 : Hid (Calls Try.prog 31 #[.pointer (some ⟨p1, 0, none⟩), .slice ka k.length kc] wr fun e w' => e = .returned (.int .i64 0) ∧ Sys w0 [(p1, D2)] [(.slice a1 N q1, statesD (flD D0))] [(.slice a2 N q2, allD (flD D0))] [(w4.heap.size, .cells (bv g) 4 (0, 0))] w') := by
                          have := sys_crash HS90.out 0 rfl HK.out
                          rw [HCr.out] at this
                          exact this
            clear HS90
            go_wp2_with fail
            refine Calls.mono HC5.out ?_
            rintro e w5 ⟨rfl, h5⟩
            have HS5 : Hid (Sys w0 [(p1, D2)] [(.slice a1 N q1, statesD (flD D0))] [(.slice a2 N q2, allD (flD D0))] [(w4.heap.size, .cells (bv g) 4 (0, 0))] w5) := h5
            clear HC5 h5 
            have HC6 : Hid (Calls Try.prog 32 #[.pointer (some ⟨p1, 0, none⟩)] w5 fun e w' => e = .returned (.int .i64 0) ∧ Sys w0 [(p1, stD D2)] [(.slice a1 N q1, statesD (flD D0))] [(.slice a2 N q2, allD (flD D0))] [(w4.heap.size, .cells (bv g) 4 (0, 0))] w') := by
                          have := sys_start HS5.out 0 rfl (show D2.starts < _ by omega)
                          rw [HSt.out] at this
                          exact this
            clear HS5
            go_wp2_with fail
            refine Calls.mono HC6.out ?_
            rintro e w6 ⟨rfl, h6⟩
            have HS6 : Hid (Sys w0 [(p1, stD D2)] [(.slice a1 N q1, statesD (flD D0))] [(.slice a2 N q2, allD (flD D0))] [(w4.heap.size, .cells (bv g) 4 (0, 0))] w6) := h6
            clear HC6 h6 
            have HC7 : Hid (Calls Try.prog 24 #[.pointer (some ⟨p1, 0, none⟩)] w6 fun e w' => ∃ v, e = .returned v ∧ Sys w0 [(p1, stD D2)] [(v, statesD (stD D2)), (.slice a1 N q1, statesD (flD D0))] [(.slice a2 N q2, allD (flD D0))] [(w4.heap.size, .cells (bv g) 4 (0, 0))] w') := sys_states HS6.out 0 rfl
            clear HS6
            go_wp2_with fail
            refine Calls.mono HC7.out ?_
            rintro e w7 ⟨v7, rfl, h7⟩
            have HS7 : Hid (Sys w0 [(p1, stD D2)] [(v7, statesD (stD D2)), (.slice a1 N q1, statesD (flD D0))] [(.slice a2 N q2, allD (flD D0))] [(w4.heap.size, .cells (bv g) 4 (0, 0))] w7) := h7
            clear HC7 h7 
            have HC8 : Hid (Calls Try.prog 30 #[.pointer (some ⟨p1, 0, none⟩)] w7 fun e w' => ∃ v, e = .returned v ∧ Sys w0 [(p1, stD D2)] [(v7, statesD (stD D2)), (.slice a1 N q1, statesD (flD D0))] [(v, allD (stD D2)), (.slice a2 N q2, allD (flD D0))] [(w4.heap.size, .cells (bv g) 4 (0, 0))] w') := sys_all HS7.out 0 rfl
            clear HS7
            go_wp2_with fail
            refine Calls.mono HC8.out ?_
            rintro e w8 ⟨v8, rfl, h8⟩
            have HS8 : Hid (Sys w0 [(p1, stD D2)] [(v7, statesD (stD D2)), (.slice a1 N q1, statesD (flD D0))] [(v8, allD (stD D2)), (.slice a2 N q2, allD (flD D0))] [(w4.heap.size, .cells (bv g) 4 (0, 0))] w8) := h8
            clear HC8 h8 
            obtain ⟨a3, q3, e3, -⟩ := HS8.out.int (v := v7) (l := statesD (stD D2)) (by simp)
            obtain ⟨a4, q4, e4, -⟩ := HS8.out.text (v := v8) (l := allD (stD D2)) (by simp)
            rw [statesD_len, show (stD D2).told.length = N from hl3.1] at e3
            rw [allD_len, show (stD D2).sure.length = N from hl3.2] at e4
            subst e3 e4
            have hne : ((N : Int) != (N : Int)) = false := by simp
            go_wp2
            go_loopw [16] (fun i wr => ∃ j : Nat, j ≤ N ∧ i = .int .i64 j ∧ Sys w0 [(p1, stD D2)] [(.slice a3 N q3, statesD (stD D2)), (.slice a1 N q1, statesD (flD D0))] [(.slice a4 N q4, allD (stD D2)), (.slice a2 N q2, allD (flD D0))] [(w4.heap.size, .cells (bv g) 4 (0, 0))] wr) (fun i _ => N - (intOf i).toNat)
            case atStart => exact ⟨0, by omega, rfl, HS8.out⟩
            case round =>
              obtain ⟨j, hj, rfl, hS⟩ := hrel
              clear HS8
              by_cases hlt : j < N
              · obtain ⟨B, hB⟩ : ∃ B, D0.told[j]? = some B := ⟨_, List.getElem?_eq_getElem (by rw [HN.out]; exact hlt)⟩
                obtain ⟨B2, hB2⟩ : ∃ B2, D2.told[j]? = some B2 := ⟨_, List.getElem?_eq_getElem (by rw [hl3.1]; exact hlt)⟩
                obtain ⟨G, hG⟩ : ∃ G, g[j]? = some G := ⟨_, List.getElem?_eq_getElem (by rw [hgl]; exact hlt)⟩
                obtain ⟨b1, o1, rfl, c1⟩ := hS.intAt (a := a1) (n := N) (c := q1) (l := statesD (flD D0)) (by simp) (statesD_get (flD D0) j B hB)
                obtain ⟨b3, o3, rfl, c3⟩ := hS.intAt (a := a3) (n := N) (c := q3) (l := statesD (stD D2)) (by simp) (statesD_get (stD D2) j B2 hB2)
                obtain ⟨b2, o2, rfl, c2⟩ := hS.textAt (a := a2) (n := N) (c := q2) (l := allD (flD D0)) (by simp) (allD_txB (d := flD D0) hup rfl j B hB)
                obtain ⟨b4, o4, rfl, c4⟩ := hS.textAt (a := a4) (n := N) (c := q4) (l := allD (stD D2)) (by simp) (allD_txB (d := stD D2) rfl (show D2.told.length = D2.sure.length by omega) j B2 hB2)
                have c5 : wr.cell? ⟨w4.heap.size, j, none⟩ = some (.bool G) := by rw [cell_of_row _ _ _ _ _ _ (hS.row (List.mem_cons_self ..))]; exact bv_get g j G hG
                have hlt2 : (j : Int) < (N : Int) := by omega
                have HB : Hid (Below wr.heap.size wr wr) := Below.refl _ _
                have HS : Hid _ := hS
                have hst := HPl.out B (List.mem_of_getElem? hB)
                have hfin := HFin.out j B hB
                clear hS
                by_cases h2 : B.st = 2
                · have e : B2 = B := by have := hfin (.inl h2); rw [hB2] at this; simpa using this
                  subst e
                  rw [h2] at c1 c3
                  clear hfin hB hB2 hG hst
                  generalize S (txB B2) = A at *
                  go_wp2
                  go_quiet (fail)
                  have HSq : Hid _ := Sys.below HS.out (below_drewN (Below.refl _ wr) nq)
                  generalize wr.drewN nq = wx at *
                  clear HS c1 c2 c3 c4 c5
                  go_wp2
                  go_roundw
                  case rel => exact ⟨j + 1, by omega, by go_num, HSq.out⟩
                  case measure => simp [intOf]; omega
                · by_cases h1 : B.st = 1
                  · cases hGb : G with
                    | false =>
                      have e : B2 = B := by have := hfin (.inr ⟨h1, by rw [hG, hGb]⟩); rw [hB2] at this; simpa using this
                      subst e
                      rw [h1] at c1 c3
                      rw [hGb] at c5
                      clear hfin hB hB2 hG hst hGb h2
                      generalize S (txB B2) = A at *
                      go_wp2
                      go_quiet (fail)
                      have HSq : Hid _ := Sys.below HS.out (below_drewN (Below.refl _ wr) nq)
                      generalize wr.drewN nq = wx at *
                      clear HS c1 c2 c3 c4 c5
                      go_wp2
                      go_roundw
                      case rel => exact ⟨j + 1, by omega, by go_num, HSq.out⟩
                      case measure => simp [intOf]; omega
                    | true =>
                      rw [h1] at c1
                      rw [hGb] at c5
                      clear hfin hB hB2 hG hst hGb h2
                      generalize S (txB B2) = A at *
                      generalize S (txB B) = A' at *
                      generalize (B2.st : Int) = y at *
                      go_wp2
                      go_quiet (fail)
                      have HSq : Hid _ := Sys.below HS.out (below_drewN (Below.refl _ wr) nq)
                      generalize wr.drewN nq = wx at *
                      clear HS c1 c2 c3 c4 c5
                      go_wp2
                      go_roundw
                      case rel => exact ⟨j + 1, by omega, by go_num, HSq.out⟩
                      case measure => simp [intOf]; omega
                  · have h0 : B.st = 0 := by omega
                    rw [h0] at c1
                    clear hfin hB hB2 hG hst h1 h2
                    generalize S (txB B2) = A at *
                    generalize S (txB B) = A' at *
                    generalize (B2.st : Int) = y at *
                    go_wp2
                    go_quiet (fail)
                    have HSq : Hid _ := Sys.below HS.out (below_drewN (Below.refl _ wr) nq)
                    generalize wr.drewN nq = wx at *
                    clear HS c1 c2 c3 c4 c5
                    go_wp2
                    go_roundw
                    case rel => exact ⟨j + 1, by omega, by go_num, HSq.out⟩
                    case measure => simp [intOf]; omega
              · have hlt2 : ¬ (j : Int) < (N : Int) := by omega
                have HS99 : Hid (Sys w0 [(p1, stD D2)] [(.slice a3 N q3, statesD (stD D2)), (.slice a1 N q1, statesD (flD D0))] [(.slice a4 N q4, allD (stD D2)), (.slice a2 N q2, allD (flD D0))] [(w4.heap.size, .cells (bv g) 4 (0, 0))] wr) := hS
                clear hS hlt
                have HC9 : Hid (Calls Try.prog 25 #[.pointer (some ⟨p1, 0, none⟩)] wr fun e w' => e = .returned (.int .i64 0) ∧ w' = wr) := by
                                  have := sys_pending HS99.out 0 rfl 
                                  rw [show (stD D2).acts.length = 0 from by rw [show (stD D2).acts = D2.acts from rfl, hu2.2.2]; rfl] at this
                                  exact this
                go_wp2_with fail
                refine Calls.mono HC9.out ?_
                rintro e w9 ⟨rfl, rfl⟩
                clear HC9 
                have HC10 : Hid (Calls Try.prog 16 #[] w9 fun e w' => e = .returned (.bool true) ∧ Sys w0 [(p1, stD D2)] [(.slice a3 N q3, statesD (stD D2)), (.slice a1 N q1, statesD (flD D0))] [(.slice a4 N q4, allD (stD D2)), (.slice a2 N q2, allD (flD D0))] [(w4.heap.size, .cells (bv g) 4 (0, 0))] w') := (does_any w9).mono fun _ _ hh => ⟨hh.1, HS99.out.below hh.2⟩
                clear HS99
                go_wp2_with fail
                refine Calls.mono HC10.out ?_
                rintro e w10 ⟨rfl, h10⟩
                have HS10 : Hid (Sys w0 [(p1, stD D2)] [(.slice a3 N q3, statesD (stD D2)), (.slice a1 N q1, statesD (flD D0))] [(.slice a4 N q4, allD (stD D2)), (.slice a2 N q2, allD (flD D0))] [(w4.heap.size, .cells (bv g) 4 (0, 0))] w10) := h10
                clear HC10 h10 
                have HB : Hid (Below w.heap.size w w10) := HB0.out.trans (HS10.out.base.mono HB0.out.size)
                clear HS10
                go_wp2
                go_ret
                exact ⟨rfl, HB.out⟩
theorem sure_int {w : World} {a a' : Option Addr} {xs ys : List DoX} (h : DosAt w a xs ∧ DosAt w a' ys) (c c' : Nat) (n : Int) (h0 : 0 ≤ n) (h1 : n < 256) {ka : Option Addr} {kc : Nat} {k : List Int} (hk : IntsAt w (.slice ka k.length kc) k) : Calls Try.prog 5 #[.int .u8 n, .agg #[.slice a xs.length c, .slice a' ys.length c'], .slice ka k.length kc] w fun e w' => e = .returned (.bool true) ∧ Below w.heap.size w w' := by
  obtain ⟨m, rfl⟩ : ∃ m : Nat, n = m := ⟨n.toNat, by omega⟩
  exact sure_any h.1 h.2 c c' m (by omega) hk
end Go.Proofs.Ythlaackalmgfnaa
