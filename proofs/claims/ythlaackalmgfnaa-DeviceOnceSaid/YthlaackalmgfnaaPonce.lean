/- The law DeviceOnce, walked. -/
import Derived.Test.YthlaackalmgfnaaEq
import Derived.Test.YthlaackalmgfnaaEc
namespace Go.Proofs.Ythlaackalmgfnaa
open Go.RowKit

set_option maxRecDepth 100000 in
set_option maxHeartbeats 6400000 in
theorem once_any {w : World} {a : Option Addr} {xs : List DoX} (h : DosAt w a xs) (c n : Nat) (hn : n < 256) : Calls Try.prog 8 #[.int .u8 (n : Int), .slice a xs.length c] w fun e w' => e = .returned (.bool true) ∧ Below w.heap.size w w' := by
  have HMu : Hid (Calls Try.prog 9 #[.slice a xs.length c, .int .i64 60] w fun e w' => e = .returned (.bool (muchD xs 60)) ∧ w' = w) := much_any h c 60 (by omega)
  have HD : Hid (DosAt w a xs) := h
  clear h
  cases hmu : muchD xs 60 with
  | true =>
    rw [hmu] at HMu
    clear hmu HD
    go_enter Try.func8, Try.ntmps8
    go_wp2_with fail
    refine Calls.mono HMu.out ?_
    rintro e w' ⟨rfl, rfl⟩
    clear HMu
    go_wp2
    go_ret
    exact ⟨rfl, Below.refl _ _⟩
  | false =>
    rw [hmu] at HMu
    obtain ⟨hl, hm, hmx⟩ := much_parts hmu
    have HMX : Hid (∀ x ∈ xs, x.k.length ≤ 100) := fun x hx => (hmx x hx).2
    clear hmu hm hmx
    go_enter Try.func8, Try.ntmps8
    go_wp2_with fail
    refine Calls.mono HMu.out ?_
    rintro e w0 ⟨rfl, rfl⟩
    clear HMu
    have HW0 : Hid (Wf (afterD n []) ∧ (afterD n []).up = true ∧ (afterD n []).starts = 0 ∧ (afterD n []).acts.length ≤ 0) := ⟨afterD_wf n [], afterD_up n [], rfl, Nat.le_refl _⟩
    have HS0 : Hid (Sys w0 [] [] [] [] w0) := Sys.nil _
    have HC1 : Hid (Calls Try.prog 28 #[.int .u8 (n : Int), .slice none 0 0] w0 fun e w' => ∃ p, e = .returned (.pointer (some ⟨p, 0, none⟩)) ∧ Sys w0 [(p, afterD n [])] [] [] [] w') := sys_after HS0.out (a := none) (xs := []) (fun j x hj => by simp at hj) 0 n hn (by simp) rfl
    clear HS0
    go_wp2_with fail
    refine Calls.mono HC1.out ?_
    rintro e w1 ⟨p1, rfl, h1⟩
    have HS1 : Hid (Sys w0 [(p1, afterD n [])] [] [] [] w1) := h1
    clear HC1 h1 
    go_wp2
    go_loopw [6] (fun i wr => ∃ m : Nat, m ≤ xs.length ∧ i = .int .i64 m ∧ ∃ d, Wf d ∧ d.up = true ∧ d.starts = 0 ∧ d.acts.length ≤ m ∧ Sys w0 [(p1, d)] [] [] [] wr) (fun i _ => xs.length - (intOf i).toNat)
    case atStart => exact ⟨0, by omega, rfl, afterD n [], HW0.out.1, HW0.out.2.1, HW0.out.2.2.1, HW0.out.2.2.2, HS1.out⟩
    case round =>
      obtain ⟨m, hmm, rfl, d, hwf, hup, hst, hfew, hS⟩ := hrel
      clear HS1 HW0
      by_cases hlt : m < xs.length
      · obtain ⟨x, hx⟩ : ∃ x, xs[m]? = some x := ⟨_, List.getElem?_eq_getElem hlt⟩
        obtain ⟨hok, b, o, rfl, hrg⟩ := HD.out m x hx
        have hrg2 := range_below hrg hS.base
        have c0 : wr.cell? ⟨b, o + m * 5, none⟩ = some (.int .u8 (x.q : Int)) := hrg2 0 _ rfl
        have HRg : Hid (∀ wx, Below w0.heap.size w0 wx → wx.rangeAt b (o + m * 5) x.v.toList) := fun wx hb => range_below hrg hb
        have hlt2 : (m : Int) < (xs.length : Int) := by omega
        have hq2 : (x.q : Int) < 256 := by have := hok.q; omega
        have hxk := HMX.out x (List.mem_of_getElem? hx)
        by_cases hq : x.q % 13 ≤ 7
        · have hq3 : ¬ (7 : Int) < (x.q : Int) % 13 := by omega
          obtain ⟨i0, fl, hstp⟩ := once_step hwf hup x hq
          have HX : Hid (x.ok w0) := hok
          have HIC : Hid ((Try.prog.info? 37).map (·.size) = some x.v.toList.length) := by show _ = _; rw [DoX.size]; kernel_rfl
          have HS2 : Hid (Sys w0 [(p1, d)] [] [] [] wr) := hS
          have HStp : Hid _ := hstp
          have HPl : Hid (∀ b ∈ d.told, b.st ≤ 2) := hwf.plain.told
          have HLn : Hid (d.told.length = d.sure.length ∧ d.up = true) := ⟨hwf.plain.len, hup⟩
          clear hS hok hx hrg hrg2 hwf hstp HMX HD
          have HC3 : Hid (Calls Try.prog 24 #[.pointer (some ⟨p1, 0, none⟩)] wr fun e w' => ∃ v, e = .returned v ∧ Sys w0 [(p1, d)] [(v, statesD (d))] [] [] w') := sys_states HS2.out 0 rfl
          clear HS2
          go_wp2_with fail
          refine Calls.mono HC3.out ?_
          rintro e w3 ⟨v3, rfl, h3⟩
          have HS3 : Hid (Sys w0 [(p1, d)] [(v3, statesD (d))] [] [] w3) := h3
          clear HC3 h3 
          have HC4 : Hid (Calls Try.prog 30 #[.pointer (some ⟨p1, 0, none⟩)] w3 fun e w' => ∃ v, e = .returned v ∧ Sys w0 [(p1, d)] [(v3, statesD (d))] [(v, allD (d))] [] w') := sys_all HS3.out 0 rfl
          clear HS3
          go_wp2_with fail
          refine Calls.mono HC4.out ?_
          rintro e w4 ⟨v4, rfl, h4⟩
          have HS4 : Hid (Sys w0 [(p1, d)] [(v3, statesD (d))] [(v4, allD (d))] [] w4) := h4
          clear HC4 h4 
          have HRg2 : Hid (w4.rangeAt b (o + m * 5) x.v.toList) := HRg.out _ HS4.out.base
          obtain ⟨R, hR⟩ : ∃ R, withD d x = R := ⟨_, rfl⟩
          rw [hR] at HStp
          have HC5 : Hid (Calls Try.prog 12 #[.pointer (some ⟨p1, 0, none⟩), .agg x.v] w4 (Tells fun r w' => r = R.1 ∧ Sys w0 [(p1, R.2)] [(v3, statesD (d))] [(v4, allD (d))] [] w')) := by
            have := sys_with HS4.out 0 rfl x HX.out (by omega) (by omega) (by omega) (by omega)
            rw [hR] at this
            exact this
          clear HS4 hR
          generalize x.v = V at *
          go_wp2_with (refine wpList_load_mid rfl 37 _ rfl b (o + m * 5) rfl V.toList _ HRg2.out Try.underlying37 rfl HIC.out ?_)
          refine Calls.mono HC5.out ?_
          rintro e w5 ⟨r, rfl, rfl, h5⟩
          obtain ⟨E, D1⟩ := R
          have HS5 : Hid (Sys w0 [(p1, D1)] [(v3, statesD (d))] [(v4, allD (d))] [] w5) := h5
          clear h5 HC5 HRg2
          dsimp only at HStp
          have HC6 : Hid (Calls Try.prog 24 #[.pointer (some ⟨p1, 0, none⟩)] w5 fun e w' => ∃ v, e = .returned v ∧ Sys w0 [(p1, D1)] [(v, statesD (D1)), (v3, statesD (d))] [(v4, allD (d))] [] w') := sys_states HS5.out 0 rfl
          clear HS5
          go_wp2_with fail
          refine Calls.mono HC6.out ?_
          rintro e w6 ⟨v6, rfl, h6⟩
          have HS6 : Hid (Sys w0 [(p1, D1)] [(v6, statesD (D1)), (v3, statesD (d))] [(v4, allD (d))] [] w6) := h6
          clear HC6 h6 
          have HC7 : Hid (Calls Try.prog 30 #[.pointer (some ⟨p1, 0, none⟩)] w6 fun e w' => ∃ v, e = .returned v ∧ Sys w0 [(p1, D1)] [(v6, statesD (D1)), (v3, statesD (d))] [(v, allD (D1)), (v4, allD (d))] [] w') := sys_all HS6.out 0 rfl
          clear HS6
          go_wp2_with fail
          refine Calls.mono HC7.out ?_
          rintro e w7 ⟨v7, rfl, h7⟩
          have HS7 : Hid (Sys w0 [(p1, D1)] [(v6, statesD (D1)), (v3, statesD (d))] [(v7, allD (D1)), (v4, allD (d))] [] w7) := h7
          clear HC7 h7 
          obtain ⟨N, hN⟩ : ∃ N, d.told.length = N := ⟨_, rfl⟩
          obtain ⟨a1, q1, e1, -⟩ := HS7.out.int (v := v3) (l := statesD (d)) (by simp)
          obtain ⟨a2, q2, e2, -⟩ := HS7.out.text (v := v4) (l := allD (d)) (by simp)
          obtain ⟨a3, q3, e3, -⟩ := HS7.out.int (v := v6) (l := statesD (D1)) (by simp)
          obtain ⟨a4, q4, e4, -⟩ := HS7.out.text (v := v7) (l := allD (D1)) (by simp)
          have hs1 : d.sure.length = N := by rw [← HLn.out.1]; exact hN
          have ht3 : D1.told.length = N := by rw [HStp.out.len]; exact hN
          have hs3 : D1.sure.length = N := by rw [← HStp.out.wf.plain.len]; exact ht3
          have hN512 : N ≤ 512 := by have := (HS7.out.small 0 rfl).1; omega
          rw [statesD_len, hN] at e1
          rw [allD_len, hs1] at e2
          rw [statesD_len, ht3] at e3
          rw [allD_len, hs3] at e4
          subst e1 e2 e3 e4
          have HN : Hid (d.told.length = N ∧ D1.told.length = N ∧ D1.sure.length = N) := ⟨hN, ht3, hs3⟩
          clear hN ht3 hs3 hs1
          have hne : ((N : Int) != (N : Int)) = false := by simp
          have hz : ((chg i0 fl 0 : Nat) : Int) = 0 := by rw [chg_zero]; rfl
          have HZ : Hid _ := hz
          clear hz
          go_wp2
          go_loopw [13, 14] (fun ch i wr => ∃ j : Nat, j ≤ N ∧ i = .int .i64 j ∧ ch = .int .i64 (chg i0 fl j : Int) ∧ Sys w0 [(p1, D1)] [(.slice a3 N q3, statesD D1), (.slice a1 N q1, statesD d)] [(.slice a4 N q4, allD D1), (.slice a2 N q2, allD d)] [] wr) (fun _ i _ => N - (intOf i).toNat)
          case atStart => exact ⟨0, by omega, rfl, by rw [HZ.out], HS7.out⟩
          case round =>
            obtain ⟨j, hj, rfl, rfl, hS⟩ := hrel
            clear HS7 HZ
            by_cases hlt : j < N
            · obtain ⟨B, hB⟩ : ∃ B, d.told[j]? = some B := ⟨_, List.getElem?_eq_getElem (by rw [HN.out.1]; exact hlt)⟩
              obtain ⟨B2, hB2⟩ : ∃ B2, D1.told[j]? = some B2 := ⟨_, List.getElem?_eq_getElem (by rw [HN.out.2.1]; exact hlt)⟩
              obtain ⟨b1, o1, rfl, c1⟩ := hS.intAt (a := a1) (n := N) (c := q1) (l := statesD d) (by simp) (statesD_get d j B hB)
              obtain ⟨b3, o3, rfl, c3⟩ := hS.intAt (a := a3) (n := N) (c := q3) (l := statesD D1) (by simp) (statesD_get D1 j B2 hB2)
              obtain ⟨b2, o2, rfl, c2⟩ := hS.textAt (a := a2) (n := N) (c := q2) (l := allD d) (by simp) (allD_txB (d := d) HLn.out.2 HLn.out.1 j B hB)
              obtain ⟨b4, o4, rfl, c4⟩ := hS.textAt (a := a4) (n := N) (c := q4) (l := allD D1) (by simp) (allD_txB (d := D1) HStp.out.up HStp.out.wf.plain.len j B2 hB2)
              have hlt2 : (j : Int) < (N : Int) := by omega
              have HS : Hid _ := hS
              have hst3 := HPl.out B (List.mem_of_getElem? hB)
              clear hS
              by_cases hon : fl = true ∧ j = i0
              · obtain ⟨rfl, rfl⟩ := hon
                obtain ⟨-, B', B2', g1, g2, g3, g4⟩ := HStp.out.on rfl
                obtain rfl : B' = B := by rw [hB] at g1; simpa using g1.symm
                obtain rfl : B2' = B2 := by rw [hB2] at g2; simpa using g2.symm
                have HCh : Hid ((chg j true (j + 1) : Int) = (chg j true j : Int) + 1) := by show _ = _; rw [(chg_on j).1, (chg_on j).2]; rfl
                have hch0 : ((chg j true j : Nat) : Int) < 1000 := by have := chg_le j true j; omega
                have hch1 : 0 ≤ ((chg j true j : Nat) : Int) := by omega
                generalize ((chg j true j : Nat) : Int) = cg at *
                by_cases h0 : B'.st = 0
                · have h1 : B2'.st = 1 := by omega
                  clear hB hB2 g1 g2 g3 g4 hst3
                  generalize S (txB B2') = A at *
                  generalize S (txB B') = A' at *
                  rw [h0] at c1
                  rw [h1] at c3
                  go_wp2
                  go_quiet (fail)
                  have HSq : Hid _ := Sys.below HS.out (below_drewN (Below.refl _ wr) nq)
                  have cq1 := c1
                  have cq3 := c3
                  rw [← World.cell?_of_block (w := wr) (w' := wr.drewN nq) rfl] at cq1 cq3
                  generalize wr.drewN nq = wx at *
                  clear HS c1 c2 c3 c4
                  go_wp2
                  go_quiet (fail)
                  have HSq2 : Hid _ := Sys.below HSq.out (below_drewN (Below.refl _ wx) nq)
                  generalize wx.drewN nq = wy at *
                  clear HSq cq1 cq3
                  go_wp2
                  go_roundw
                  case rel => exact ⟨j + 1, by omega, by go_num, by rw [HCh.out]; try go_num, HSq2.out⟩
                  case measure => simp [intOf]; omega
                · have h1 : B'.st = 1 := by omega
                  have h2 : B2'.st = 2 := by omega
                  clear hB hB2 g1 g2 g3 g4 hst3 h0
                  generalize S (txB B2') = A at *
                  generalize S (txB B') = A' at *
                  rw [h1] at c1
                  rw [h2] at c3
                  go_wp2
                  go_quiet (fail)
                  have HSq : Hid _ := Sys.below HS.out (below_drewN (Below.refl _ wr) nq)
                  have cq1 := c1
                  have cq3 := c3
                  rw [← World.cell?_of_block (w := wr) (w' := wr.drewN nq) rfl] at cq1 cq3
                  generalize wr.drewN nq = wx at *
                  clear HS c1 c2 c3 c4
                  go_wp2
                  go_quiet (fail)
                  have HSq2 : Hid _ := Sys.below HSq.out (below_drewN (Below.refl _ wx) nq)
                  generalize wx.drewN nq = wy at *
                  clear HSq cq1 cq3
                  go_wp2
                  go_roundw
                  case rel => exact ⟨j + 1, by omega, by go_num, by rw [HCh.out]; try go_num, HSq2.out⟩
                  case measure => simp [intOf]; omega
              · have e : B2 = B := by
                  have := HStp.out.off j (by rcases Nat.decEq j i0 with h | h; exact .inl h; cases fl; exact .inr rfl; exact absurd ⟨rfl, h⟩ hon)
                  rw [hB, hB2] at this
                  simpa using this
                subst e
                have HCh : Hid ((chg i0 fl (j + 1) : Int) = (chg i0 fl j : Int)) := by show _ = _; rw [chg_off hon]
                generalize ((chg i0 fl j : Nat) : Int) = cg at *
                generalize S (txB B2) = A at *
                have hcs : B2.st = 0 ∨ B2.st = 1 ∨ B2.st = 2 := by omega
                clear hB hB2 hst3 hon
                rcases hcs with h0 | h0 | h0
                · rw [h0] at c1
                  rw [h0] at c3
                  go_wp2
                  go_quiet (fail)
                  have HSq : Hid _ := Sys.below HS.out (below_drewN (Below.refl _ wr) nq)
                  have cq1 := c1
                  have cq3 := c3
                  rw [← World.cell?_of_block (w := wr) (w' := wr.drewN nq) rfl] at cq1 cq3
                  generalize wr.drewN nq = wx at *
                  clear HS c1 c2 c3 c4
                  go_wp2
                  go_quiet (fail)
                  have HSq2 : Hid _ := Sys.below HSq.out (below_drewN (Below.refl _ wx) nq)
                  generalize wx.drewN nq = wy at *
                  clear HSq cq1 cq3
                  go_wp2
                  go_roundw
                  case rel => exact ⟨j + 1, by omega, by go_num, by rw [HCh.out]; try go_num, HSq2.out⟩
                  case measure => simp [intOf]; omega
                · rw [h0] at c1
                  rw [h0] at c3
                  go_wp2
                  go_quiet (fail)
                  have HSq : Hid _ := Sys.below HS.out (below_drewN (Below.refl _ wr) nq)
                  have cq1 := c1
                  have cq3 := c3
                  rw [← World.cell?_of_block (w := wr) (w' := wr.drewN nq) rfl] at cq1 cq3
                  generalize wr.drewN nq = wx at *
                  clear HS c1 c2 c3 c4
                  go_wp2
                  go_quiet (fail)
                  have HSq2 : Hid _ := Sys.below HSq.out (below_drewN (Below.refl _ wx) nq)
                  generalize wx.drewN nq = wy at *
                  clear HSq cq1 cq3
                  go_wp2
                  go_roundw
                  case rel => exact ⟨j + 1, by omega, by go_num, by rw [HCh.out]; try go_num, HSq2.out⟩
                  case measure => simp [intOf]; omega
                · rw [h0] at c1
                  rw [h0] at c3
                  go_wp2
                  go_quiet (fail)
                  have HSq : Hid _ := Sys.below HS.out (below_drewN (Below.refl _ wr) nq)
                  have cq1 := c1
                  have cq3 := c3
                  rw [← World.cell?_of_block (w := wr) (w' := wr.drewN nq) rfl] at cq1 cq3
                  generalize wr.drewN nq = wx at *
                  clear HS c1 c2 c3 c4
                  go_wp2
                  go_quiet (fail)
                  have HSq2 : Hid _ := Sys.below HSq.out (below_drewN (Below.refl _ wx) nq)
                  generalize wx.drewN nq = wy at *
                  clear HSq cq1 cq3
                  go_wp2
                  go_roundw
                  case rel => exact ⟨j + 1, by omega, by go_num, by rw [HCh.out]; try go_num, HSq2.out⟩
                  case measure => simp [intOf]; omega
            · have hlt2 : ¬ (j : Int) < (N : Int) := by omega
              have HS99 : Hid (Sys w0 [(p1, D1)] [(.slice a3 N q3, statesD D1), (.slice a1 N q1, statesD d)] [(.slice a4 N q4, allD D1), (.slice a2 N q2, allD d)] [] wr) := hS
              have hchl := chg_le i0 fl j
              have HNx : Hid (Wf D1 ∧ D1.up = true ∧ D1.starts = 0 ∧ D1.acts.length ≤ m + 1 ∧ Sys w0 [(p1, D1)] [] [] [] wr) := ⟨HStp.out.wf, HStp.out.up, by rw [HStp.out.starts]; exact hst, by have := HStp.out.few; omega, hS.less (fun _ h => by simp at h) (fun _ h => by simp at h) (fun _ h => by simp at h)⟩
              have hE : E ≠ 0 → chg i0 fl j = 0 := fun hE => by
                unfold chg
                rw [if_neg]
                rintro ⟨hf, _⟩
                exact hE (HStp.out.on hf).1
              clear hS hlt HStp HS99
              have h1 : ¬ (1 : Int) < ((chg i0 fl j : Nat) : Int) := by omega
              generalize chg i0 fl j = cg at *
              by_cases hE0 : E = 0
              · subst hE0
                go_wp2
                go_roundw
                case rel => exact ⟨m + 1, by omega, by go_num, D1, HNx.out⟩
                case measure => simp [intOf]; omega
              · have hcg := hE hE0
                subst hcg
                have hE1 : (E != 0) = true := by simpa using hE0
                go_wp2
                go_roundw
                case rel => exact ⟨m + 1, by omega, by go_num, D1, HNx.out⟩
                case measure => simp [intOf]; omega
        · have hq3 : (7 : Int) < (x.q : Int) % 13 := by omega
          have HN : Hid (Wf d ∧ d.up = true ∧ d.starts = 0 ∧ d.acts.length ≤ m + 1 ∧ Sys w0 [(p1, d)] [] [] [] wr) := ⟨hwf, hup, hst, by omega, hS⟩
          clear hS hok hx hrg hrg2 hwf HMX HD HRg
          go_wp2
          go_roundw
          case rel => exact ⟨m + 1, by omega, by go_num, d, HN.out⟩
          case measure => simp [intOf]; omega
      · have hlt2 : ¬ (m : Int) < (xs.length : Int) := by omega
        have HDo : Hid (Calls Try.prog 16 #[] wr fun e w2 => e = .returned (.bool true) ∧ Below w0.heap.size w0 w2) := (does_any wr).mono fun _ _ hh => ⟨hh.1, hS.base.trans (hh.2.mono hS.base.size)⟩
        clear hS HD HMX hwf
        go_wp2_with fail
        refine Calls.mono HDo.out ?_
        rintro e w2 ⟨rfl, hb⟩
        have HB : Hid _ := hb
        clear hb HDo
        go_wp2
        go_ret
        exact ⟨rfl, HB.out⟩
theorem once_int {w : World} {a : Option Addr} {xs : List DoX} (h : DosAt w a xs) (c : Nat) (n : Int) (h0 : 0 ≤ n) (h1 : n < 256) : Calls Try.prog 8 #[.int .u8 n, .slice a xs.length c] w fun e w' => e = .returned (.bool true) ∧ Below w.heap.size w w' := by
  obtain ⟨m, rfl⟩ : ∃ m : Nat, n = m := ⟨n.toNat, by omega⟩
  exact once_any h c m (by omega)
end Go.Proofs.Ythlaackalmgfnaa
