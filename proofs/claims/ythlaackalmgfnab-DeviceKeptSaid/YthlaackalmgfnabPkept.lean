/- The law DeviceKept, walked. -/
import Derived.Test.YthlaackalmgfnabEo
import Derived.Test.YthlaackalmgfnabEc
namespace Go.Proofs.Ythlaackalmgfnab
open Go.RowKit

theorem fill15 (N k : Nat) (h : k < N) : (List.replicate k (15 : Int) ++ List.replicate (N - k) 0).set k 15 = List.replicate (k + 1) 15 ++ List.replicate (N - (k + 1)) 0 := by
  rw [List.set_append_right _ _ (by simp), List.length_replicate, Nat.sub_self, show N - k = (N - (k + 1)) + 1 by omega, List.replicate_succ]
  simp [List.replicate_succ']
theorem rep15 (N m : Nat) (h : m < N) : (List.replicate N (15 : Int)).getD m 0 = 15 := by
  rw [List.getD_eq_getElem?_getD, List.getElem?_replicate, if_pos h]; rfl
set_option maxRecDepth 100000 in
set_option maxHeartbeats 3200000 in
theorem kept_any_law {w : World} {a : Option Addr} {xs : List DoX} (h : DosAt w a xs) (c n : Nat) (hn : n < 256) : Calls Try.prog 6 #[.int .u8 (n : Int), .slice a xs.length c] w fun e w' => e = .returned (.bool true) ∧ Below w.heap.size w w' := by
  have HMu : Hid (Calls Try.prog 8 #[.slice a xs.length c, .int .i64 60] w fun e w' => e = .returned (.bool (muchD xs 60)) ∧ w' = w) := much_any h c 60 (by omega)
  have HD : Hid (DosAt w a xs) := h
  clear h
  cases hmu : muchD xs 60 with
  | true =>
    rw [hmu] at HMu
    clear hmu HD
    go_enter Try.func6, Try.ntmps6
    go_wp2_with fail
    refine Calls.mono HMu.out ?_
    rintro e w' ⟨rfl, rfl⟩
    clear HMu
    go_wp2
    go_ret
    exact ⟨rfl, Below.refl _ _⟩
  | false =>
    rw [hmu] at HMu
    obtain ⟨hl, hm, hmx⟩ := much_parts hmu
    obtain ⟨f1, f2⟩ := afterD_few n xs
    have hwf := afterD_wf n xs
    have hup := afterD_up n xs
    obtain ⟨D0, hD0⟩ : ∃ D0, afterD n xs = D0 := ⟨_, rfl⟩
    rw [hD0] at f1 f2 hwf hup
    have HA : Hid (afterD n xs = D0) := hD0
    have HM : Hid (xs.any muchB = false) := hm
    clear hD0 hmu hm hmx
    go_enter Try.func6, Try.ntmps6
    go_wp2_with fail
    refine Calls.mono HMu.out ?_
    rintro e w0 ⟨rfl, rfl⟩
    clear HMu
    have HS0 : Hid (Sys w0 [] [] [] [] w0) := Sys.nil _

    have HC1 : Hid (Calls Try.prog 9 #[.int .u8 (n : Int), .slice a xs.length c] w0 fun e w' => ∃ p, e = .returned (.pointer (some ⟨p, 0, none⟩)) ∧ Sys w0 [(p, D0)] [] [] [] w') := by
          have := sys_after HS0.out HD.out c n hn (by omega) HM.out
          rw [HA.out] at this
          exact this
    clear HS0
    go_wp2_with fail
    refine Calls.mono HC1.out ?_
    rintro e w1 ⟨p1, rfl, h1⟩
    have HS1 : Hid (Sys w0 [(p1, D0)] [] [] [] w1) := h1
    clear HC1 h1 

    have HC2 : Hid (Calls Try.prog 9 #[.int .u8 (n : Int), .slice a xs.length c] w1 fun e w' => ∃ p, e = .returned (.pointer (some ⟨p, 0, none⟩)) ∧ Sys w0 [(p1, D0), (p, D0)] [] [] [] w') := by
          have := sys_after HS1.out HD.out c n hn (by omega) HM.out
          rw [HA.out] at this
          exact this
    clear HS1
    go_wp2_with fail
    refine Calls.mono HC2.out ?_
    rintro e w2 ⟨p2, rfl, h2⟩
    have HS2 : Hid (Sys w0 [(p1, D0), (p2, D0)] [] [] [] w2) := h2
    clear HC2 h2 

    have HC3 : Hid (Calls Try.prog 9 #[.int .u8 (n : Int), .slice a xs.length c] w2 fun e w' => ∃ p, e = .returned (.pointer (some ⟨p, 0, none⟩)) ∧ Sys w0 [(p1, D0), (p2, D0), (p, D0)] [] [] [] w') := by
          have := sys_after HS2.out HD.out c n hn (by omega) HM.out
          rw [HA.out] at this
          exact this
    clear HS2
    go_wp2_with fail
    refine Calls.mono HC3.out ?_
    rintro e w3 ⟨p3, rfl, h3⟩
    have HS3 : Hid (Sys w0 [(p1, D0), (p2, D0), (p3, D0)] [] [] [] w3) := h3
    clear HC3 h3 
    have HC4 : Hid (Calls Try.prog 10 #[.pointer (some ⟨p3, 0, none⟩)] w3 fun e w' => ∃ p, e = .returned (.pointer (some ⟨p, 0, none⟩)) ∧ Sys w0 [(p1, D0), (p2, D0), (p3, D0), (p, runD D0.sure)] [] [] [] w') := sys_clone HS3.out 2 rfl
    clear HS3
    go_wp2_with fail
    refine Calls.mono HC4.out ?_
    rintro e w4 ⟨p4, rfl, h4⟩
    have HS4 : Hid (Sys w0 [(p1, D0), (p2, D0), (p3, D0), (p4, runD D0.sure)] [] [] [] w4) := h4
    clear HC4 h4 
    have HC5 : Hid (Calls Try.prog 12 #[.pointer (some ⟨p1, 0, none⟩)] w4 fun e w' => e = .returned (.int .i64 (D0.acts.length : Int)) ∧ w' = w4) := sys_pending HS4.out 0 rfl 
    go_wp2_with fail
    refine Calls.mono HC5.out ?_
    rintro e w5 ⟨rfl, rfl⟩
    clear HC5 
    have hmk := mk_ints D0.acts.length (by omega) w5
    obtain ⟨N, hN⟩ : ∃ N, D0.acts.length = N := ⟨_, rfl⟩
    have HN : Hid (D0.acts.length = N) := hN
    have hN60 : N ≤ 60 := by omega
    rw [hN] at hmk
    rw [hN]
    have HT0 : Sys w0 [(p1, D0), (p2, D0), (p3, D0), (p4, runD D0.sure)] [] [] [(w5.heap.size, .cells (iv (List.replicate 0 15 ++ List.replicate (N - 0) 0)) 3 (0, 0))] (w5.alloc (.cells (iv (List.replicate N 0)) 3)) := by
      have := HS4.out.addRow (.cells (iv (List.replicate N 0)) 3)
      simpa using this
    have HT : Hid _ := HT0
    clear HT0
    clear hN HS4
    go_wp2
    clear hmk
    go_loopw [10] (fun i wr => ∃ k : Nat, k ≤ N ∧ i = .int .i64 k ∧ Sys w0 [(p1, D0), (p2, D0), (p3, D0), (p4, runD D0.sure)] [] [] [(w5.heap.size, .cells (iv (List.replicate k 15 ++ List.replicate (N - k) 0)) 3 (0, 0))] wr) (fun i _ => N - (intOf i).toNat)
    case atStart => exact ⟨0, by omega, rfl, HT.out⟩
    case round =>
      obtain ⟨k, hk, rfl, hS⟩ := hrel
      clear HT
      by_cases hlt : k < N
      · have hG := hS.row (List.mem_cons_self ..)
        obtain ⟨v0, c1⟩ : ∃ v, wr.cell? ⟨w5.heap.size, k, none⟩ = some v := by
          rw [cell_of_row _ _ _ _ _ _ hG]; exact ⟨_, Array.getElem?_eq_getElem (by rw [iv_size]; simp; omega)⟩
        have f1 : wr.frozen? ⟨w5.heap.size, k, none⟩ = false := frozen_of_row _ _ _ _ _ hG
        have hlt2 : (k : Int) < (N : Int) := by omega
        have HX : Hid (Sys w0 [(p1, D0), (p2, D0), (p3, D0), (p4, runD D0.sure)] [] [] [(w5.heap.size, .cells (iv (List.replicate (k + 1) 15 ++ List.replicate (N - (k + 1)) 0)) 3 (0, 0))] (wr.setCell ⟨w5.heap.size, k, none⟩ (.int .i64 15))) := by
          have := hS.putRow (fun _ h => by simp at h) (fun _ _ h => by simp at h) (fun _ _ h => by simp at h) k (.int .i64 15)
          rw [iv_set, fill15 N k hlt] at this
          exact this
        clear hS hG
        go_wp2
        go_roundw
        case rel => exact ⟨k + 1, by omega, by go_num, HX.out⟩
        case measure => simp [intOf]; omega
      · obtain rfl : k = N := by omega
        have HS90 : Hid (Sys w0 [(p1, D0), (p2, D0), (p3, D0), (p4, runD D0.sure)] [(.slice (some ⟨w5.heap.size, 0, none⟩) k k, List.replicate k 15)] [] [] wr) := by
          have := hS.less (is' := []) (ts' := []) (fun _ h => h) (fun _ h => h) (fun _ h => h)
          rw [Nat.sub_self, List.replicate_zero, List.append_nil] at this
          have := (this.rowInts (c := k) (List.mem_cons_self ..)).less (rs' := []) (fun _ h => h) (fun _ h => h) (fun _ h => by simp at h)
          rw [List.length_replicate] at this
          exact this
        clear hS
        have hw15 : (crashD D0 (List.replicate k 15)).sure = D0.told ∧ (crashD D0 (List.replicate k 15)).told = D0.told := hwf.crash_whole fun m hm => rep15 k m (by have := HN.out; omega)
        have hwn := hwf.crash_nil
        have hwf2 := (flD_wf hwf).crash_nil
        obtain ⟨DA, hDA⟩ : ∃ DA, crashD D0 (List.replicate k 15) = DA := ⟨_, rfl⟩
        obtain ⟨DB, hDB⟩ : ∃ DB, crashD (flD D0) [] = DB := ⟨_, rfl⟩
        obtain ⟨DC, hDC⟩ : ∃ DC, crashD D0 [] = DC := ⟨_, rfl⟩
        have uA : DA.up = false ∧ DA.starts = D0.starts := by rw [← hDA]; exact ⟨rfl, rfl⟩
        have uB : DB.up = false ∧ DB.starts = D0.starts := by rw [← hDB]; exact ⟨rfl, rfl⟩
        have uC : DC.up = false ∧ DC.starts = D0.starts := by rw [← hDC]; exact ⟨rfl, rfl⟩
        rw [hDA] at hw15
        rw [hDB] at hwf2
        rw [hDC] at hwn
        have s1 : statesD (stD DA) = statesD (stD DB) := statesD_congr (by show DA.told = DB.told; rw [hw15.2, hwf2.2]; rfl)
        have s2 : allD (stD DA) = allD (stD DB) := allD_congr rfl (by show DA.told = DB.told; rw [hw15.2, hwf2.2]; rfl) (by show DA.sure.length = DB.sure.length; rw [hw15.1, hwf2.1]; rfl)
        have s3 : statesD (stD DC) = statesD (runD D0.sure) := statesD_congr (by show DC.told = D0.sure; exact hwn.2)
        have s4 : allD (stD DC) = allD (runD D0.sure) := allD_congr rfl (by show DC.told = D0.sure; exact hwn.2) (by show DC.sure.length = D0.sure.length; rw [hwn.1])
        have HDA : Hid (crashE D0 (List.replicate k 15) = (0, DA)) := by show _ = _; rw [crash_up hup, hDA]
        have HDB : Hid (crashE (flD D0) [] = (0, DB)) := by show _ = _; rw [crash_up (show (flD D0).up = true from hup), hDB]
        have HDC : Hid (crashE D0 [] = (0, DC)) := by show _ = _; rw [crash_up hup, hDC]
        have HE : Hid (statesD (stD DA) = statesD (stD DB) ∧ allD (stD DA) = allD (stD DB) ∧ statesD (stD DC) = statesD (runD D0.sure) ∧ allD (stD DC) = allD (runD D0.sure)) := ⟨s1, s2, s3, s4⟩
        have HU : Hid (startD DA = (0, stD DA) ∧ startD DB = (0, stD DB) ∧ startD DC = (0, stD DC) ∧ DA.starts < 1000000 ∧ DB.starts < 1000000 ∧ DC.starts < 1000000) := ⟨start_down uA.1, start_down uB.1, start_down uC.1, by omega, by omega, by omega⟩
        have HFl : Hid (flushD D0 = (0, flD D0)) := flush_eqD hwf hup
        clear s1 s2 s3 s4 uA uB uC hDA hDB hDC hwn hwf2 hw15 hwf hup HN HM HD HA f1 f2 hlt
        have HC6 : Hid (Calls Try.prog 20 #[.pointer (some ⟨p1, 0, none⟩), .slice (some ⟨w5.heap.size, 0, none⟩) k k] wr fun e w' => e = .returned (.int .i64 0) ∧ Sys w0 [(p1, DA), (p2, D0), (p3, D0), (p4, runD D0.sure)] [(.slice (some ⟨w5.heap.size, 0, none⟩) k k, List.replicate k 15)] [] [] w') := by
                  have := sys_crash2 HS90.out 0 rfl (kq := .slice (some ⟨w5.heap.size, 0, none⟩) k k) (k := List.replicate k 15) (by simp)
                  rw [HDA.out] at this
                  exact this
        clear HS90
        go_wp2_with fail
        refine Calls.mono HC6.out ?_
        rintro e w6 ⟨rfl, h6⟩
        have HS6 : Hid (Sys w0 [(p1, DA), (p2, D0), (p3, D0), (p4, runD D0.sure)] [(.slice (some ⟨w5.heap.size, 0, none⟩) k k, List.replicate k 15)] [] [] w6) := h6
        clear HC6 h6 
        have HC7 : Hid (Calls Try.prog 27 #[.pointer (some ⟨p2, 0, none⟩)] w6 fun e w' => e = .returned (.int .i64 0) ∧ Sys w0 [(p1, DA), (p2, flD D0), (p3, D0), (p4, runD D0.sure)] [(.slice (some ⟨w5.heap.size, 0, none⟩) k k, List.replicate k 15)] [] [] w') := by
                  have := sys_flush HS6.out 1 rfl 
                  rw [HFl.out] at this
                  exact this
        clear HS6
        go_wp2_with fail
        refine Calls.mono HC7.out ?_
        rintro e w7 ⟨rfl, h7⟩
        have HS7 : Hid (Sys w0 [(p1, DA), (p2, flD D0), (p3, D0), (p4, runD D0.sure)] [(.slice (some ⟨w5.heap.size, 0, none⟩) k k, List.replicate k 15)] [] [] w7) := h7
        clear HC7 h7 
        have HC8 : Hid (Calls Try.prog 20 #[.pointer (some ⟨p2, 0, none⟩), .slice none 0 0] w7 fun e w' => e = .returned (.int .i64 0) ∧ Sys w0 [(p1, DA), (p2, DB), (p3, D0), (p4, runD D0.sure)] [(.slice (some ⟨w5.heap.size, 0, none⟩) k k, List.replicate k 15)] [] [] w') := by
                  have := sys_crash HS7.out 1 rfl (ints_nil _)
                  rw [HDB.out] at this
                  exact this
        clear HS7
        go_wp2_with fail
        refine Calls.mono HC8.out ?_
        rintro e w8 ⟨rfl, h8⟩
        have HS8 : Hid (Sys w0 [(p1, DA), (p2, DB), (p3, D0), (p4, runD D0.sure)] [(.slice (some ⟨w5.heap.size, 0, none⟩) k k, List.replicate k 15)] [] [] w8) := h8
        clear HC8 h8 
        have HC9 : Hid (Calls Try.prog 20 #[.pointer (some ⟨p3, 0, none⟩), .slice none 0 0] w8 fun e w' => e = .returned (.int .i64 0) ∧ Sys w0 [(p1, DA), (p2, DB), (p3, DC), (p4, runD D0.sure)] [(.slice (some ⟨w5.heap.size, 0, none⟩) k k, List.replicate k 15)] [] [] w') := by
                  have := sys_crash HS8.out 2 rfl (ints_nil _)
                  rw [HDC.out] at this
                  exact this
        clear HS8
        go_wp2_with fail
        refine Calls.mono HC9.out ?_
        rintro e w9 ⟨rfl, h9⟩
        have HS9 : Hid (Sys w0 [(p1, DA), (p2, DB), (p3, DC), (p4, runD D0.sure)] [(.slice (some ⟨w5.heap.size, 0, none⟩) k k, List.replicate k 15)] [] [] w9) := h9
        clear HC9 h9 
        have HC10 : Hid (Calls Try.prog 26 #[.pointer (some ⟨p1, 0, none⟩)] w9 fun e w' => e = .returned (.int .i64 0) ∧ Sys w0 [(p1, stD DA), (p2, DB), (p3, DC), (p4, runD D0.sure)] [(.slice (some ⟨w5.heap.size, 0, none⟩) k k, List.replicate k 15)] [] [] w') := by
                  have := sys_start HS9.out 0 rfl HU.out.2.2.2.1
                  rw [HU.out.1] at this
                  exact this
        clear HS9
        go_wp2_with fail
        refine Calls.mono HC10.out ?_
        rintro e w10 ⟨rfl, h10⟩
        have HS10 : Hid (Sys w0 [(p1, stD DA), (p2, DB), (p3, DC), (p4, runD D0.sure)] [(.slice (some ⟨w5.heap.size, 0, none⟩) k k, List.replicate k 15)] [] [] w10) := h10
        clear HC10 h10 
        have HC11 : Hid (Calls Try.prog 26 #[.pointer (some ⟨p2, 0, none⟩)] w10 fun e w' => e = .returned (.int .i64 0) ∧ Sys w0 [(p1, stD DA), (p2, stD DB), (p3, DC), (p4, runD D0.sure)] [(.slice (some ⟨w5.heap.size, 0, none⟩) k k, List.replicate k 15)] [] [] w') := by
                  have := sys_start HS10.out 1 rfl HU.out.2.2.2.2.1
                  rw [HU.out.2.1] at this
                  exact this
        clear HS10
        go_wp2_with fail
        refine Calls.mono HC11.out ?_
        rintro e w11 ⟨rfl, h11⟩
        have HS11 : Hid (Sys w0 [(p1, stD DA), (p2, stD DB), (p3, DC), (p4, runD D0.sure)] [(.slice (some ⟨w5.heap.size, 0, none⟩) k k, List.replicate k 15)] [] [] w11) := h11
        clear HC11 h11 
        have HC12 : Hid (Calls Try.prog 26 #[.pointer (some ⟨p3, 0, none⟩)] w11 fun e w' => e = .returned (.int .i64 0) ∧ Sys w0 [(p1, stD DA), (p2, stD DB), (p3, stD DC), (p4, runD D0.sure)] [(.slice (some ⟨w5.heap.size, 0, none⟩) k k, List.replicate k 15)] [] [] w') := by
                  have := sys_start HS11.out 2 rfl HU.out.2.2.2.2.2
                  rw [HU.out.2.2.1] at this
                  exact this
        clear HS11
        go_wp2_with fail
        refine Calls.mono HC12.out ?_
        rintro e w12 ⟨rfl, h12⟩
        have HS12 : Hid (Sys w0 [(p1, stD DA), (p2, stD DB), (p3, stD DC), (p4, runD D0.sure)] [(.slice (some ⟨w5.heap.size, 0, none⟩) k k, List.replicate k 15)] [] [] w12) := h12
        clear HC12 h12 
        have HC13 : Hid (Calls Try.prog 15 #[.pointer (some ⟨p1, 0, none⟩)] w12 fun e w' => ∃ v, e = .returned v ∧ Sys w0 [(p1, stD DA), (p2, stD DB), (p3, stD DC), (p4, runD D0.sure)] [(v, statesD (stD DA)), (.slice (some ⟨w5.heap.size, 0, none⟩) k k, List.replicate k 15)] [] [] w') := sys_states HS12.out 0 rfl
        clear HS12
        go_wp2_with fail
        refine Calls.mono HC13.out ?_
        rintro e w13 ⟨v13, rfl, h13⟩
        have HS13 : Hid (Sys w0 [(p1, stD DA), (p2, stD DB), (p3, stD DC), (p4, runD D0.sure)] [(v13, statesD (stD DA)), (.slice (some ⟨w5.heap.size, 0, none⟩) k k, List.replicate k 15)] [] [] w13) := h13
        clear HC13 h13 
        have HC14 : Hid (Calls Try.prog 15 #[.pointer (some ⟨p2, 0, none⟩)] w13 fun e w' => ∃ v, e = .returned v ∧ Sys w0 [(p1, stD DA), (p2, stD DB), (p3, stD DC), (p4, runD D0.sure)] [(v, statesD (stD DB)), (v13, statesD (stD DA)), (.slice (some ⟨w5.heap.size, 0, none⟩) k k, List.replicate k 15)] [] [] w') := sys_states HS13.out 1 rfl
        clear HS13
        go_wp2_with fail
        refine Calls.mono HC14.out ?_
        rintro e w14 ⟨v14, rfl, h14⟩
        have HS14 : Hid (Sys w0 [(p1, stD DA), (p2, stD DB), (p3, stD DC), (p4, runD D0.sure)] [(v14, statesD (stD DB)), (v13, statesD (stD DA)), (.slice (some ⟨w5.heap.size, 0, none⟩) k k, List.replicate k 15)] [] [] w14) := h14
        clear HC14 h14 
        have HC15 : Hid (Calls Try.prog 18 #[v13, v14] w14 fun e w' => e = .returned (.bool true) ∧ Sys w0 [(p1, stD DA), (p2, stD DB), (p3, stD DC), (p4, runD D0.sure)] [(v14, statesD (stD DB)), (v13, statesD (stD DA)), (.slice (some ⟨w5.heap.size, 0, none⟩) k k, List.replicate k 15)] [] [] w') := sys_ints HS14.out (l1 := statesD (stD DA)) (l2 := statesD (stD DB)) (by simp) (by simp) (by have := statesD_len2 HS14.out 0 rfl; omega) HE.out.1
        clear HS14
        go_wp2_with fail
        refine Calls.mono HC15.out ?_
        rintro e w15 ⟨rfl, h15⟩
        have HS15 : Hid (Sys w0 [(p1, stD DA), (p2, stD DB), (p3, stD DC), (p4, runD D0.sure)] [(v14, statesD (stD DB)), (v13, statesD (stD DA)), (.slice (some ⟨w5.heap.size, 0, none⟩) k k, List.replicate k 15)] [] [] w15) := h15
        clear HC15 h15 
        have HC16 : Hid (Calls Try.prog 16 #[.pointer (some ⟨p1, 0, none⟩)] w15 fun e w' => ∃ v, e = .returned v ∧ Sys w0 [(p1, stD DA), (p2, stD DB), (p3, stD DC), (p4, runD D0.sure)] [(v14, statesD (stD DB)), (v13, statesD (stD DA)), (.slice (some ⟨w5.heap.size, 0, none⟩) k k, List.replicate k 15)] [(v, allD (stD DA))] [] w') := sys_all HS15.out 0 rfl
        clear HS15
        go_wp2_with fail
        refine Calls.mono HC16.out ?_
        rintro e w16 ⟨v16, rfl, h16⟩
        have HS16 : Hid (Sys w0 [(p1, stD DA), (p2, stD DB), (p3, stD DC), (p4, runD D0.sure)] [(v14, statesD (stD DB)), (v13, statesD (stD DA)), (.slice (some ⟨w5.heap.size, 0, none⟩) k k, List.replicate k 15)] [(v16, allD (stD DA))] [] w16) := h16
        clear HC16 h16 
        have HC17 : Hid (Calls Try.prog 16 #[.pointer (some ⟨p2, 0, none⟩)] w16 fun e w' => ∃ v, e = .returned v ∧ Sys w0 [(p1, stD DA), (p2, stD DB), (p3, stD DC), (p4, runD D0.sure)] [(v14, statesD (stD DB)), (v13, statesD (stD DA)), (.slice (some ⟨w5.heap.size, 0, none⟩) k k, List.replicate k 15)] [(v, allD (stD DB)), (v16, allD (stD DA))] [] w') := sys_all HS16.out 1 rfl
        clear HS16
        go_wp2_with fail
        refine Calls.mono HC17.out ?_
        rintro e w17 ⟨v17, rfl, h17⟩
        have HS17 : Hid (Sys w0 [(p1, stD DA), (p2, stD DB), (p3, stD DC), (p4, runD D0.sure)] [(v14, statesD (stD DB)), (v13, statesD (stD DA)), (.slice (some ⟨w5.heap.size, 0, none⟩) k k, List.replicate k 15)] [(v17, allD (stD DB)), (v16, allD (stD DA))] [] w17) := h17
        clear HC17 h17 
        have HC18 : Hid (Calls Try.prog 19 #[v16, v17] w17 fun e w' => e = .returned (.bool true) ∧ Sys w0 [(p1, stD DA), (p2, stD DB), (p3, stD DC), (p4, runD D0.sure)] [(v14, statesD (stD DB)), (v13, statesD (stD DA)), (.slice (some ⟨w5.heap.size, 0, none⟩) k k, List.replicate k 15)] [(v17, allD (stD DB)), (v16, allD (stD DA))] [] w') := sys_texts HS17.out (l1 := allD (stD DA)) (l2 := allD (stD DB)) (by simp) (by simp) (by have := allD_len2 HS17.out 0 rfl; omega) HE.out.2.1
        clear HS17
        go_wp2_with fail
        refine Calls.mono HC18.out ?_
        rintro e w18 ⟨rfl, h18⟩
        have HS18 : Hid (Sys w0 [(p1, stD DA), (p2, stD DB), (p3, stD DC), (p4, runD D0.sure)] [(v14, statesD (stD DB)), (v13, statesD (stD DA)), (.slice (some ⟨w5.heap.size, 0, none⟩) k k, List.replicate k 15)] [(v17, allD (stD DB)), (v16, allD (stD DA))] [] w18) := h18
        clear HC18 h18 
        have HC19 : Hid (Calls Try.prog 15 #[.pointer (some ⟨p3, 0, none⟩)] w18 fun e w' => ∃ v, e = .returned v ∧ Sys w0 [(p1, stD DA), (p2, stD DB), (p3, stD DC), (p4, runD D0.sure)] [(v, statesD (stD DC)), (v14, statesD (stD DB)), (v13, statesD (stD DA)), (.slice (some ⟨w5.heap.size, 0, none⟩) k k, List.replicate k 15)] [(v17, allD (stD DB)), (v16, allD (stD DA))] [] w') := sys_states HS18.out 2 rfl
        clear HS18
        go_wp2_with fail
        refine Calls.mono HC19.out ?_
        rintro e w19 ⟨v19, rfl, h19⟩
        have HS19 : Hid (Sys w0 [(p1, stD DA), (p2, stD DB), (p3, stD DC), (p4, runD D0.sure)] [(v19, statesD (stD DC)), (v14, statesD (stD DB)), (v13, statesD (stD DA)), (.slice (some ⟨w5.heap.size, 0, none⟩) k k, List.replicate k 15)] [(v17, allD (stD DB)), (v16, allD (stD DA))] [] w19) := h19
        clear HC19 h19 
        have HC20 : Hid (Calls Try.prog 15 #[.pointer (some ⟨p4, 0, none⟩)] w19 fun e w' => ∃ v, e = .returned v ∧ Sys w0 [(p1, stD DA), (p2, stD DB), (p3, stD DC), (p4, runD D0.sure)] [(v, statesD (runD D0.sure)), (v19, statesD (stD DC)), (v14, statesD (stD DB)), (v13, statesD (stD DA)), (.slice (some ⟨w5.heap.size, 0, none⟩) k k, List.replicate k 15)] [(v17, allD (stD DB)), (v16, allD (stD DA))] [] w') := sys_states HS19.out 3 rfl
        clear HS19
        go_wp2_with fail
        refine Calls.mono HC20.out ?_
        rintro e w20 ⟨v20, rfl, h20⟩
        have HS20 : Hid (Sys w0 [(p1, stD DA), (p2, stD DB), (p3, stD DC), (p4, runD D0.sure)] [(v20, statesD (runD D0.sure)), (v19, statesD (stD DC)), (v14, statesD (stD DB)), (v13, statesD (stD DA)), (.slice (some ⟨w5.heap.size, 0, none⟩) k k, List.replicate k 15)] [(v17, allD (stD DB)), (v16, allD (stD DA))] [] w20) := h20
        clear HC20 h20 
        have HC21 : Hid (Calls Try.prog 18 #[v19, v20] w20 fun e w' => e = .returned (.bool true) ∧ Sys w0 [(p1, stD DA), (p2, stD DB), (p3, stD DC), (p4, runD D0.sure)] [(v20, statesD (runD D0.sure)), (v19, statesD (stD DC)), (v14, statesD (stD DB)), (v13, statesD (stD DA)), (.slice (some ⟨w5.heap.size, 0, none⟩) k k, List.replicate k 15)] [(v17, allD (stD DB)), (v16, allD (stD DA))] [] w') := sys_ints HS20.out (l1 := statesD (stD DC)) (l2 := statesD (runD D0.sure)) (by simp) (by simp) (by have := statesD_len2 HS20.out 2 rfl; omega) HE.out.2.2.1
        clear HS20
        go_wp2_with fail
        refine Calls.mono HC21.out ?_
        rintro e w21 ⟨rfl, h21⟩
        have HS21 : Hid (Sys w0 [(p1, stD DA), (p2, stD DB), (p3, stD DC), (p4, runD D0.sure)] [(v20, statesD (runD D0.sure)), (v19, statesD (stD DC)), (v14, statesD (stD DB)), (v13, statesD (stD DA)), (.slice (some ⟨w5.heap.size, 0, none⟩) k k, List.replicate k 15)] [(v17, allD (stD DB)), (v16, allD (stD DA))] [] w21) := h21
        clear HC21 h21 
        have HC22 : Hid (Calls Try.prog 16 #[.pointer (some ⟨p3, 0, none⟩)] w21 fun e w' => ∃ v, e = .returned v ∧ Sys w0 [(p1, stD DA), (p2, stD DB), (p3, stD DC), (p4, runD D0.sure)] [(v20, statesD (runD D0.sure)), (v19, statesD (stD DC)), (v14, statesD (stD DB)), (v13, statesD (stD DA)), (.slice (some ⟨w5.heap.size, 0, none⟩) k k, List.replicate k 15)] [(v, allD (stD DC)), (v17, allD (stD DB)), (v16, allD (stD DA))] [] w') := sys_all HS21.out 2 rfl
        clear HS21
        go_wp2_with fail
        refine Calls.mono HC22.out ?_
        rintro e w22 ⟨v22, rfl, h22⟩
        have HS22 : Hid (Sys w0 [(p1, stD DA), (p2, stD DB), (p3, stD DC), (p4, runD D0.sure)] [(v20, statesD (runD D0.sure)), (v19, statesD (stD DC)), (v14, statesD (stD DB)), (v13, statesD (stD DA)), (.slice (some ⟨w5.heap.size, 0, none⟩) k k, List.replicate k 15)] [(v22, allD (stD DC)), (v17, allD (stD DB)), (v16, allD (stD DA))] [] w22) := h22
        clear HC22 h22 
        have HC23 : Hid (Calls Try.prog 16 #[.pointer (some ⟨p4, 0, none⟩)] w22 fun e w' => ∃ v, e = .returned v ∧ Sys w0 [(p1, stD DA), (p2, stD DB), (p3, stD DC), (p4, runD D0.sure)] [(v20, statesD (runD D0.sure)), (v19, statesD (stD DC)), (v14, statesD (stD DB)), (v13, statesD (stD DA)), (.slice (some ⟨w5.heap.size, 0, none⟩) k k, List.replicate k 15)] [(v, allD (runD D0.sure)), (v22, allD (stD DC)), (v17, allD (stD DB)), (v16, allD (stD DA))] [] w') := sys_all HS22.out 3 rfl
        clear HS22
        go_wp2_with fail
        refine Calls.mono HC23.out ?_
        rintro e w23 ⟨v23, rfl, h23⟩
        have HS23 : Hid (Sys w0 [(p1, stD DA), (p2, stD DB), (p3, stD DC), (p4, runD D0.sure)] [(v20, statesD (runD D0.sure)), (v19, statesD (stD DC)), (v14, statesD (stD DB)), (v13, statesD (stD DA)), (.slice (some ⟨w5.heap.size, 0, none⟩) k k, List.replicate k 15)] [(v23, allD (runD D0.sure)), (v22, allD (stD DC)), (v17, allD (stD DB)), (v16, allD (stD DA))] [] w23) := h23
        clear HC23 h23 
        have HC24 : Hid (Calls Try.prog 19 #[v22, v23] w23 fun e w' => e = .returned (.bool true) ∧ Sys w0 [(p1, stD DA), (p2, stD DB), (p3, stD DC), (p4, runD D0.sure)] [(v20, statesD (runD D0.sure)), (v19, statesD (stD DC)), (v14, statesD (stD DB)), (v13, statesD (stD DA)), (.slice (some ⟨w5.heap.size, 0, none⟩) k k, List.replicate k 15)] [(v23, allD (runD D0.sure)), (v22, allD (stD DC)), (v17, allD (stD DB)), (v16, allD (stD DA))] [] w') := sys_texts HS23.out (l1 := allD (stD DC)) (l2 := allD (runD D0.sure)) (by simp) (by simp) (by have := allD_len2 HS23.out 2 rfl; omega) HE.out.2.2.2
        clear HS23
        go_wp2_with fail
        refine Calls.mono HC24.out ?_
        rintro e w24 ⟨rfl, h24⟩
        have HS24 : Hid (Sys w0 [(p1, stD DA), (p2, stD DB), (p3, stD DC), (p4, runD D0.sure)] [(v20, statesD (runD D0.sure)), (v19, statesD (stD DC)), (v14, statesD (stD DB)), (v13, statesD (stD DA)), (.slice (some ⟨w5.heap.size, 0, none⟩) k k, List.replicate k 15)] [(v23, allD (runD D0.sure)), (v22, allD (stD DC)), (v17, allD (stD DB)), (v16, allD (stD DA))] [] w24) := h24
        clear HC24 h24 
        have HC25 : Hid (Calls Try.prog 21 #[] w24 fun e w' => e = .returned (.bool true) ∧ Sys w0 [(p1, stD DA), (p2, stD DB), (p3, stD DC), (p4, runD D0.sure)] [(v20, statesD (runD D0.sure)), (v19, statesD (stD DC)), (v14, statesD (stD DB)), (v13, statesD (stD DA)), (.slice (some ⟨w5.heap.size, 0, none⟩) k k, List.replicate k 15)] [(v23, allD (runD D0.sure)), (v22, allD (stD DC)), (v17, allD (stD DB)), (v16, allD (stD DA))] [] w') := (does_any w24).mono fun _ _ hh => ⟨hh.1, HS24.out.below hh.2⟩
        clear HS24
        go_wp2_with fail
        refine Calls.mono HC25.out ?_
        rintro e w25 ⟨rfl, h25⟩
        have HS25 : Hid (Sys w0 [(p1, stD DA), (p2, stD DB), (p3, stD DC), (p4, runD D0.sure)] [(v20, statesD (runD D0.sure)), (v19, statesD (stD DC)), (v14, statesD (stD DB)), (v13, statesD (stD DA)), (.slice (some ⟨w5.heap.size, 0, none⟩) k k, List.replicate k 15)] [(v23, allD (runD D0.sure)), (v22, allD (stD DC)), (v17, allD (stD DB)), (v16, allD (stD DA))] [] w25) := h25
        clear HC25 h25 
        have HB : Hid (Below w0.heap.size w0 w25) := HS25.out.base
        clear HS25
        go_wp2
        go_ret
        exact ⟨rfl, HB.out⟩
theorem kept_int {w : World} {a : Option Addr} {xs : List DoX} (h : DosAt w a xs) (c : Nat) (n : Int) (h0 : 0 ≤ n) (h1 : n < 256) : Calls Try.prog 6 #[.int .u8 n, .slice a xs.length c] w fun e w' => e = .returned (.bool true) ∧ Below w.heap.size w w' := by
  obtain ⟨m, rfl⟩ : ∃ m : Nat, n = m := ⟨n.toNat, by omega⟩
  exact kept_any_law h c m (by omega)
end Go.Proofs.Ythlaackalmgfnab
