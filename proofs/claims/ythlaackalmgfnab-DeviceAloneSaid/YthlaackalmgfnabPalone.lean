/- The law DeviceAlone, walked. -/
import Derived.Test.YthlaackalmgfnabEt
import Derived.Test.YthlaackalmgfnabEc
namespace Go.Proofs.Ythlaackalmgfnab
open Go.RowKit

set_option maxRecDepth 100000 in
set_option maxHeartbeats 6400000 in
theorem alone_any {w : World} {a a' : Option Addr} {xs ys : List DoX} (h : DosAt w a xs) (h' : DosAt w a' ys) (c c' n : Nat) (hn : n < 256) : Calls Try.prog 3 #[.int .u8 (n : Int), .slice a xs.length c, .slice a' ys.length c'] w fun e w' => e = .returned (.bool true) ∧ Below w.heap.size w w' := by
  have HMu : Hid (Calls Try.prog 8 #[.slice a xs.length c, .int .i64 60] w fun e w' => e = .returned (.bool (muchD xs 60)) ∧ w' = w) := much_any h c 60 (by omega)
  have HMu2 : Hid (Calls Try.prog 8 #[.slice a' ys.length c', .int .i64 20] w fun e w' => e = .returned (.bool (muchD ys 20)) ∧ w' = w) := much_any h' c' 20 (by omega)
  have HX : Hid (DosAt w a xs) := h
  have HY : Hid (DosAt w a' ys) := h'
  clear h h'
  go_enter Try.func3, Try.ntmps3
  go_wp2_with fail
  refine Calls.mono HMu.out ?_
  rintro e w' ⟨rfl, rfl⟩
  clear HMu
  cases hm1 : muchD xs 60 with
  | true =>
    clear hm1 HX HY HMu2
    go_wp2
    go_ret
    exact ⟨rfl, Below.refl _ _⟩
  | false =>
    obtain ⟨hl, hm, hmx⟩ := much_parts hm1
    have HM : Hid (xs.any muchB = false) := hm
    clear hm1 hm hmx
    go_wp2_with fail
    refine Calls.mono HMu2.out ?_
    rintro e w0 ⟨rfl, rfl⟩
    clear HMu2
    cases hm2 : muchD ys 20 with
    | true =>
      clear hm2 HX HY
      go_wp2
      go_ret
      exact ⟨rfl, Below.refl _ _⟩
    | false =>
      obtain ⟨hl2, -, hmy⟩ := much_parts hm2
      have HMY : Hid (∀ x ∈ ys, x.k.length ≤ 100) := fun x hx => (hmy x hx).2
      clear hm2 hmy
      obtain ⟨f1, f2⟩ := afterD_few n xs
      have hwf := afterD_wf n xs
      have hup := afterD_up n xs
      obtain ⟨D0, hD0⟩ : ∃ D0, afterD n xs = D0 := ⟨_, rfl⟩
      rw [hD0] at f1 f2 hwf hup
      have HA : Hid (afterD n xs = D0) := hD0
      have hcn := hwf.crash_nil
      obtain ⟨DC, hDC⟩ : ∃ DC, crashD D0 [] = DC := ⟨_, rfl⟩
      rw [hDC] at hcn
      have HDC : Hid (crashE D0 [] = (0, DC)) := by show _ = _; rw [crash_up hup, hDC]
      have HE : Hid (statesD DC = statesD (runD D0.sure)) := statesD_congr (show DC.told = D0.sure from hcn.2)
      clear hD0 hwf hcn hDC
      have HS0 : Hid (Sys w0 [] [] [] [] w0) := Sys.nil _
      have HC1 : Hid (Calls Try.prog 9 #[.int .u8 (n : Int), .slice a xs.length c] w0 fun e w' => ∃ p, e = .returned (.pointer (some ⟨p, 0, none⟩)) ∧ Sys w0 [(p, D0)] [] [] [] w') := by
              have := sys_after HS0.out HX.out c n hn (by omega) HM.out
              rw [HA.out] at this
              exact this
      clear HS0
      go_wp2_with fail
      refine Calls.mono HC1.out ?_
      rintro e w1 ⟨p1, rfl, h1⟩
      have HS1 : Hid (Sys w0 [(p1, D0)] [] [] [] w1) := h1
      clear HC1 h1 
      have HC2 : Hid (Calls Try.prog 9 #[.int .u8 (n : Int), .slice a xs.length c] w1 fun e w' => ∃ p, e = .returned (.pointer (some ⟨p, 0, none⟩)) ∧ Sys w0 [(p1, D0), (p, D0)] [] [] [] w') := by
              have := sys_after HS1.out HX.out c n hn (by omega) HM.out
              rw [HA.out] at this
              exact this
      clear HS1
      go_wp2_with fail
      refine Calls.mono HC2.out ?_
      rintro e w2 ⟨p2, rfl, h2⟩
      have HS2 : Hid (Sys w0 [(p1, D0), (p2, D0)] [] [] [] w2) := h2
      clear HC2 h2 
      have HC3 : Hid (Calls Try.prog 10 #[.pointer (some ⟨p1, 0, none⟩)] w2 fun e w' => ∃ p, e = .returned (.pointer (some ⟨p, 0, none⟩)) ∧ Sys w0 [(p1, D0), (p2, D0), (p, runD D0.sure)] [] [] [] w') := sys_clone HS2.out 0 rfl
      clear HS2
      go_wp2_with fail
      refine Calls.mono HC3.out ?_
      rintro e w3 ⟨p3, rfl, h3⟩
      have HS3 : Hid (Sys w0 [(p1, D0), (p2, D0), (p3, runD D0.sure)] [] [] [] w3) := h3
      clear HC3 h3 
      have HC4 : Hid (Calls Try.prog 11 #[.pointer (some ⟨p3, 0, none⟩)] w3 fun e w' => e = .returned (.bool true) ∧ w' = w3) := sys_up HS3.out 2 rfl 
      go_wp2_with fail
      refine Calls.mono HC4.out ?_
      rintro e w4 ⟨rfl, rfl⟩
      clear HC4 
      have HC5 : Hid (Calls Try.prog 12 #[.pointer (some ⟨p3, 0, none⟩)] w4 fun e w' => e = .returned (.int .i64 0) ∧ w' = w4) := sys_pending HS3.out 2 rfl 
      go_wp2_with fail
      refine Calls.mono HC5.out ?_
      rintro e w5 ⟨rfl, rfl⟩
      clear HC5 
      have HC6 : Hid (Calls Try.prog 13 #[.pointer (some ⟨p3, 0, none⟩)] w5 fun e w' => e = .returned (.int .i64 0) ∧ w' = w5) := sys_starts HS3.out 2 rfl 
      go_wp2_with fail
      refine Calls.mono HC6.out ?_
      rintro e w6 ⟨rfl, rfl⟩
      clear HC6 
      have HC7 : Hid (Calls Try.prog 14 #[.pointer (some ⟨p3, 0, none⟩)] w6 fun e w' => e = .returned (.int .i64 (D0.sure.length : Int)) ∧ w' = w6) := by
              have := sys_len HS3.out 2 rfl 
              rw [show (runD D0.sure).sure.length = D0.sure.length from rfl] at this
              exact this
      go_wp2_with fail
      refine Calls.mono HC7.out ?_
      rintro e w7 ⟨rfl, rfl⟩
      clear HC7 
      have HC8 : Hid (Calls Try.prog 14 #[.pointer (some ⟨p1, 0, none⟩)] w7 fun e w' => e = .returned (.int .i64 (D0.sure.length : Int)) ∧ w' = w7) := sys_len HS3.out 0 rfl 
      go_wp2_with fail
      refine Calls.mono HC8.out ?_
      rintro e w8 ⟨rfl, rfl⟩
      clear HC8 
      have hll : ((D0.sure.length : Int) != (D0.sure.length : Int)) = false := by simp
      have HC9 : Hid (Calls Try.prog 15 #[.pointer (some ⟨p3, 0, none⟩)] w8 fun e w' => ∃ v, e = .returned v ∧ Sys w0 [(p1, D0), (p2, D0), (p3, runD D0.sure)] [(v, statesD (runD D0.sure))] [] [] w') := sys_states HS3.out 2 rfl
      clear HS3
      go_wp2_with fail
      refine Calls.mono HC9.out ?_
      rintro e w9 ⟨v9, rfl, h9⟩
      have HS9 : Hid (Sys w0 [(p1, D0), (p2, D0), (p3, runD D0.sure)] [(v9, statesD (runD D0.sure))] [] [] w9) := h9
      clear HC9 h9 
      have HC10 : Hid (Calls Try.prog 16 #[.pointer (some ⟨p3, 0, none⟩)] w9 fun e w' => ∃ v, e = .returned v ∧ Sys w0 [(p1, D0), (p2, D0), (p3, runD D0.sure)] [(v9, statesD (runD D0.sure))] [(v, allD (runD D0.sure))] [] w') := sys_all HS9.out 2 rfl
      clear HS9
      go_wp2_with fail
      refine Calls.mono HC10.out ?_
      rintro e w10 ⟨v10, rfl, h10⟩
      have HS10 : Hid (Sys w0 [(p1, D0), (p2, D0), (p3, runD D0.sure)] [(v9, statesD (runD D0.sure))] [(v10, allD (runD D0.sure))] [] w10) := h10
      clear HC10 h10 
      go_wp2
      go_loopw [12] (fun i wr => ∃ m : Nat, m ≤ ys.length ∧ i = .int .i64 m ∧ ∃ dd : Dv, dd.acts.length ≤ 100 + m ∧ dd.starts ≤ 100 + m ∧ Sys w0 [(p1, D0), (p2, D0), (p3, dd)] [(v9, statesD (runD D0.sure))] [(v10, allD (runD D0.sure))] [] wr) (fun i _ => ys.length - (intOf i).toNat)
      case atStart => exact ⟨0, by omega, rfl, runD D0.sure, Nat.zero_le _, Nat.zero_le _, HS10.out⟩
      case round =>
        obtain ⟨m, hmm, rfl, dd, hda, hdb, hS⟩ := hrel
        clear HS10
        by_cases hlt : m < ys.length
        · obtain ⟨x, hx⟩ : ∃ x, ys[m]? = some x := ⟨_, List.getElem?_eq_getElem hlt⟩
          obtain ⟨hok, b, o, rfl, hrg⟩ := HY.out m x hx
          have HRg : Hid (wr.rangeAt b (o + m * 5) x.v.toList) := range_below hrg hS.base
          have hlt2 : (m : Int) < (ys.length : Int) := by omega
          have hxk := HMY.out x (List.mem_of_getElem? hx)
          have HIC : Hid ((Try.prog.info? 36).map (·.size) = some x.v.toList.length) := by show _ = _; rw [DoX.size]; kernel_rfl
          obtain ⟨g1, g2⟩ := withT_few dd x
          have HW : Hid (Calls Try.prog 17 #[.pointer (some ⟨p3, 0, none⟩), .agg x.v] wr (Tells fun r w' => r = (withT dd x).1 ∧ Sys w0 [(p1, D0), (p2, D0), (p3, (withT dd x).2)] [(v9, statesD (runD D0.sure))] [(v10, allD (runD D0.sure))] [] w')) := sys_withT hS 2 rfl x hok (by omega) (by omega) (by omega)
          clear hS hx hrg hok
          generalize x.v = V at *
          go_wp2_with (refine wpList_load_mid rfl 36 _ rfl b (o + m * 5) rfl V.toList _ HRg.out Try.underlying36 rfl HIC.out ?_)
          refine Calls.mono HW.out ?_
          rintro e w5 ⟨r, rfl, -, h5⟩
          have HN : Hid _ := h5
          clear h5 HW HRg
          go_wp2
          go_roundw
          case rel => exact ⟨m + 1, by omega, by go_num, (withT dd x).2, by omega, by omega, HN.out⟩
          case measure => simp [intOf]; omega
        · have hlt2 : ¬ (m : Int) < (ys.length : Int) := by omega
          have HS40 : Hid (Sys w0 [(p1, D0), (p2, D0), (p3, dd)] [(v9, statesD (runD D0.sure))] [(v10, allD (runD D0.sure))] [] wr) := hS
          clear hS hlt
          have HC41 : Hid (Calls Try.prog 15 #[.pointer (some ⟨p1, 0, none⟩)] wr fun e w' => ∃ v, e = .returned v ∧ Sys w0 [(p1, D0), (p2, D0), (p3, dd)] [(v, statesD (D0)), (v9, statesD (runD D0.sure))] [(v10, allD (runD D0.sure))] [] w') := sys_states HS40.out 0 rfl
          clear HS40
          go_wp2_with fail
          refine Calls.mono HC41.out ?_
          rintro e w41 ⟨v41, rfl, h41⟩
          have HS41 : Hid (Sys w0 [(p1, D0), (p2, D0), (p3, dd)] [(v41, statesD (D0)), (v9, statesD (runD D0.sure))] [(v10, allD (runD D0.sure))] [] w41) := h41
          clear HC41 h41 
          have HC42 : Hid (Calls Try.prog 15 #[.pointer (some ⟨p2, 0, none⟩)] w41 fun e w' => ∃ v, e = .returned v ∧ Sys w0 [(p1, D0), (p2, D0), (p3, dd)] [(v, statesD (D0)), (v41, statesD (D0)), (v9, statesD (runD D0.sure))] [(v10, allD (runD D0.sure))] [] w') := sys_states HS41.out 1 rfl
          clear HS41
          go_wp2_with fail
          refine Calls.mono HC42.out ?_
          rintro e w42 ⟨v42, rfl, h42⟩
          have HS42 : Hid (Sys w0 [(p1, D0), (p2, D0), (p3, dd)] [(v42, statesD (D0)), (v41, statesD (D0)), (v9, statesD (runD D0.sure))] [(v10, allD (runD D0.sure))] [] w42) := h42
          clear HC42 h42 
          have HC43 : Hid (Calls Try.prog 18 #[v41, v42] w42 fun e w' => e = .returned (.bool true) ∧ Sys w0 [(p1, D0), (p2, D0), (p3, dd)] [(v42, statesD (D0)), (v41, statesD (D0)), (v9, statesD (runD D0.sure))] [(v10, allD (runD D0.sure))] [] w') := sys_ints HS42.out (l1 := statesD (D0)) (l2 := statesD (D0)) (by simp) (by simp) (by have := statesD_len2 HS42.out 0 rfl; omega) rfl
          clear HS42
          go_wp2_with fail
          refine Calls.mono HC43.out ?_
          rintro e w43 ⟨rfl, h43⟩
          have HS43 : Hid (Sys w0 [(p1, D0), (p2, D0), (p3, dd)] [(v42, statesD (D0)), (v41, statesD (D0)), (v9, statesD (runD D0.sure))] [(v10, allD (runD D0.sure))] [] w43) := h43
          clear HC43 h43 
          have HC44 : Hid (Calls Try.prog 16 #[.pointer (some ⟨p1, 0, none⟩)] w43 fun e w' => ∃ v, e = .returned v ∧ Sys w0 [(p1, D0), (p2, D0), (p3, dd)] [(v42, statesD (D0)), (v41, statesD (D0)), (v9, statesD (runD D0.sure))] [(v, allD (D0)), (v10, allD (runD D0.sure))] [] w') := sys_all HS43.out 0 rfl
          clear HS43
          go_wp2_with fail
          refine Calls.mono HC44.out ?_
          rintro e w44 ⟨v44, rfl, h44⟩
          have HS44 : Hid (Sys w0 [(p1, D0), (p2, D0), (p3, dd)] [(v42, statesD (D0)), (v41, statesD (D0)), (v9, statesD (runD D0.sure))] [(v44, allD (D0)), (v10, allD (runD D0.sure))] [] w44) := h44
          clear HC44 h44 
          have HC45 : Hid (Calls Try.prog 16 #[.pointer (some ⟨p2, 0, none⟩)] w44 fun e w' => ∃ v, e = .returned v ∧ Sys w0 [(p1, D0), (p2, D0), (p3, dd)] [(v42, statesD (D0)), (v41, statesD (D0)), (v9, statesD (runD D0.sure))] [(v, allD (D0)), (v44, allD (D0)), (v10, allD (runD D0.sure))] [] w') := sys_all HS44.out 1 rfl
          clear HS44
          go_wp2_with fail
          refine Calls.mono HC45.out ?_
          rintro e w45 ⟨v45, rfl, h45⟩
          have HS45 : Hid (Sys w0 [(p1, D0), (p2, D0), (p3, dd)] [(v42, statesD (D0)), (v41, statesD (D0)), (v9, statesD (runD D0.sure))] [(v45, allD (D0)), (v44, allD (D0)), (v10, allD (runD D0.sure))] [] w45) := h45
          clear HC45 h45 
          have HC46 : Hid (Calls Try.prog 19 #[v44, v45] w45 fun e w' => e = .returned (.bool true) ∧ Sys w0 [(p1, D0), (p2, D0), (p3, dd)] [(v42, statesD (D0)), (v41, statesD (D0)), (v9, statesD (runD D0.sure))] [(v45, allD (D0)), (v44, allD (D0)), (v10, allD (runD D0.sure))] [] w') := sys_texts HS45.out (l1 := allD (D0)) (l2 := allD (D0)) (by simp) (by simp) (by have := allD_len2 HS45.out 0 rfl; omega) rfl
          clear HS45
          go_wp2_with fail
          refine Calls.mono HC46.out ?_
          rintro e w46 ⟨rfl, h46⟩
          have HS46 : Hid (Sys w0 [(p1, D0), (p2, D0), (p3, dd)] [(v42, statesD (D0)), (v41, statesD (D0)), (v9, statesD (runD D0.sure))] [(v45, allD (D0)), (v44, allD (D0)), (v10, allD (runD D0.sure))] [] w46) := h46
          clear HC46 h46 
          have HC47 : Hid (Calls Try.prog 12 #[.pointer (some ⟨p1, 0, none⟩)] w46 fun e w' => e = .returned (.int .i64 (D0.acts.length : Int)) ∧ w' = w46) := sys_pending HS46.out 0 rfl 
          go_wp2_with fail
          refine Calls.mono HC47.out ?_
          rintro e w47 ⟨rfl, rfl⟩
          clear HC47 
          have HC48 : Hid (Calls Try.prog 12 #[.pointer (some ⟨p2, 0, none⟩)] w47 fun e w' => e = .returned (.int .i64 (D0.acts.length : Int)) ∧ w' = w47) := sys_pending HS46.out 1 rfl 
          go_wp2_with fail
          refine Calls.mono HC48.out ?_
          rintro e w48 ⟨rfl, rfl⟩
          clear HC48 
          have hpp : ((D0.acts.length : Int) != (D0.acts.length : Int)) = false := by simp
          have HC49 : Hid (Calls Try.prog 10 #[.pointer (some ⟨p1, 0, none⟩)] w48 fun e w' => ∃ p, e = .returned (.pointer (some ⟨p, 0, none⟩)) ∧ Sys w0 [(p1, D0), (p2, D0), (p3, dd), (p, runD D0.sure)] [(v42, statesD (D0)), (v41, statesD (D0)), (v9, statesD (runD D0.sure))] [(v45, allD (D0)), (v44, allD (D0)), (v10, allD (runD D0.sure))] [] w') := sys_clone HS46.out 0 rfl
          clear HS46
          go_wp2_with fail
          refine Calls.mono HC49.out ?_
          rintro e w49 ⟨p49, rfl, h49⟩
          have HS49 : Hid (Sys w0 [(p1, D0), (p2, D0), (p3, dd), (p49, runD D0.sure)] [(v42, statesD (D0)), (v41, statesD (D0)), (v9, statesD (runD D0.sure))] [(v45, allD (D0)), (v44, allD (D0)), (v10, allD (runD D0.sure))] [] w49) := h49
          clear HC49 h49 
          generalize dd = dc at *
          clear hda hdb hmm hlt2
          go_wp2
          go_loopw [14] (fun i wr => ∃ m : Nat, m ≤ ys.length ∧ i = .int .i64 m ∧ ∃ dd : Dv, dd.acts.length ≤ 100 + m ∧ dd.starts ≤ 100 + m ∧ Sys w0 [(p1, dd), (p2, D0), (p3, dc), (p49, runD D0.sure)] [(v42, statesD (D0)), (v41, statesD (D0)), (v9, statesD (runD D0.sure))] [(v45, allD (D0)), (v44, allD (D0)), (v10, allD (runD D0.sure))] [] wr) (fun i _ => ys.length - (intOf i).toNat)
          case atStart => exact ⟨0, by omega, rfl, D0, by omega, by omega, HS49.out⟩
          case round =>
            obtain ⟨m, hmm, rfl, dd, hda, hdb, hS⟩ := hrel
            clear HS49
            by_cases hlt : m < ys.length
            · obtain ⟨x, hx⟩ : ∃ x, ys[m]? = some x := ⟨_, List.getElem?_eq_getElem hlt⟩
              obtain ⟨hok, b, o, rfl, hrg⟩ := HY.out m x hx
              have HRg : Hid (wr.rangeAt b (o + m * 5) x.v.toList) := range_below hrg hS.base
              have hlt2 : (m : Int) < (ys.length : Int) := by omega
              have hxk := HMY.out x (List.mem_of_getElem? hx)
              have HIC : Hid ((Try.prog.info? 36).map (·.size) = some x.v.toList.length) := by show _ = _; rw [DoX.size]; kernel_rfl
              obtain ⟨g1, g2⟩ := withT_few dd x
              have HW : Hid (Calls Try.prog 17 #[.pointer (some ⟨p1, 0, none⟩), .agg x.v] wr (Tells fun r w' => r = (withT dd x).1 ∧ Sys w0 [(p1, (withT dd x).2), (p2, D0), (p3, dc), (p49, runD D0.sure)] [(v42, statesD (D0)), (v41, statesD (D0)), (v9, statesD (runD D0.sure))] [(v45, allD (D0)), (v44, allD (D0)), (v10, allD (runD D0.sure))] [] w')) := sys_withT hS 0 rfl x hok (by omega) (by omega) (by omega)
              clear hS hx hrg hok
              generalize x.v = V at *
              go_wp2_with (refine wpList_load_mid rfl 36 _ rfl b (o + m * 5) rfl V.toList _ HRg.out Try.underlying36 rfl HIC.out ?_)
              refine Calls.mono HW.out ?_
              rintro e w5 ⟨r, rfl, -, h5⟩
              have HN : Hid _ := h5
              clear h5 HW HRg
              go_wp2
              go_roundw
              case rel => exact ⟨m + 1, by omega, by go_num, (withT dd x).2, by omega, by omega, HN.out⟩
              case measure => simp [intOf]; omega
            · have hlt2 : ¬ (m : Int) < (ys.length : Int) := by omega
              have HS60 : Hid (Sys w0 [(p1, dd), (p2, D0), (p3, dc), (p49, runD D0.sure)] [(v42, statesD (D0)), (v41, statesD (D0)), (v9, statesD (runD D0.sure))] [(v45, allD (D0)), (v44, allD (D0)), (v10, allD (runD D0.sure))] [] wr) := hS
              clear hS hlt
              have HC61 : Hid (Calls Try.prog 15 #[.pointer (some ⟨p49, 0, none⟩)] wr fun e w' => ∃ v, e = .returned v ∧ Sys w0 [(p1, dd), (p2, D0), (p3, dc), (p49, runD D0.sure)] [(v, statesD (runD D0.sure)), (v42, statesD (D0)), (v41, statesD (D0)), (v9, statesD (runD D0.sure))] [(v45, allD (D0)), (v44, allD (D0)), (v10, allD (runD D0.sure))] [] w') := sys_states HS60.out 3 rfl
              clear HS60
              go_wp2_with fail
              refine Calls.mono HC61.out ?_
              rintro e w61 ⟨v61, rfl, h61⟩
              have HS61 : Hid (Sys w0 [(p1, dd), (p2, D0), (p3, dc), (p49, runD D0.sure)] [(v61, statesD (runD D0.sure)), (v42, statesD (D0)), (v41, statesD (D0)), (v9, statesD (runD D0.sure))] [(v45, allD (D0)), (v44, allD (D0)), (v10, allD (runD D0.sure))] [] w61) := h61
              clear HC61 h61 
              have HC62 : Hid (Calls Try.prog 18 #[v61, v9] w61 fun e w' => e = .returned (.bool true) ∧ Sys w0 [(p1, dd), (p2, D0), (p3, dc), (p49, runD D0.sure)] [(v61, statesD (runD D0.sure)), (v42, statesD (D0)), (v41, statesD (D0)), (v9, statesD (runD D0.sure))] [(v45, allD (D0)), (v44, allD (D0)), (v10, allD (runD D0.sure))] [] w') := sys_ints HS61.out (l1 := statesD (runD D0.sure)) (l2 := statesD (runD D0.sure)) (by simp) (by simp) (by have := statesD_len2 HS61.out 3 rfl; omega) rfl
              clear HS61
              go_wp2_with fail
              refine Calls.mono HC62.out ?_
              rintro e w62 ⟨rfl, h62⟩
              have HS62 : Hid (Sys w0 [(p1, dd), (p2, D0), (p3, dc), (p49, runD D0.sure)] [(v61, statesD (runD D0.sure)), (v42, statesD (D0)), (v41, statesD (D0)), (v9, statesD (runD D0.sure))] [(v45, allD (D0)), (v44, allD (D0)), (v10, allD (runD D0.sure))] [] w62) := h62
              clear HC62 h62 
              have HC63 : Hid (Calls Try.prog 16 #[.pointer (some ⟨p49, 0, none⟩)] w62 fun e w' => ∃ v, e = .returned v ∧ Sys w0 [(p1, dd), (p2, D0), (p3, dc), (p49, runD D0.sure)] [(v61, statesD (runD D0.sure)), (v42, statesD (D0)), (v41, statesD (D0)), (v9, statesD (runD D0.sure))] [(v, allD (runD D0.sure)), (v45, allD (D0)), (v44, allD (D0)), (v10, allD (runD D0.sure))] [] w') := sys_all HS62.out 3 rfl
              clear HS62
              go_wp2_with fail
              refine Calls.mono HC63.out ?_
              rintro e w63 ⟨v63, rfl, h63⟩
              have HS63 : Hid (Sys w0 [(p1, dd), (p2, D0), (p3, dc), (p49, runD D0.sure)] [(v61, statesD (runD D0.sure)), (v42, statesD (D0)), (v41, statesD (D0)), (v9, statesD (runD D0.sure))] [(v63, allD (runD D0.sure)), (v45, allD (D0)), (v44, allD (D0)), (v10, allD (runD D0.sure))] [] w63) := h63
              clear HC63 h63 
              have HC64 : Hid (Calls Try.prog 19 #[v63, v10] w63 fun e w' => e = .returned (.bool true) ∧ Sys w0 [(p1, dd), (p2, D0), (p3, dc), (p49, runD D0.sure)] [(v61, statesD (runD D0.sure)), (v42, statesD (D0)), (v41, statesD (D0)), (v9, statesD (runD D0.sure))] [(v63, allD (runD D0.sure)), (v45, allD (D0)), (v44, allD (D0)), (v10, allD (runD D0.sure))] [] w') := sys_texts HS63.out (l1 := allD (runD D0.sure)) (l2 := allD (runD D0.sure)) (by simp) (by simp) (by have := allD_len2 HS63.out 3 rfl; omega) rfl
              clear HS63
              go_wp2_with fail
              refine Calls.mono HC64.out ?_
              rintro e w64 ⟨rfl, h64⟩
              have HS64 : Hid (Sys w0 [(p1, dd), (p2, D0), (p3, dc), (p49, runD D0.sure)] [(v61, statesD (runD D0.sure)), (v42, statesD (D0)), (v41, statesD (D0)), (v9, statesD (runD D0.sure))] [(v63, allD (runD D0.sure)), (v45, allD (D0)), (v44, allD (D0)), (v10, allD (runD D0.sure))] [] w64) := h64
              clear HC64 h64 
              have HC65 : Hid (Calls Try.prog 20 #[.pointer (some ⟨p2, 0, none⟩), .slice none 0 0] w64 fun e w' => e = .returned (.int .i64 0) ∧ Sys w0 [(p1, dd), (p2, DC), (p3, dc), (p49, runD D0.sure)] [(v61, statesD (runD D0.sure)), (v42, statesD (D0)), (v41, statesD (D0)), (v9, statesD (runD D0.sure))] [(v63, allD (runD D0.sure)), (v45, allD (D0)), (v44, allD (D0)), (v10, allD (runD D0.sure))] [] w') := by
                              have := sys_crash HS64.out 1 rfl (ints_nil _)
                              rw [HDC.out] at this
                              exact this
              clear HS64
              go_wp2_with fail
              refine Calls.mono HC65.out ?_
              rintro e w65 ⟨rfl, h65⟩
              have HS65 : Hid (Sys w0 [(p1, dd), (p2, DC), (p3, dc), (p49, runD D0.sure)] [(v61, statesD (runD D0.sure)), (v42, statesD (D0)), (v41, statesD (D0)), (v9, statesD (runD D0.sure))] [(v63, allD (runD D0.sure)), (v45, allD (D0)), (v44, allD (D0)), (v10, allD (runD D0.sure))] [] w65) := h65
              clear HC65 h65 
              have HC66 : Hid (Calls Try.prog 15 #[.pointer (some ⟨p2, 0, none⟩)] w65 fun e w' => ∃ v, e = .returned v ∧ Sys w0 [(p1, dd), (p2, DC), (p3, dc), (p49, runD D0.sure)] [(v, statesD (DC)), (v61, statesD (runD D0.sure)), (v42, statesD (D0)), (v41, statesD (D0)), (v9, statesD (runD D0.sure))] [(v63, allD (runD D0.sure)), (v45, allD (D0)), (v44, allD (D0)), (v10, allD (runD D0.sure))] [] w') := sys_states HS65.out 1 rfl
              clear HS65
              go_wp2_with fail
              refine Calls.mono HC66.out ?_
              rintro e w66 ⟨v66, rfl, h66⟩
              have HS66 : Hid (Sys w0 [(p1, dd), (p2, DC), (p3, dc), (p49, runD D0.sure)] [(v66, statesD (DC)), (v61, statesD (runD D0.sure)), (v42, statesD (D0)), (v41, statesD (D0)), (v9, statesD (runD D0.sure))] [(v63, allD (runD D0.sure)), (v45, allD (D0)), (v44, allD (D0)), (v10, allD (runD D0.sure))] [] w66) := h66
              clear HC66 h66 
              have HC67 : Hid (Calls Try.prog 18 #[v66, v9] w66 fun e w' => e = .returned (.bool true) ∧ Sys w0 [(p1, dd), (p2, DC), (p3, dc), (p49, runD D0.sure)] [(v66, statesD (DC)), (v61, statesD (runD D0.sure)), (v42, statesD (D0)), (v41, statesD (D0)), (v9, statesD (runD D0.sure))] [(v63, allD (runD D0.sure)), (v45, allD (D0)), (v44, allD (D0)), (v10, allD (runD D0.sure))] [] w') := sys_ints HS66.out (l1 := statesD (DC)) (l2 := statesD (runD D0.sure)) (by simp) (by simp) (by have := statesD_len2 HS66.out 1 rfl; omega) HE.out
              clear HS66
              go_wp2_with fail
              refine Calls.mono HC67.out ?_
              rintro e w67 ⟨rfl, h67⟩
              have HS67 : Hid (Sys w0 [(p1, dd), (p2, DC), (p3, dc), (p49, runD D0.sure)] [(v66, statesD (DC)), (v61, statesD (runD D0.sure)), (v42, statesD (D0)), (v41, statesD (D0)), (v9, statesD (runD D0.sure))] [(v63, allD (runD D0.sure)), (v45, allD (D0)), (v44, allD (D0)), (v10, allD (runD D0.sure))] [] w67) := h67
              clear HC67 h67 
              have HC68 : Hid (Calls Try.prog 21 #[] w67 fun e w' => e = .returned (.bool true) ∧ Sys w0 [(p1, dd), (p2, DC), (p3, dc), (p49, runD D0.sure)] [(v66, statesD (DC)), (v61, statesD (runD D0.sure)), (v42, statesD (D0)), (v41, statesD (D0)), (v9, statesD (runD D0.sure))] [(v63, allD (runD D0.sure)), (v45, allD (D0)), (v44, allD (D0)), (v10, allD (runD D0.sure))] [] w') := (does_any w67).mono fun _ _ hh => ⟨hh.1, HS67.out.below hh.2⟩
              clear HS67
              go_wp2_with fail
              refine Calls.mono HC68.out ?_
              rintro e w68 ⟨rfl, h68⟩
              have HS68 : Hid (Sys w0 [(p1, dd), (p2, DC), (p3, dc), (p49, runD D0.sure)] [(v66, statesD (DC)), (v61, statesD (runD D0.sure)), (v42, statesD (D0)), (v41, statesD (D0)), (v9, statesD (runD D0.sure))] [(v63, allD (runD D0.sure)), (v45, allD (D0)), (v44, allD (D0)), (v10, allD (runD D0.sure))] [] w68) := h68
              clear HC68 h68 
              have HB : Hid (Below w0.heap.size w0 w68) := HS68.out.base
              clear HS68
              go_wp2
              go_ret
              exact ⟨rfl, HB.out⟩
theorem alone_int {w : World} {a a' : Option Addr} {xs ys : List DoX} (h : DosAt w a xs) (h' : DosAt w a' ys) (c c' : Nat) (n : Int) (h0 : 0 ≤ n) (h1 : n < 256) : Calls Try.prog 3 #[.int .u8 n, .slice a xs.length c, .slice a' ys.length c'] w fun e w' => e = .returned (.bool true) ∧ Below w.heap.size w w' := by
  obtain ⟨m, rfl⟩ : ∃ m : Nat, n = m := ⟨n.toNat, by omega⟩
  exact alone_any h h' c c' m (by omega)
end Go.Proofs.Ythlaackalmgfnab
