/- DeviceFail's loop: the case act. -/
import Derived.Test.YthlaackalmgfnaaFg0
namespace Go.Proofs.Ythlaackalmgfnaa
open Go.RowKit

set_option linter.unusedSimpArgs false in
set_option maxRecDepth 1000000 in
set_option maxHeartbeats 12800000 in
theorem fcase_act {w0 : World} {a' : Option Addr} {c' : Nat} {ys : List DoX} {k : List Int} {ka : Option Addr} {kc st0 g p1 p2 left m : Nat} {ov : Dv} {wr : World} (u cc : Nat → Value) (x0 x1 x4 : Value) {Q0 : Exit → Act → World → Prop} (HFK : FK w0 g a' c' ys k ka kc st0) (HFR : FR w0 p1 p2 k st0 left m ov wr) (hlt : m < ys.length) (x : DoX) (hx : ys[m]? = some x) (hq : x.q % 13 ≤ 7) (hl0 : left = 0) (hcbg : cntB ov x = true ∧ x.q % 13 < 7 ∧ (withD ov x).1 = 0) (hret : ∀ a1 w1, a1.tmps.getD 6 undef = .bool true → a1.defers = [] → Below w0.heap.size w0 w1 → Q0 .ret a1 w1) : Code.wp Try.prog (fbodyOf Try.f7) (Exit.then (fun a1 w1 => fWI w0 cc x0 x1 x4 ka kc g p1 p2 k st0 ys.length a1 w1 ∧ fmu ys.length a1 w1 < fmu ys.length (ffr u cc x0 x1 x4 ka k.length kc g p1 p2 left m) wr) Q0) (ffr u cc x0 x1 x4 ka k.length kc g p1 p2 left m) wr := by
  have HRT : Hid (∀ (a1 : Act) (w1 : World), a1.tmps.getD 6 undef = .bool true → a1.defers = [] → Below w0.heap.size w0 w1 → Q0 .ret a1 w1) := hret
  clear hret
  conv => arg 2; whnf
  unfold ffr
  have hS := HFR.sys
  have c1 := HFK.box wr hS.base
  obtain ⟨hok, b, o, rfl, hrg⟩ := HFK.dos m x hx
  have HRg : Hid (wr.rangeAt b (o + m * 5) x.v.toList) := range_below hrg hS.base
  have hlt2 : (m : Int) < (ys.length : Int) := by omega
  have hq2 : (x.q : Int) < 256 := by have := hok.q; omega
  have HIC : Hid ((Try.prog.info? 37).map (·.size) = some x.v.toList.length) := by show _ = _; rw [DoX.size]; kernel_rfl
  have HI5 : Hid ((Try.prog.info? 37).map (·.size) = some 5) := by show _ = some 5; kernel_rfl
  have HOne : Hid (x.v.toList.toArray.all (·.oneCell') = true) := by show _ = _; simp [DoX.v, doV, DoX.kv, Value.oneCell']
  have hm60 : m ≤ 60 := by have := HFK.few; omega
  have hwf := HFR.wf
  have hou := HFR.up
  have host := HFR.starts
  have hofew := HFR.few
  have hleft := HFR.lt
  have hxk := HFK.much x (List.mem_of_getElem? hx)
  have hst61 := HFK.st
  have HK : Hid (IntsAt w0 (.slice ka k.length kc) k) := HFK.keep
  have HCB : Hid _ := hcbg
  clear hcbg
  have hS1 : Sys w0 [(p1, wF ov left k), (p2, ov)] [] [] [(wr.heap.size, .cells #[.int .u8 (x.q : Int), .int .i64 x.i, .int .i64 x.n, .string (S x.s), .slice x.ka x.k.length x.kc] 37)] (wr.alloc (.cells #[.int .u8 (x.q : Int), .int .i64 x.i, .int .i64 x.n, .string (S x.s), .slice x.ka x.k.length x.kc] 37)) := hS.addRow _
  have hq3 : ¬ (7 : Int) < (x.q : Int) % 13 := by omega
  obtain ⟨i0, fl, hstp⟩ := once_step hwf hou x hq
  have hpos := fun nn => fail_pos hwf hou x hq nn k
  have hfree := fail_free hwf hou x hq k
  have hzero := fun h => fail_zero hwf hou x h k
  have HSta : Hid (Calls Try.prog 23 #[.pointer (some ⟨p2, 0, none⟩), .int .i64 x.i] (wr.alloc (.cells #[.int .u8 (x.q : Int), .int .i64 x.i, .int .i64 x.n, .string (S x.s), .slice x.ka x.k.length x.kc] 37)) fun e w' => e = .returned (.int .i64 (stAtD ov x.i)) ∧ w' = (wr.alloc (.cells #[.int .u8 (x.q : Int), .int .i64 x.i, .int .i64 x.n, .string (S x.s), .slice x.ka x.k.length x.kc] 37))) := sys_state hS1 1 rfl x.i
  have HWo : Hid (Calls Try.prog 12 #[.pointer (some ⟨p2, 0, none⟩), .agg #[.int .u8 (x.q : Int), .int .i64 x.i, .int .i64 x.n, .string (S x.s), .slice x.ka x.k.length x.kc]] (wr.alloc (.cells #[.int .u8 (x.q : Int), .int .i64 x.i, .int .i64 x.n, .string (S x.s), .slice x.ka x.k.length x.kc] 37)) (Tells fun r w' => r = (withD ov x).1 ∧ Sys w0 [(p1, wF ov left k), (p2, (withD ov x).2)] [] [] [(wr.heap.size, .cells #[.int .u8 (x.q : Int), .int .i64 x.i, .int .i64 x.n, .string (S x.s), .slice x.ka x.k.length x.kc] 37)] w')) := sys_with hS1 1 rfl x hok (by omega) (by omega) (by omega) (by omega)
  have HWd : Hid (∀ w5, Sys w0 [(p1, wF ov left k), (p2, (withD ov x).2)] [] [] [(wr.heap.size, .cells #[.int .u8 (x.q : Int), .int .i64 x.i, .int .i64 x.n, .string (S x.s), .slice x.ka x.k.length x.kc] 37)] w5 → Calls Try.prog 12 #[.pointer (some ⟨p1, 0, none⟩), .agg #[.int .u8 (x.q : Int), .int .i64 x.i, .int .i64 x.n, .string (S x.s), .slice x.ka x.k.length x.kc]] w5 (Tells fun r w' => r = (withD (wF ov left k) x).1 ∧ Sys w0 [(p1, (withD (wF ov left k) x).2), (p2, (withD ov x).2)] [] [] [(wr.heap.size, .cells #[.int .u8 (x.q : Int), .int .i64 x.i, .int .i64 x.n, .string (S x.s), .slice x.ka x.k.length x.kc] 37)] w')) := fun w5 h5 => sys_with h5 0 rfl x hok (by omega) (by omega) (show ov.acts.length < _ by omega) (show ov.starts < _ by omega)
  have HFl0 : Hid (flushD (wF ov 0 k) = (43, crashD ov k) ∧ crashE ov k = (0, crashD ov k)) := ⟨flush_zero hou k, crash_up hou k⟩
  have HO1 : Hid (Wf (withD ov x).2 ∧ (withD ov x).2.up = true ∧ (withD ov x).2.starts = st0 ∧ (withD ov x).2.acts.length ≤ 60 + (m + 1)) := ⟨hstp.wf, hstp.up, by rw [hstp.starts]; exact host, by have := hstp.few; omega⟩
  have HO0 : Hid (Wf ov ∧ ov.up = true ∧ ov.starts = st0 ∧ ov.acts.length ≤ 60 + (m + 1)) := ⟨hwf, hou, host, by omega⟩
  have HCn : Hid (cntB ov x = decide (x.q % 13 = 7 ∨ x.q % 13 < 5 ∨ stAtD ov x.i ≠ 2)) := rfl
  have HS1 : Hid (Sys w0 [(p1, wF ov left k), (p2, ov)] [] [] [(wr.heap.size, .cells #[.int .u8 (x.q : Int), .int .i64 x.i, .int .i64 x.n, .string (S x.s), .slice x.ka x.k.length x.kc] 37)] (wr.alloc (.cells #[.int .u8 (x.q : Int), .int .i64 x.i, .int .i64 x.n, .string (S x.s), .slice x.ka x.k.length x.kc] 37))) := hS1
  have hst20 : st0 < 1000 := by omega
  clear hS hS1 hx hrg hok hwf host hofew hstp HFK HFR
  obtain ⟨RO, hRO⟩ : ∃ RO, withD ov x = RO := ⟨_, rfl⟩
  rw [hRO] at HWo HWd HO1
  have HRO : Hid (withD ov x = RO) := hRO
  obtain ⟨cb, hcb⟩ : ∃ cb, cntB ov x = cb := ⟨_, rfl⟩
  rw [hcb] at HCn
  have HPos : Hid (∀ nn, withD (wF ov (nn + 1) k) x = (RO.1, wF RO.2 (if RO.1 = 0 ∧ cb = true then nn else nn + 1) k)) := fun nn => by rw [hpos nn, hRO, hcb]
  have HFree : Hid (cb = false → withD (wF ov 0 k) x = (0, wF ov 0 k) ∧ RO = (0, ov)) := fun h => by rw [← hRO]; exact hfree (by rw [hcb]; exact h)
  have HZero : Hid (x.q % 13 < 7 → cb = true → (RO.1 ≠ 0 ∧ withD (wF ov 0 k) x = (RO.1, wF ov 0 k) ∧ RO.2 = ov) ∨ (RO.1 = 0 ∧ withD (wF ov 0 k) x = (43, crashD RO.2 k))) := fun h1 h2 => by rw [← hRO]; exact hzero h1 (by rw [hcb]; exact h2)
  have HCB2 : Hid _ := HCB.out
  try rw [hcb] at HCB2
  clear hpos hfree hzero hRO hcb HCB
  unfold DoX.v doV DoX.kv at HRg HIC HOne
  obtain ⟨E, O1⟩ := RO
  dsimp only at HWo HWd HO1 HPos HFree HZero
  have HI5b : Hid ((Try.prog.info? 37).map (·.size) = some (#[.int .u8 (x.q : Int), .int .i64 x.i, .int .i64 x.n, .string (S x.s), .slice x.ka x.k.length x.kc] : Array Value).size) := HI5.out
  generalize S x.s = A at *
  go_upto_region 13 with (first | (refine store_last rfl 37 (.tmp 11) (.tmp 68) rfl 5 _ _ _ rfl rfl HI5.out rfl rfl HOne.out ?_) | (refine wpList_load_mid rfl 37 (.tmp 67) rfl b (o + m * 5) rfl _ _ HRg.out Try.underlying37 rfl HIC.out ?_))
  go_cut [13] from 57 to 203 (fun cv wx => cv = .bool cb ∧ wx = (wr.alloc (.cells #[.int .u8 (x.q : Int), .int .i64 x.i, .int .i64 x.n, .string A, .slice x.ka x.k.length x.kc] 37)))
  case first =>
    by_cases h7 : x.q % 13 = 7
    · have t7 : ((x.q : Int) % 13 == 7) = true := by
        have : (x.q : Int) % 13 = 7 := by omega
        simpa using this
      have hc : cb = true := by rw [HCn.out]; exact decide_eq_true (.inl h7)
      subst hc
      go_wp2
      go_meet
      exact ⟨rfl, rfl⟩
    · have t7 : ((x.q : Int) % 13 == 7) = false := by
        have : ¬ (x.q : Int) % 13 = 7 := by omega
        simpa using this
      by_cases h5 : x.q % 13 < 5
      · have t5 : (x.q : Int) % 13 < 5 := by omega
        have hc : cb = true := by rw [HCn.out]; exact decide_eq_true (.inr (.inl h5))
        subst hc
        go_wp2
        go_meet
        exact ⟨rfl, rfl⟩
      · have t5 : ¬ (x.q : Int) % 13 < 5 := by omega
        have hcd : (stAtD ov x.i != 2) = cb := by
          rw [HCn.out]
          by_cases h2 : stAtD ov x.i = 2
          · rw [h2, decide_eq_false (by omega)]; rfl
          · rw [decide_eq_true (.inr (.inr h2))]; simpa using h2
        generalize stAtD ov x.i = st at *
        go_wp2_with fail
        refine Calls.mono HSta.out ?_
        rintro e wq ⟨rfl, rfl⟩
        clear HSta
        go_wp2
        go_meet
        exact ⟨by rw [← hcd], rfl⟩
  case rest =>
    obtain ⟨rfl, rfl⟩ := hcut
    clear HSta HRg HIC HOne c1
    subst hl0
    obtain ⟨hcb, h7, hE'⟩ := HCB2.out
    subst hcb
    rw [HRO.out] at hE'
    have t7b : ((x.q : Int) % 13 == 7) = false := by
      have h8 : ¬ (x.q : Int) % 13 = 7 := by omega
      simpa using h8
    rcases HZero.out h7 rfl with ⟨hE, g1, g2⟩ | ⟨hE, g1⟩
    · exact absurd hE' hE
    · rw [g1] at HWd
      dsimp only at hE HWd hE'
      subst hE
      clear HFree HZero HPos HRO HCn HFl0 g1 hE'
      go_wp2_with fail
      refine Calls.mono HWo.out ?_
      rintro e w5 ⟨r, rfl, hr, h5⟩
      replace hr := hr.symm
      subst hr
      have HG5 : Hid (w5.heap[wr.heap.size]? = some (.cells #[.int .u8 (x.q : Int), .int .i64 x.i, .int .i64 x.n, .string A, .slice x.ka x.k.length x.kc] 37 (0, 0))) := h5.row (List.mem_cons_self ..)
      have HW6 : Hid _ := HWd.out w5 h5
      clear h5 HWo HWd
      go_wp2_with (refine wpList_load_row rfl 37 (.tmp 11) rfl wr.heap.size rfl _ _ (0, 0) _ HG5.out Try.underlying37 rfl HI5b.out ?_)
      refine Calls.mono HW6.out ?_
      rintro e w6 ⟨r, rfl, hr, h6⟩
      replace hr := hr.symm
      subst hr
      obtain ⟨DX, hDX⟩ : ∃ DX, crashD O1 k = DX := ⟨_, rfl⟩
      have HS6 : Hid (Sys w0 [(p1, DX), (p2, O1)] [] [] [(wr.heap.size, .cells #[.int .u8 (x.q : Int), .int .i64 x.i, .int .i64 x.n, .string A, .slice x.ka x.k.length x.kc] 37)] w6) := by rw [hDX] at h6; exact h6
      have uX : DX.up = false ∧ DX.starts = st0 := by rw [← hDX]; exact ⟨rfl, HO1.out.2.2.1⟩
      have HFX : Hid (crashE O1 k = (0, DX)) := by show _ = _; rw [crash_up HO1.out.2.1, hDX]
      have HDX : Hid (startD DX = (0, stD DX) ∧ DX.starts < 1000000) := ⟨start_down uX.1, by omega⟩
      clear hDX h6 HW6 HG5
      have HC301 : Hid (Calls Try.prog 26 #[.pointer (some ⟨p1, 0, none⟩)] w6 fun e w' => e = .returned (.bool false) ∧ w' = w6) := by
        have := sys_up HS6.out 0 rfl 
        rw [show DX.up = false from uX.1] at this
        exact this
      go_wp2_with fail
      refine Calls.mono HC301.out ?_
      rintro e w301 ⟨rfl, rfl⟩
      clear HC301 
      have HC302 : Hid (Calls Try.prog 31 #[.pointer (some ⟨p2, 0, none⟩), .slice ka k.length kc] w301 fun e w' => e = .returned (.int .i64 0) ∧ Sys w0 [(p1, DX), (p2, DX)] [] [] [(wr.heap.size, .cells #[.int .u8 (x.q : Int), .int .i64 x.i, .int .i64 x.n, .string A, .slice x.ka x.k.length x.kc] 37)] w') := by
        have := sys_crash HS6.out 1 rfl HK.out
        rw [HFX.out] at this
        exact this
      clear HS6
      go_wp2_with fail
      refine Calls.mono HC302.out ?_
      rintro e w302 ⟨rfl, h302⟩
      have HS302 : Hid (Sys w0 [(p1, DX), (p2, DX)] [] [] [(wr.heap.size, .cells #[.int .u8 (x.q : Int), .int .i64 x.i, .int .i64 x.n, .string A, .slice x.ka x.k.length x.kc] 37)] w302) := h302
      clear HC302 h302 
      have HC303 : Hid (Calls Try.prog 24 #[.pointer (some ⟨p1, 0, none⟩)] w302 fun e w' => ∃ v, e = .returned v ∧ Sys w0 [(p1, DX), (p2, DX)] [(v, statesD (DX))] [] [(wr.heap.size, .cells #[.int .u8 (x.q : Int), .int .i64 x.i, .int .i64 x.n, .string A, .slice x.ka x.k.length x.kc] 37)] w') := sys_states HS302.out 0 rfl
      clear HS302
      go_wp2_with fail
      refine Calls.mono HC303.out ?_
      rintro e w303 ⟨v303, rfl, h303⟩
      have HS303 : Hid (Sys w0 [(p1, DX), (p2, DX)] [(v303, statesD (DX))] [] [(wr.heap.size, .cells #[.int .u8 (x.q : Int), .int .i64 x.i, .int .i64 x.n, .string A, .slice x.ka x.k.length x.kc] 37)] w303) := h303
      clear HC303 h303 
      have HC304 : Hid (Calls Try.prog 24 #[.pointer (some ⟨p2, 0, none⟩)] w303 fun e w' => ∃ v, e = .returned v ∧ Sys w0 [(p1, DX), (p2, DX)] [(v, statesD (DX)), (v303, statesD (DX))] [] [(wr.heap.size, .cells #[.int .u8 (x.q : Int), .int .i64 x.i, .int .i64 x.n, .string A, .slice x.ka x.k.length x.kc] 37)] w') := sys_states HS303.out 1 rfl
      clear HS303
      go_wp2_with fail
      refine Calls.mono HC304.out ?_
      rintro e w304 ⟨v304, rfl, h304⟩
      have HS304 : Hid (Sys w0 [(p1, DX), (p2, DX)] [(v304, statesD (DX)), (v303, statesD (DX))] [] [(wr.heap.size, .cells #[.int .u8 (x.q : Int), .int .i64 x.i, .int .i64 x.n, .string A, .slice x.ka x.k.length x.kc] 37)] w304) := h304
      clear HC304 h304 
      have HC305 : Hid (Calls Try.prog 14 #[v303, v304] w304 fun e w' => e = .returned (.bool true) ∧ Sys w0 [(p1, DX), (p2, DX)] [(v304, statesD (DX)), (v303, statesD (DX))] [] [(wr.heap.size, .cells #[.int .u8 (x.q : Int), .int .i64 x.i, .int .i64 x.n, .string A, .slice x.ka x.k.length x.kc] 37)] w') := sys_ints HS304.out (l1 := statesD (DX)) (l2 := statesD (DX)) (by simp) (by simp) (by have := statesD_len2 HS304.out 0 rfl; omega) rfl
      clear HS304
      go_wp2_with fail
      refine Calls.mono HC305.out ?_
      rintro e w305 ⟨rfl, h305⟩
      have HS305 : Hid (Sys w0 [(p1, DX), (p2, DX)] [(v304, statesD (DX)), (v303, statesD (DX))] [] [(wr.heap.size, .cells #[.int .u8 (x.q : Int), .int .i64 x.i, .int .i64 x.n, .string A, .slice x.ka x.k.length x.kc] 37)] w305) := h305
      clear HC305 h305 
      have HC306 : Hid (Calls Try.prog 32 #[.pointer (some ⟨p1, 0, none⟩)] w305 fun e w' => e = .returned (.int .i64 0) ∧ Sys w0 [(p1, stD DX), (p2, DX)] [(v304, statesD (DX)), (v303, statesD (DX))] [] [(wr.heap.size, .cells #[.int .u8 (x.q : Int), .int .i64 x.i, .int .i64 x.n, .string A, .slice x.ka x.k.length x.kc] 37)] w') := by
        have := sys_start HS305.out 0 rfl HDX.out.2
        rw [HDX.out.1] at this
        exact this
      clear HS305
      go_wp2_with fail
      refine Calls.mono HC306.out ?_
      rintro e w306 ⟨rfl, h306⟩
      have HS306 : Hid (Sys w0 [(p1, stD DX), (p2, DX)] [(v304, statesD (DX)), (v303, statesD (DX))] [] [(wr.heap.size, .cells #[.int .u8 (x.q : Int), .int .i64 x.i, .int .i64 x.n, .string A, .slice x.ka x.k.length x.kc] 37)] w306) := h306
      clear HC306 h306 
      have HC307 : Hid (Calls Try.prog 32 #[.pointer (some ⟨p2, 0, none⟩)] w306 fun e w' => e = .returned (.int .i64 0) ∧ Sys w0 [(p1, stD DX), (p2, stD DX)] [(v304, statesD (DX)), (v303, statesD (DX))] [] [(wr.heap.size, .cells #[.int .u8 (x.q : Int), .int .i64 x.i, .int .i64 x.n, .string A, .slice x.ka x.k.length x.kc] 37)] w') := by
        have := sys_start HS306.out 1 rfl HDX.out.2
        rw [HDX.out.1] at this
        exact this
      clear HS306
      go_wp2_with fail
      refine Calls.mono HC307.out ?_
      rintro e w307 ⟨rfl, h307⟩
      have HS307 : Hid (Sys w0 [(p1, stD DX), (p2, stD DX)] [(v304, statesD (DX)), (v303, statesD (DX))] [] [(wr.heap.size, .cells #[.int .u8 (x.q : Int), .int .i64 x.i, .int .i64 x.n, .string A, .slice x.ka x.k.length x.kc] 37)] w307) := h307
      clear HC307 h307 
      have HC308 : Hid (Calls Try.prog 30 #[.pointer (some ⟨p1, 0, none⟩)] w307 fun e w' => ∃ v, e = .returned v ∧ Sys w0 [(p1, stD DX), (p2, stD DX)] [(v304, statesD (DX)), (v303, statesD (DX))] [(v, allD (stD DX))] [(wr.heap.size, .cells #[.int .u8 (x.q : Int), .int .i64 x.i, .int .i64 x.n, .string A, .slice x.ka x.k.length x.kc] 37)] w') := sys_all HS307.out 0 rfl
      clear HS307
      go_wp2_with fail
      refine Calls.mono HC308.out ?_
      rintro e w308 ⟨v308, rfl, h308⟩
      have HS308 : Hid (Sys w0 [(p1, stD DX), (p2, stD DX)] [(v304, statesD (DX)), (v303, statesD (DX))] [(v308, allD (stD DX))] [(wr.heap.size, .cells #[.int .u8 (x.q : Int), .int .i64 x.i, .int .i64 x.n, .string A, .slice x.ka x.k.length x.kc] 37)] w308) := h308
      clear HC308 h308 
      have HC309 : Hid (Calls Try.prog 30 #[.pointer (some ⟨p2, 0, none⟩)] w308 fun e w' => ∃ v, e = .returned v ∧ Sys w0 [(p1, stD DX), (p2, stD DX)] [(v304, statesD (DX)), (v303, statesD (DX))] [(v, allD (stD DX)), (v308, allD (stD DX))] [(wr.heap.size, .cells #[.int .u8 (x.q : Int), .int .i64 x.i, .int .i64 x.n, .string A, .slice x.ka x.k.length x.kc] 37)] w') := sys_all HS308.out 1 rfl
      clear HS308
      go_wp2_with fail
      refine Calls.mono HC309.out ?_
      rintro e w309 ⟨v309, rfl, h309⟩
      have HS309 : Hid (Sys w0 [(p1, stD DX), (p2, stD DX)] [(v304, statesD (DX)), (v303, statesD (DX))] [(v309, allD (stD DX)), (v308, allD (stD DX))] [(wr.heap.size, .cells #[.int .u8 (x.q : Int), .int .i64 x.i, .int .i64 x.n, .string A, .slice x.ka x.k.length x.kc] 37)] w309) := h309
      clear HC309 h309 
      have HC310 : Hid (Calls Try.prog 35 #[v308, v309] w309 fun e w' => e = .returned (.bool true) ∧ Sys w0 [(p1, stD DX), (p2, stD DX)] [(v304, statesD (DX)), (v303, statesD (DX))] [(v309, allD (stD DX)), (v308, allD (stD DX))] [(wr.heap.size, .cells #[.int .u8 (x.q : Int), .int .i64 x.i, .int .i64 x.n, .string A, .slice x.ka x.k.length x.kc] 37)] w') := sys_texts HS309.out (l1 := allD (stD DX)) (l2 := allD (stD DX)) (by simp) (by simp) (by have := allD_len2 HS309.out 0 rfl; omega) rfl
      clear HS309
      go_wp2_with fail
      refine Calls.mono HC310.out ?_
      rintro e w310 ⟨rfl, h310⟩
      have HS310 : Hid (Sys w0 [(p1, stD DX), (p2, stD DX)] [(v304, statesD (DX)), (v303, statesD (DX))] [(v309, allD (stD DX)), (v308, allD (stD DX))] [(wr.heap.size, .cells #[.int .u8 (x.q : Int), .int .i64 x.i, .int .i64 x.n, .string A, .slice x.ka x.k.length x.kc] 37)] w310) := h310
      clear HC310 h310 
      have HC311 : Hid (Calls Try.prog 16 #[] w310 fun e w' => e = .returned (.bool true) ∧ Sys w0 [(p1, stD DX), (p2, stD DX)] [(v304, statesD (DX)), (v303, statesD (DX))] [(v309, allD (stD DX)), (v308, allD (stD DX))] [(wr.heap.size, .cells #[.int .u8 (x.q : Int), .int .i64 x.i, .int .i64 x.n, .string A, .slice x.ka x.k.length x.kc] 37)] w') := (does_any w310).mono fun _ _ hh => ⟨hh.1, HS310.out.below hh.2⟩
      clear HS310
      go_wp2_with fail
      refine Calls.mono HC311.out ?_
      rintro e w311 ⟨rfl, h311⟩
      have HS311 : Hid (Sys w0 [(p1, stD DX), (p2, stD DX)] [(v304, statesD (DX)), (v303, statesD (DX))] [(v309, allD (stD DX)), (v308, allD (stD DX))] [(wr.heap.size, .cells #[.int .u8 (x.q : Int), .int .i64 x.i, .int .i64 x.n, .string A, .slice x.ka x.k.length x.kc] 37)] w311) := h311
      clear HC311 h311 
      have HB : Hid (Below w0.heap.size w0 w311) := HS311.out.base
      clear HS311
      go_wp2
      exact HRT.out _ _ rfl rfl HB.out
end Go.Proofs.Ythlaackalmgfnaa
