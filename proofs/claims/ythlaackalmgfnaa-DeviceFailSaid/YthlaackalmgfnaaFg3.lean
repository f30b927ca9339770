/- DeviceFail's loop: the case flush. -/
import Derived.Test.YthlaackalmgfnaaFg0
namespace Go.Proofs.Ythlaackalmgfnaa
open Go.RowKit

set_option linter.unusedSimpArgs false in
set_option maxRecDepth 1000000 in
set_option maxHeartbeats 12800000 in
theorem fcase_flush {w0 : World} {a' : Option Addr} {c' : Nat} {ys : List DoX} {k : List Int} {ka : Option Addr} {kc st0 g p1 p2 left m : Nat} {ov : Dv} {wr : World} (u cc : Nat → Value) (x0 x1 x4 : Value) {Q0 : Exit → Act → World → Prop} (HFK : FK w0 g a' c' ys k ka kc st0) (HFR : FR w0 p1 p2 k st0 left m ov wr) (hlt : m < ys.length) (x : DoX) (hx : ys[m]? = some x) (hq : x.q % 13 ≤ 7) (hl0 : left = 0) (hcbg : x.q % 13 = 7) (hret : ∀ a1 w1, a1.tmps.getD 6 undef = .bool true → a1.defers = [] → Below w0.heap.size w0 w1 → Q0 .ret a1 w1) : Code.wp Try.prog (fbodyOf Try.f7) (Exit.then (fun a1 w1 => fWI w0 cc x0 x1 x4 ka kc g p1 p2 k st0 ys.length a1 w1 ∧ fmu ys.length a1 w1 < fmu ys.length (ffr u cc x0 x1 x4 ka k.length kc g p1 p2 left m) wr) Q0) (ffr u cc x0 x1 x4 ka k.length kc g p1 p2 left m) wr := by
  have HRT : Hid (∀ (a1 : Act) (w1 : World), a1.tmps.getD 6 undef = .bool true → a1.defers = [] → Below w0.heap.size w0 w1 → Q0 .ret a1 w1) := hret
  clear hret
  conv => arg 2; whnf
  unfold ffr
  have hS := HFR.sys
  have c1 := HFK.box wr hS.base
  obtain ⟨hok, b, o, rfl, hrg⟩ := HFK.dos m x hx
  have HRg : Hid (wr.rangeAt b (o + m * 5) x.v.toList) := range_below hrg hS.base
  have hlt2 : (m : Int) < (ys.length : Int) := by omega
  have hq2 : (x.q : Int) < 256 := by have := hok.q; omega
  have HIC : Hid ((Try.prog.info? 37).map (·.size) = some x.v.toList.length) := by show _ = _; rw [DoX.size]; kernel_rfl
  have HI5 : Hid ((Try.prog.info? 37).map (·.size) = some 5) := by show _ = some 5; kernel_rfl
  have HOne : Hid (x.v.toList.toArray.all (·.oneCell') = true) := by show _ = _; simp [DoX.v, doV, DoX.kv, Value.oneCell']
  have hm60 : m ≤ 60 := by have := HFK.few; omega
  have hwf := HFR.wf
  have hou := HFR.up
  have host := HFR.starts
  have hofew := HFR.few
  have hleft := HFR.lt
  have hxk := HFK.much x (List.mem_of_getElem? hx)
  have hst61 := HFK.st
  have HK : Hid (IntsAt w0 (.slice ka k.length kc) k) := HFK.keep
  have HCB : Hid _ := hcbg
  clear hcbg
  have hS1 : Sys w0 [(p1, wF ov left k), (p2, ov)] [] [] [(wr.heap.size, .cells #[.int .u8 (x.q : Int), .int .i64 x.i, .int .i64 x.n, .string (S x.s), .slice x.ka x.k.length x.kc] 37)] (wr.alloc (.cells #[.int .u8 (x.q : Int), .int .i64 x.i, .int .i64 x.n, .string (S x.s), .slice x.ka x.k.length x.kc] 37)) := hS.addRow _
  have hq3 : ¬ (7 : Int) < (x.q : Int) % 13 := by omega
  obtain ⟨i0, fl, hstp⟩ := once_step hwf hou x hq
  have hpos := fun nn => fail_pos hwf hou x hq nn k
  have hfree := fail_free hwf hou x hq k
  have hzero := fun h => fail_zero hwf hou x h k
  have HSta : Hid (Calls Try.prog 23 #[.pointer (some ⟨p2, 0, none⟩), .int .i64 x.i] (wr.alloc (.cells #[.int .u8 (x.q : Int), .int .i64 x.i, .int .i64 x.n, .string (S x.s), .slice x.ka x.k.length x.kc] 37)) fun e w' => e = .returned (.int .i64 (stAtD ov x.i)) ∧ w' = (wr.alloc (.cells #[.int .u8 (x.q : Int), .int .i64 x.i, .int .i64 x.n, .string (S x.s), .slice x.ka x.k.length x.kc] 37))) := sys_state hS1 1 rfl x.i
  have HWo : Hid (Calls Try.prog 12 #[.pointer (some ⟨p2, 0, none⟩), .agg #[.int .u8 (x.q : Int), .int .i64 x.i, .int .i64 x.n, .string (S x.s), .slice x.ka x.k.length x.kc]] (wr.alloc (.cells #[.int .u8 (x.q : Int), .int .i64 x.i, .int .i64 x.n, .string (S x.s), .slice x.ka x.k.length x.kc] 37)) (Tells fun r w' => r = (withD ov x).1 ∧ Sys w0 [(p1, wF ov left k), (p2, (withD ov x).2)] [] [] [(wr.heap.size, .cells #[.int .u8 (x.q : Int), .int .i64 x.i, .int .i64 x.n, .string (S x.s), .slice x.ka x.k.length x.kc] 37)] w')) := sys_with hS1 1 rfl x hok (by omega) (by omega) (by omega) (by omega)
  have HWd : Hid (∀ w5, Sys w0 [(p1, wF ov left k), (p2, (withD ov x).2)] [] [] [(wr.heap.size, .cells #[.int .u8 (x.q : Int), .int .i64 x.i, .int .i64 x.n, .string (S x.s), .slice x.ka x.k.length x.kc] 37)] w5 → Calls Try.prog 12 #[.pointer (some ⟨p1, 0, none⟩), .agg #[.int .u8 (x.q : Int), .int .i64 x.i, .int .i64 x.n, .string (S x.s), .slice x.ka x.k.length x.kc]] w5 (Tells fun r w' => r = (withD (wF ov left k) x).1 ∧ Sys w0 [(p1, (withD (wF ov left k) x).2), (p2, (withD ov x).2)] [] [] [(wr.heap.size, .cells #[.int .u8 (x.q : Int), .int .i64 x.i, .int .i64 x.n, .string (S x.s), .slice x.ka x.k.length x.kc] 37)] w')) := fun w5 h5 => sys_with h5 0 rfl x hok (by omega) (by omega) (show ov.acts.length < _ by omega) (show ov.starts < _ by omega)
  have HFl0 : Hid (flushD (wF ov 0 k) = (43, crashD ov k) ∧ crashE ov k = (0, crashD ov k)) := ⟨flush_zero hou k, crash_up hou k⟩
  have HO1 : Hid (Wf (withD ov x).2 ∧ (withD ov x).2.up = true ∧ (withD ov x).2.starts = st0 ∧ (withD ov x).2.acts.length ≤ 60 + (m + 1)) := ⟨hstp.wf, hstp.up, by rw [hstp.starts]; exact host, by have := hstp.few; omega⟩
  have HO0 : Hid (Wf ov ∧ ov.up = true ∧ ov.starts = st0 ∧ ov.acts.length ≤ 60 + (m + 1)) := ⟨hwf, hou, host, by omega⟩
  have HCn : Hid (cntB ov x = decide (x.q % 13 = 7 ∨ x.q % 13 < 5 ∨ stAtD ov x.i ≠ 2)) := rfl
  have HS1 : Hid (Sys w0 [(p1, wF ov left k), (p2, ov)] [] [] [(wr.heap.size, .cells #[.int .u8 (x.q : Int), .int .i64 x.i, .int .i64 x.n, .string (S x.s), .slice x.ka x.k.length x.kc] 37)] (wr.alloc (.cells #[.int .u8 (x.q : Int), .int .i64 x.i, .int .i64 x.n, .string (S x.s), .slice x.ka x.k.length x.kc] 37))) := hS1
  have hst20 : st0 < 1000 := by omega
  clear hS hS1 hx hrg hok hwf host hofew hstp HFK HFR
  obtain ⟨RO, hRO⟩ : ∃ RO, withD ov x = RO := ⟨_, rfl⟩
  rw [hRO] at HWo HWd HO1
  have HRO : Hid (withD ov x = RO) := hRO
  obtain ⟨cb, hcb⟩ : ∃ cb, cntB ov x = cb := ⟨_, rfl⟩
  rw [hcb] at HCn
  have HPos : Hid (∀ nn, withD (wF ov (nn + 1) k) x = (RO.1, wF RO.2 (if RO.1 = 0 ∧ cb = true then nn else nn + 1) k)) := fun nn => by rw [hpos nn, hRO, hcb]
  have HFree : Hid (cb = false → withD (wF ov 0 k) x = (0, wF ov 0 k) ∧ RO = (0, ov)) := fun h => by rw [← hRO]; exact hfree (by rw [hcb]; exact h)
  have HZero : Hid (x.q % 13 < 7 → cb = true → (RO.1 ≠ 0 ∧ withD (wF ov 0 k) x = (RO.1, wF ov 0 k) ∧ RO.2 = ov) ∨ (RO.1 = 0 ∧ withD (wF ov 0 k) x = (43, crashD RO.2 k))) := fun h1 h2 => by rw [← hRO]; exact hzero h1 (by rw [hcb]; exact h2)
  have HCB2 : Hid _ := HCB.out
  try rw [hcb] at HCB2
  clear hpos hfree hzero hRO hcb HCB
  unfold DoX.v doV DoX.kv at HRg HIC HOne
  obtain ⟨E, O1⟩ := RO
  dsimp only at HWo HWd HO1 HPos HFree HZero
  have HI5b : Hid ((Try.prog.info? 37).map (·.size) = some (#[.int .u8 (x.q : Int), .int .i64 x.i, .int .i64 x.n, .string (S x.s), .slice x.ka x.k.length x.kc] : Array Value).size) := HI5.out
  generalize S x.s = A at *
  go_upto_region 13 with (first | (refine store_last rfl 37 (.tmp 11) (.tmp 68) rfl 5 _ _ _ rfl rfl HI5.out rfl rfl HOne.out ?_) | (refine wpList_load_mid rfl 37 (.tmp 67) rfl b (o + m * 5) rfl _ _ HRg.out Try.underlying37 rfl HIC.out ?_))
  go_cut [13] from 57 to 203 (fun cv wx => cv = .bool cb ∧ wx = (wr.alloc (.cells #[.int .u8 (x.q : Int), .int .i64 x.i, .int .i64 x.n, .string A, .slice x.ka x.k.length x.kc] 37)))
  case first =>
    by_cases h7 : x.q % 13 = 7
    · have t7 : ((x.q : Int) % 13 == 7) = true := by
        have : (x.q : Int) % 13 = 7 := by omega
        simpa using this
      have hc : cb = true := by rw [HCn.out]; exact decide_eq_true (.inl h7)
      subst hc
      go_wp2
      go_meet
      exact ⟨rfl, rfl⟩
    · have t7 : ((x.q : Int) % 13 == 7) = false := by
        have : ¬ (x.q : Int) % 13 = 7 := by omega
        simpa using this
      by_cases h5 : x.q % 13 < 5
      · have t5 : (x.q : Int) % 13 < 5 := by omega
        have hc : cb = true := by rw [HCn.out]; exact decide_eq_true (.inr (.inl h5))
        subst hc
        go_wp2
        go_meet
        exact ⟨rfl, rfl⟩
      · have t5 : ¬ (x.q : Int) % 13 < 5 := by omega
        have hcd : (stAtD ov x.i != 2) = cb := by
          rw [HCn.out]
          by_cases h2 : stAtD ov x.i = 2
          · rw [h2, decide_eq_false (by omega)]; rfl
          · rw [decide_eq_true (.inr (.inr h2))]; simpa using h2
        generalize stAtD ov x.i = st at *
        go_wp2_with fail
        refine Calls.mono HSta.out ?_
        rintro e wq ⟨rfl, rfl⟩
        clear HSta
        go_wp2
        go_meet
        exact ⟨by rw [← hcd], rfl⟩
  case rest =>
    obtain ⟨rfl, rfl⟩ := hcut
    clear HSta HRg HIC HOne c1
    subst hl0
    have h7 : x.q % 13 = 7 := HCB2.out
    have hcb : cb = true := by rw [HCn.out]; exact decide_eq_true (.inl h7)
    subst hcb
    have t7 : ((x.q : Int) % 13 == 7) = true := by
      have h8 : (x.q : Int) % 13 = 7 := by omega
      simpa using h8
    clear HFree HZero HPos HRO HCn
    obtain ⟨DX, hDX⟩ : ∃ DX, crashD ov k = DX := ⟨_, rfl⟩
    have uX : DX.up = false ∧ DX.starts = st0 := by rw [← hDX]; exact ⟨rfl, HO0.out.2.2.1⟩
    have HFX : Hid (flushD (wF ov 0 k) = (43, DX) ∧ crashE ov k = (0, DX)) := by have := HFl0.out; rw [hDX] at this; exact this
    have HDX : Hid (startD DX = (0, stD DX) ∧ DX.starts < 1000000) := ⟨start_down uX.1, by omega⟩
    clear hDX HWo HWd HFl0
    have HC201 : Hid (Calls Try.prog 29 #[.pointer (some ⟨p1, 0, none⟩)] (wr.alloc (.cells #[.int .u8 (x.q : Int), .int .i64 x.i, .int .i64 x.n, .string A, .slice x.ka x.k.length x.kc] 37)) fun e w' => e = .returned (.int .i64 43) ∧ Sys w0 [(p1, DX), (p2, ov)] [] [] [(wr.heap.size, .cells #[.int .u8 (x.q : Int), .int .i64 x.i, .int .i64 x.n, .string A, .slice x.ka x.k.length x.kc] 37)] w') := by
      have := sys_flush HS1.out 0 rfl 
      rw [HFX.out.1] at this
      exact this
    clear HS1
    go_wp2_with fail
    refine Calls.mono HC201.out ?_
    rintro e w201 ⟨rfl, h201⟩
    have HS201 : Hid (Sys w0 [(p1, DX), (p2, ov)] [] [] [(wr.heap.size, .cells #[.int .u8 (x.q : Int), .int .i64 x.i, .int .i64 x.n, .string A, .slice x.ka x.k.length x.kc] 37)] w201) := h201
    clear HC201 h201 
    have HC202 : Hid (Calls Try.prog 26 #[.pointer (some ⟨p1, 0, none⟩)] w201 fun e w' => e = .returned (.bool false) ∧ w' = w201) := by
      have := sys_up HS201.out 0 rfl 
      rw [show DX.up = false from uX.1] at this
      exact this
    go_wp2_with fail
    refine Calls.mono HC202.out ?_
    rintro e w202 ⟨rfl, rfl⟩
    clear HC202 
    have HC203 : Hid (Calls Try.prog 31 #[.pointer (some ⟨p2, 0, none⟩), .slice ka k.length kc] w202 fun e w' => e = .returned (.int .i64 0) ∧ Sys w0 [(p1, DX), (p2, DX)] [] [] [(wr.heap.size, .cells #[.int .u8 (x.q : Int), .int .i64 x.i, .int .i64 x.n, .string A, .slice x.ka x.k.length x.kc] 37)] w') := by
      have := sys_crash HS201.out 1 rfl HK.out
      rw [HFX.out.2] at this
      exact this
    clear HS201
    go_wp2_with fail
    refine Calls.mono HC203.out ?_
    rintro e w203 ⟨rfl, h203⟩
    have HS203 : Hid (Sys w0 [(p1, DX), (p2, DX)] [] [] [(wr.heap.size, .cells #[.int .u8 (x.q : Int), .int .i64 x.i, .int .i64 x.n, .string A, .slice x.ka x.k.length x.kc] 37)] w203) := h203
    clear HC203 h203 
    have HC204 : Hid (Calls Try.prog 24 #[.pointer (some ⟨p1, 0, none⟩)] w203 fun e w' => ∃ v, e = .returned v ∧ Sys w0 [(p1, DX), (p2, DX)] [(v, statesD (DX))] [] [(wr.heap.size, .cells #[.int .u8 (x.q : Int), .int .i64 x.i, .int .i64 x.n, .string A, .slice x.ka x.k.length x.kc] 37)] w') := sys_states HS203.out 0 rfl
    clear HS203
    go_wp2_with fail
    refine Calls.mono HC204.out ?_
    rintro e w204 ⟨v204, rfl, h204⟩
    have HS204 : Hid (Sys w0 [(p1, DX), (p2, DX)] [(v204, statesD (DX))] [] [(wr.heap.size, .cells #[.int .u8 (x.q : Int), .int .i64 x.i, .int .i64 x.n, .string A, .slice x.ka x.k.length x.kc] 37)] w204) := h204
    clear HC204 h204 
    have HC205 : Hid (Calls Try.prog 24 #[.pointer (some ⟨p2, 0, none⟩)] w204 fun e w' => ∃ v, e = .returned v ∧ Sys w0 [(p1, DX), (p2, DX)] [(v, statesD (DX)), (v204, statesD (DX))] [] [(wr.heap.size, .cells #[.int .u8 (x.q : Int), .int .i64 x.i, .int .i64 x.n, .string A, .slice x.ka x.k.length x.kc] 37)] w') := sys_states HS204.out 1 rfl
    clear HS204
    go_wp2_with fail
    refine Calls.mono HC205.out ?_
    rintro e w205 ⟨v205, rfl, h205⟩
    have HS205 : Hid (Sys w0 [(p1, DX), (p2, DX)] [(v205, statesD (DX)), (v204, statesD (DX))] [] [(wr.heap.size, .cells #[.int .u8 (x.q : Int), .int .i64 x.i, .int .i64 x.n, .string A, .slice x.ka x.k.length x.kc] 37)] w205) := h205
    clear HC205 h205 
    have HC206 : Hid (Calls Try.prog 14 #[v204, v205] w205 fun e w' => e = .returned (.bool true) ∧ Sys w0 [(p1, DX), (p2, DX)] [(v205, statesD (DX)), (v204, statesD (DX))] [] [(wr.heap.size, .cells #[.int .u8 (x.q : Int), .int .i64 x.i, .int .i64 x.n, .string A, .slice x.ka x.k.length x.kc] 37)] w') := sys_ints HS205.out (l1 := statesD (DX)) (l2 := statesD (DX)) (by simp) (by simp) (by have := statesD_len2 HS205.out 0 rfl; omega) rfl
    clear HS205
    go_wp2_with fail
    refine Calls.mono HC206.out ?_
    rintro e w206 ⟨rfl, h206⟩
    have HS206 : Hid (Sys w0 [(p1, DX), (p2, DX)] [(v205, statesD (DX)), (v204, statesD (DX))] [] [(wr.heap.size, .cells #[.int .u8 (x.q : Int), .int .i64 x.i, .int .i64 x.n, .string A, .slice x.ka x.k.length x.kc] 37)] w206) := h206
    clear HC206 h206 
    have HC207 : Hid (Calls Try.prog 32 #[.pointer (some ⟨p1, 0, none⟩)] w206 fun e w' => e = .returned (.int .i64 0) ∧ Sys w0 [(p1, stD DX), (p2, DX)] [(v205, statesD (DX)), (v204, statesD (DX))] [] [(wr.heap.size, .cells #[.int .u8 (x.q : Int), .int .i64 x.i, .int .i64 x.n, .string A, .slice x.ka x.k.length x.kc] 37)] w') := by
      have := sys_start HS206.out 0 rfl HDX.out.2
      rw [HDX.out.1] at this
      exact this
    clear HS206
    go_wp2_with fail
    refine Calls.mono HC207.out ?_
    rintro e w207 ⟨rfl, h207⟩
    have HS207 : Hid (Sys w0 [(p1, stD DX), (p2, DX)] [(v205, statesD (DX)), (v204, statesD (DX))] [] [(wr.heap.size, .cells #[.int .u8 (x.q : Int), .int .i64 x.i, .int .i64 x.n, .string A, .slice x.ka x.k.length x.kc] 37)] w207) := h207
    clear HC207 h207 
    have HC208 : Hid (Calls Try.prog 32 #[.pointer (some ⟨p2, 0, none⟩)] w207 fun e w' => e = .returned (.int .i64 0) ∧ Sys w0 [(p1, stD DX), (p2, stD DX)] [(v205, statesD (DX)), (v204, statesD (DX))] [] [(wr.heap.size, .cells #[.int .u8 (x.q : Int), .int .i64 x.i, .int .i64 x.n, .string A, .slice x.ka x.k.length x.kc] 37)] w') := by
      have := sys_start HS207.out 1 rfl HDX.out.2
      rw [HDX.out.1] at this
      exact this
    clear HS207
    go_wp2_with fail
    refine Calls.mono HC208.out ?_
    rintro e w208 ⟨rfl, h208⟩
    have HS208 : Hid (Sys w0 [(p1, stD DX), (p2, stD DX)] [(v205, statesD (DX)), (v204, statesD (DX))] [] [(wr.heap.size, .cells #[.int .u8 (x.q : Int), .int .i64 x.i, .int .i64 x.n, .string A, .slice x.ka x.k.length x.kc] 37)] w208) := h208
    clear HC208 h208 
    have HC209 : Hid (Calls Try.prog 30 #[.pointer (some ⟨p1, 0, none⟩)] w208 fun e w' => ∃ v, e = .returned v ∧ Sys w0 [(p1, stD DX), (p2, stD DX)] [(v205, statesD (DX)), (v204, statesD (DX))] [(v, allD (stD DX))] [(wr.heap.size, .cells #[.int .u8 (x.q : Int), .int .i64 x.i, .int .i64 x.n, .string A, .slice x.ka x.k.length x.kc] 37)] w') := sys_all HS208.out 0 rfl
    clear HS208
    go_wp2_with fail
    refine Calls.mono HC209.out ?_
    rintro e w209 ⟨v209, rfl, h209⟩
    have HS209 : Hid (Sys w0 [(p1, stD DX), (p2, stD DX)] [(v205, statesD (DX)), (v204, statesD (DX))] [(v209, allD (stD DX))] [(wr.heap.size, .cells #[.int .u8 (x.q : Int), .int .i64 x.i, .int .i64 x.n, .string A, .slice x.ka x.k.length x.kc] 37)] w209) := h209
    clear HC209 h209 
    have HC210 : Hid (Calls Try.prog 30 #[.pointer (some ⟨p2, 0, none⟩)] w209 fun e w' => ∃ v, e = .returned v ∧ Sys w0 [(p1, stD DX), (p2, stD DX)] [(v205, statesD (DX)), (v204, statesD (DX))] [(v, allD (stD DX)), (v209, allD (stD DX))] [(wr.heap.size, .cells #[.int .u8 (x.q : Int), .int .i64 x.i, .int .i64 x.n, .string A, .slice x.ka x.k.length x.kc] 37)] w') := sys_all HS209.out 1 rfl
    clear HS209
    go_wp2_with fail
    refine Calls.mono HC210.out ?_
    rintro e w210 ⟨v210, rfl, h210⟩
    have HS210 : Hid (Sys w0 [(p1, stD DX), (p2, stD DX)] [(v205, statesD (DX)), (v204, statesD (DX))] [(v210, allD (stD DX)), (v209, allD (stD DX))] [(wr.heap.size, .cells #[.int .u8 (x.q : Int), .int .i64 x.i, .int .i64 x.n, .string A, .slice x.ka x.k.length x.kc] 37)] w210) := h210
    clear HC210 h210 
    have HC211 : Hid (Calls Try.prog 35 #[v209, v210] w210 fun e w' => e = .returned (.bool true) ∧ Sys w0 [(p1, stD DX), (p2, stD DX)] [(v205, statesD (DX)), (v204, statesD (DX))] [(v210, allD (stD DX)), (v209, allD (stD DX))] [(wr.heap.size, .cells #[.int .u8 (x.q : Int), .int .i64 x.i, .int .i64 x.n, .string A, .slice x.ka x.k.length x.kc] 37)] w') := sys_texts HS210.out (l1 := allD (stD DX)) (l2 := allD (stD DX)) (by simp) (by simp) (by have := allD_len2 HS210.out 0 rfl; omega) rfl
    clear HS210
    go_wp2_with fail
    refine Calls.mono HC211.out ?_
    rintro e w211 ⟨rfl, h211⟩
    have HS211 : Hid (Sys w0 [(p1, stD DX), (p2, stD DX)] [(v205, statesD (DX)), (v204, statesD (DX))] [(v210, allD (stD DX)), (v209, allD (stD DX))] [(wr.heap.size, .cells #[.int .u8 (x.q : Int), .int .i64 x.i, .int .i64 x.n, .string A, .slice x.ka x.k.length x.kc] 37)] w211) := h211
    clear HC211 h211 
    have HC212 : Hid (Calls Try.prog 16 #[] w211 fun e w' => e = .returned (.bool true) ∧ Sys w0 [(p1, stD DX), (p2, stD DX)] [(v205, statesD (DX)), (v204, statesD (DX))] [(v210, allD (stD DX)), (v209, allD (stD DX))] [(wr.heap.size, .cells #[.int .u8 (x.q : Int), .int .i64 x.i, .int .i64 x.n, .string A, .slice x.ka x.k.length x.kc] 37)] w') := (does_any w211).mono fun _ _ hh => ⟨hh.1, HS211.out.below hh.2⟩
    clear HS211
    go_wp2_with fail
    refine Calls.mono HC212.out ?_
    rintro e w212 ⟨rfl, h212⟩
    have HS212 : Hid (Sys w0 [(p1, stD DX), (p2, stD DX)] [(v205, statesD (DX)), (v204, statesD (DX))] [(v210, allD (stD DX)), (v209, allD (stD DX))] [(wr.heap.size, .cells #[.int .u8 (x.q : Int), .int .i64 x.i, .int .i64 x.n, .string A, .slice x.ka x.k.length x.kc] 37)] w212) := h212
    clear HC212 h212 
    have HB : Hid (Below w0.heap.size w0 w212) := HS212.out.base
    clear HS212
    go_wp2
    exact HRT.out _ _ rfl rfl HB.out
end Go.Proofs.Ythlaackalmgfnaa
