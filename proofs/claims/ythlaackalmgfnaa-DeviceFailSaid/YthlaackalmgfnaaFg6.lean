/- DeviceFail's loop: the case pos. -/
import Derived.Test.YthlaackalmgfnaaFg0
namespace Go.Proofs.Ythlaackalmgfnaa
open Go.RowKit

set_option linter.unusedSimpArgs false in
set_option maxRecDepth 1000000 in
set_option maxHeartbeats 12800000 in
theorem fcase_pos {w0 : World} {a' : Option Addr} {c' : Nat} {ys : List DoX} {k : List Int} {ka : Option Addr} {kc st0 g p1 p2 left m : Nat} {ov : Dv} {wr : World} (u cc : Nat → Value) (x0 x1 x4 : Value) {Q0 : Exit → Act → World → Prop} (HFK : FK w0 g a' c' ys k ka kc st0) (HFR : FR w0 p1 p2 k st0 left m ov wr) (hlt : m < ys.length) (x : DoX) (hx : ys[m]? = some x) (hq : x.q % 13 ≤ 7) (hcbg : left ≠ 0) : Code.wp Try.prog (fbodyOf Try.f7) (Exit.then (fun a1 w1 => fWI w0 cc x0 x1 x4 ka kc g p1 p2 k st0 ys.length a1 w1 ∧ fmu ys.length a1 w1 < fmu ys.length (ffr u cc x0 x1 x4 ka k.length kc g p1 p2 left m) wr) Q0) (ffr u cc x0 x1 x4 ka k.length kc g p1 p2 left m) wr := by
  conv => arg 2; whnf
  unfold ffr
  have hS := HFR.sys
  have c1 := HFK.box wr hS.base
  obtain ⟨hok, b, o, rfl, hrg⟩ := HFK.dos m x hx
  have HRg : Hid (wr.rangeAt b (o + m * 5) x.v.toList) := range_below hrg hS.base
  have hlt2 : (m : Int) < (ys.length : Int) := by omega
  have hq2 : (x.q : Int) < 256 := by have := hok.q; omega
  have HIC : Hid ((Try.prog.info? 37).map (·.size) = some x.v.toList.length) := by show _ = _; rw [DoX.size]; kernel_rfl
  have HI5 : Hid ((Try.prog.info? 37).map (·.size) = some 5) := by show _ = some 5; kernel_rfl
  have HOne : Hid (x.v.toList.toArray.all (·.oneCell') = true) := by show _ = _; simp [DoX.v, doV, DoX.kv, Value.oneCell']
  have hm60 : m ≤ 60 := by have := HFK.few; omega
  have hwf := HFR.wf
  have hou := HFR.up
  have host := HFR.starts
  have hofew := HFR.few
  have hleft := HFR.lt
  have hxk := HFK.much x (List.mem_of_getElem? hx)
  have hst61 := HFK.st
  have HK : Hid (IntsAt w0 (.slice ka k.length kc) k) := HFK.keep
  have HCB : Hid _ := hcbg
  clear hcbg
  have hS1 : Sys w0 [(p1, wF ov left k), (p2, ov)] [] [] [(wr.heap.size, .cells #[.int .u8 (x.q : Int), .int .i64 x.i, .int .i64 x.n, .string (S x.s), .slice x.ka x.k.length x.kc] 37)] (wr.alloc (.cells #[.int .u8 (x.q : Int), .int .i64 x.i, .int .i64 x.n, .string (S x.s), .slice x.ka x.k.length x.kc] 37)) := hS.addRow _
  have hq3 : ¬ (7 : Int) < (x.q : Int) % 13 := by omega
  obtain ⟨i0, fl, hstp⟩ := once_step hwf hou x hq
  have hpos := fun nn => fail_pos hwf hou x hq nn k
  have hfree := fail_free hwf hou x hq k
  have hzero := fun h => fail_zero hwf hou x h k
  have HSta : Hid (Calls Try.prog 23 #[.pointer (some ⟨p2, 0, none⟩), .int .i64 x.i] (wr.alloc (.cells #[.int .u8 (x.q : Int), .int .i64 x.i, .int .i64 x.n, .string (S x.s), .slice x.ka x.k.length x.kc] 37)) fun e w' => e = .returned (.int .i64 (stAtD ov x.i)) ∧ w' = (wr.alloc (.cells #[.int .u8 (x.q : Int), .int .i64 x.i, .int .i64 x.n, .string (S x.s), .slice x.ka x.k.length x.kc] 37))) := sys_state hS1 1 rfl x.i
  have HWo : Hid (Calls Try.prog 12 #[.pointer (some ⟨p2, 0, none⟩), .agg #[.int .u8 (x.q : Int), .int .i64 x.i, .int .i64 x.n, .string (S x.s), .slice x.ka x.k.length x.kc]] (wr.alloc (.cells #[.int .u8 (x.q : Int), .int .i64 x.i, .int .i64 x.n, .string (S x.s), .slice x.ka x.k.length x.kc] 37)) (Tells fun r w' => r = (withD ov x).1 ∧ Sys w0 [(p1, wF ov left k), (p2, (withD ov x).2)] [] [] [(wr.heap.size, .cells #[.int .u8 (x.q : Int), .int .i64 x.i, .int .i64 x.n, .string (S x.s), .slice x.ka x.k.length x.kc] 37)] w')) := sys_with hS1 1 rfl x hok (by omega) (by omega) (by omega) (by omega)
  have HWd : Hid (∀ w5, Sys w0 [(p1, wF ov left k), (p2, (withD ov x).2)] [] [] [(wr.heap.size, .cells #[.int .u8 (x.q : Int), .int .i64 x.i, .int .i64 x.n, .string (S x.s), .slice x.ka x.k.length x.kc] 37)] w5 → Calls Try.prog 12 #[.pointer (some ⟨p1, 0, none⟩), .agg #[.int .u8 (x.q : Int), .int .i64 x.i, .int .i64 x.n, .string (S x.s), .slice x.ka x.k.length x.kc]] w5 (Tells fun r w' => r = (withD (wF ov left k) x).1 ∧ Sys w0 [(p1, (withD (wF ov left k) x).2), (p2, (withD ov x).2)] [] [] [(wr.heap.size, .cells #[.int .u8 (x.q : Int), .int .i64 x.i, .int .i64 x.n, .string (S x.s), .slice x.ka x.k.length x.kc] 37)] w')) := fun w5 h5 => sys_with h5 0 rfl x hok (by omega) (by omega) (show ov.acts.length < _ by omega) (show ov.starts < _ by omega)
  have HFl0 : Hid (flushD (wF ov 0 k) = (43, crashD ov k) ∧ crashE ov k = (0, crashD ov k)) := ⟨flush_zero hou k, crash_up hou k⟩
  have HO1 : Hid (Wf (withD ov x).2 ∧ (withD ov x).2.up = true ∧ (withD ov x).2.starts = st0 ∧ (withD ov x).2.acts.length ≤ 60 + (m + 1)) := ⟨hstp.wf, hstp.up, by rw [hstp.starts]; exact host, by have := hstp.few; omega⟩
  have HO0 : Hid (Wf ov ∧ ov.up = true ∧ ov.starts = st0 ∧ ov.acts.length ≤ 60 + (m + 1)) := ⟨hwf, hou, host, by omega⟩
  have HCn : Hid (cntB ov x = decide (x.q % 13 = 7 ∨ x.q % 13 < 5 ∨ stAtD ov x.i ≠ 2)) := rfl
  have HS1 : Hid (Sys w0 [(p1, wF ov left k), (p2, ov)] [] [] [(wr.heap.size, .cells #[.int .u8 (x.q : Int), .int .i64 x.i, .int .i64 x.n, .string (S x.s), .slice x.ka x.k.length x.kc] 37)] (wr.alloc (.cells #[.int .u8 (x.q : Int), .int .i64 x.i, .int .i64 x.n, .string (S x.s), .slice x.ka x.k.length x.kc] 37))) := hS1
  have hst20 : st0 < 1000 := by omega
  clear hS hS1 hx hrg hok hwf host hofew hstp HFK HFR
  obtain ⟨RO, hRO⟩ : ∃ RO, withD ov x = RO := ⟨_, rfl⟩
  rw [hRO] at HWo HWd HO1
  have HRO : Hid (withD ov x = RO) := hRO
  obtain ⟨cb, hcb⟩ : ∃ cb, cntB ov x = cb := ⟨_, rfl⟩
  rw [hcb] at HCn
  have HPos : Hid (∀ nn, withD (wF ov (nn + 1) k) x = (RO.1, wF RO.2 (if RO.1 = 0 ∧ cb = true then nn else nn + 1) k)) := fun nn => by rw [hpos nn, hRO, hcb]
  have HFree : Hid (cb = false → withD (wF ov 0 k) x = (0, wF ov 0 k) ∧ RO = (0, ov)) := fun h => by rw [← hRO]; exact hfree (by rw [hcb]; exact h)
  have HZero : Hid (x.q % 13 < 7 → cb = true → (RO.1 ≠ 0 ∧ withD (wF ov 0 k) x = (RO.1, wF ov 0 k) ∧ RO.2 = ov) ∨ (RO.1 = 0 ∧ withD (wF ov 0 k) x = (43, crashD RO.2 k))) := fun h1 h2 => by rw [← hRO]; exact hzero h1 (by rw [hcb]; exact h2)
  have HCB2 : Hid _ := HCB.out
  try rw [hcb] at HCB2
  clear hpos hfree hzero hRO hcb HCB
  unfold DoX.v doV DoX.kv at HRg HIC HOne
  obtain ⟨E, O1⟩ := RO
  dsimp only at HWo HWd HO1 HPos HFree HZero
  have HI5b : Hid ((Try.prog.info? 37).map (·.size) = some (#[.int .u8 (x.q : Int), .int .i64 x.i, .int .i64 x.n, .string (S x.s), .slice x.ka x.k.length x.kc] : Array Value).size) := HI5.out
  generalize S x.s = A at *
  go_upto_region 13 with (first | (refine store_last rfl 37 (.tmp 11) (.tmp 68) rfl 5 _ _ _ rfl rfl HI5.out rfl rfl HOne.out ?_) | (refine wpList_load_mid rfl 37 (.tmp 67) rfl b (o + m * 5) rfl _ _ HRg.out Try.underlying37 rfl HIC.out ?_))
  go_cut [13] from 57 to 203 (fun cv wx => cv = .bool cb ∧ wx = (wr.alloc (.cells #[.int .u8 (x.q : Int), .int .i64 x.i, .int .i64 x.n, .string A, .slice x.ka x.k.length x.kc] 37)))
  case first =>
    by_cases h7 : x.q % 13 = 7
    · have t7 : ((x.q : Int) % 13 == 7) = true := by
        have : (x.q : Int) % 13 = 7 := by omega
        simpa using this
      have hc : cb = true := by rw [HCn.out]; exact decide_eq_true (.inl h7)
      subst hc
      go_wp2
      go_meet
      exact ⟨rfl, rfl⟩
    · have t7 : ((x.q : Int) % 13 == 7) = false := by
        have : ¬ (x.q : Int) % 13 = 7 := by omega
        simpa using this
      by_cases h5 : x.q % 13 < 5
      · have t5 : (x.q : Int) % 13 < 5 := by omega
        have hc : cb = true := by rw [HCn.out]; exact decide_eq_true (.inr (.inl h5))
        subst hc
        go_wp2
        go_meet
        exact ⟨rfl, rfl⟩
      · have t5 : ¬ (x.q : Int) % 13 < 5 := by omega
        have hcd : (stAtD ov x.i != 2) = cb := by
          rw [HCn.out]
          by_cases h2 : stAtD ov x.i = 2
          · rw [h2, decide_eq_false (by omega)]; rfl
          · rw [decide_eq_true (.inr (.inr h2))]; simpa using h2
        generalize stAtD ov x.i = st at *
        go_wp2_with fail
        refine Calls.mono HSta.out ?_
        rintro e wq ⟨rfl, rfl⟩
        clear HSta
        go_wp2
        go_meet
        exact ⟨by rw [← hcd], rfl⟩
  case rest =>
    obtain ⟨rfl, rfl⟩ := hcut
    clear HSta HRg HIC HOne c1
    obtain ⟨nn, hnn⟩ : ∃ nn, left = nn + 1 := ⟨left - 1, by have h0 : ¬ left = 0 := HCB2.out; omega⟩
    obtain ⟨left', hle⟩ : ∃ left', (if E = 0 ∧ cb = true then nn else nn + 1) = left' := ⟨_, rfl⟩
    have g1 := HPos.out nn
    rw [hle, ← hnn] at g1
    rw [g1] at HWd
    dsimp only at HWd
    have HLp : Hid ((E = 0 → cb = true → 1 ≤ left) ∧ (E = 0 → cb = true → left' = left - 1) ∧ (¬ E = 0 ∨ cb = false → left' = left)) := ⟨fun _ _ => by omega, fun h1 h2 => by rw [← hle, if_pos ⟨h1, h2⟩]; omega, fun h => by rw [← hle, if_neg (by rintro ⟨h1, h2⟩; rcases h with h | h; exact h h1; rw [h2] at h; cases h)]; omega⟩
    have hp : (0 : Int) < (left : Int) := by omega
    have hp2 : ((left : Int) == 0) = false := by
      have h8 : ¬ (left : Int) = 0 := by omega
      simpa using h8
    clear HFree HZero HPos HRO HCn HFl0 hle g1 HCB2 hnn
    go_wp2_with fail
    refine Calls.mono HWo.out ?_
    rintro e w5 ⟨r, rfl, hr, h5⟩
    replace hr := hr.symm
    subst hr
    have HG5 : Hid (w5.heap[wr.heap.size]? = some (.cells #[.int .u8 (x.q : Int), .int .i64 x.i, .int .i64 x.n, .string A, .slice x.ka x.k.length x.kc] 37 (0, 0))) := h5.row (List.mem_cons_self ..)
    have HW6 : Hid _ := HWd.out w5 h5
    clear h5 HWo HWd
    go_wp2_with (refine wpList_load_row rfl 37 (.tmp 11) rfl wr.heap.size rfl _ _ (0, 0) _ HG5.out Try.underlying37 rfl HI5b.out ?_)
    refine Calls.mono HW6.out ?_
    rintro e w6 ⟨r, rfl, hr, h6⟩
    replace hr := hr.symm
    subst hr
    have HS6 : Hid (Sys w0 [(p1, wF O1 left' k), (p2, O1)] [] [] [] w6) := h6.less (fun _ h => h) (fun _ h => h) (fun _ h => by simp at h)
    clear h6 HW6 HG5
    have hEE : (E != E) = false := by simp
    by_cases hE : E = 0
    · subst hE
      cases cb with
      | true =>
        have hl1 := HLp.out.1 rfl rfl
        have hl2 : left' = left - 1 := HLp.out.2.1 rfl rfl
        subst hl2
        have HL3 : Hid ((left : Int) - 1 = ((left - 1 : Nat) : Int)) := by show _ = _; omega
        go_wp2
        rw [HL3.out]
        refine ⟨fWI_intro (left - 1) (m + 1) O1 (by omega) ⟨by omega, HO1.out.1, HO1.out.2.1, HO1.out.2.2.1, HO1.out.2.2.2, HS6.out⟩ ?_, ?_⟩
        · kernel_rfl
        · unfold fmu
          simp [intOf]
          omega
      | false =>
        have hl2 : left' = left := HLp.out.2.2 (.inr rfl)
        subst hl2
        go_wp2
        refine ⟨fWI_intro (left') (m + 1) O1 (by omega) ⟨by omega, HO1.out.1, HO1.out.2.1, HO1.out.2.2.1, HO1.out.2.2.2, HS6.out⟩ ?_, ?_⟩
        · kernel_rfl
        · unfold fmu
          simp [intOf]
          omega
    · have hl2 : left' = left := HLp.out.2.2 (.inl hE)
      subst hl2
      have hE2 : (E == 0) = false := by simpa using hE
      go_wp2
      refine ⟨fWI_intro (left') (m + 1) O1 (by omega) ⟨by omega, HO1.out.1, HO1.out.2.1, HO1.out.2.2.1, HO1.out.2.2.2, HS6.out⟩ ?_, ?_⟩
      · kernel_rfl
      · unfold fmu
        simp [intOf]
        omega
end Go.Proofs.Ythlaackalmgfnaa
