/- The law DeviceTamper, walked. -/
import Derived.Test.YthlaackalmgfnabEu
import Derived.Test.YthlaackalmgfnabEc
import Derived.Deep.RegionWith
namespace Go.Proofs.Ythlaackalmgfnab
open Go.RowKit

set_option maxRecDepth 100000 in
set_option maxHeartbeats 6400000 in
theorem tamp_any {w : World} {a : Option Addr} {xs : List DoX} (h : DosAt w a xs) (c n : Nat) (hn : n < 256) (x : DoX) (hx : x.ok w) : Calls Try.prog 4 #[.int .u8 (n : Int), .slice a xs.length c, .agg x.v] w fun e w' => e = .returned (.bool true) ∧ Below w.heap.size w w' := by
  obtain ⟨W0, hW0⟩ : ∃ W0, w.alloc (.cells x.v 36) = W0 := ⟨_, rfl⟩
  obtain ⟨W1, hW1⟩ : ∃ W1, W0.alloc (.cells x.v 36) = W1 := ⟨_, rfl⟩
  have hB0 : Below w.heap.size w W0 := by rw [← hW0]; exact (Below.refl _ _).alloc (Nat.le_refl _) _
  have hS0 : W0.heap.size = w.heap.size + 1 := by rw [← hW0]; simp
  have HBx : Hid (Boxed w x.v W1) := by have := boxed w x.v; rw [hW0, hW1] at this; exact this
  have HG0 : Hid (W0.heap[w.heap.size]? = some (.cells x.v 36 (0, 0))) := by show _ = _; rw [← hW0]; exact heap_alloc_last _ _
  have HMu : Hid (Calls Try.prog 8 #[.slice a xs.length c, .int .i64 60] W0 fun e w' => e = .returned (.bool (muchD xs 60)) ∧ w' = W0) := much_any (h.below hB0) c 60 (by omega)
  have HMu2 : Hid (Calls Try.prog 8 #[.slice (some ⟨w.heap.size + 1, 0, none⟩) 1 1, .int .i64 1] W1 fun e w' => e = .returned (.bool (muchD [x] 1)) ∧ w' = W1) := much_any (dos_one hx HBx.out.below HBx.out.g2) 1 1 (by omega)
  have HD : Hid (DosAt W1 a xs) := h.below HBx.out.below
  have HX : Hid (x.ok W1) := hx.below HBx.out.below
  have HC : Hid (∀ wr, Below W1.heap.size W1 wr → wr.heap[w.heap.size]? = some (.cells x.v 36 (0, 0))) := fun wr hb => by rw [hb.block _ (Array.getElem?_eq_some_iff.1 HBx.out.g1).1]; exact HBx.out.g1
  have HF : Hid _ := do_fold x
  have HIC : Hid _ := info_do x
  have HSz : Hid (W0.heap.size = w.heap.size + 1) := hS0
  have HBw : Hid (Below w.heap.size w W0 ∧ Below w.heap.size w W1) := ⟨hB0, HBx.out.below⟩
  have HW0 : Hid _ := hW0
  have HW1 : Hid _ := hW1
  have hCs : x.v.size = 5 := rfl
  have HCg : Hid (∀ (j : Nat) (v : Value), x.v.toList[j]? = some v → ∀ wr, Below W1.heap.size W1 wr → wr.cell? ⟨w.heap.size, j, none⟩ = some v) := fun j v hj wr hb => by
    rw [cell_of_row _ _ _ _ _ _ (HC.out wr hb), ← Array.getElem?_toList]; exact hj
  have H1c : Hid (∀ wr, Below W1.heap.size W1 wr → wr.cell? ⟨w.heap.size, 1, none⟩ = some (.int .i64 x.i)) := fun wr hb => HCg.out 1 _ rfl wr hb
  have H4c : Hid (∀ wr, Below W1.heap.size W1 wr → wr.cell? ⟨w.heap.size, 4, none⟩ = some (.slice x.ka x.k.length x.kc)) := fun wr hb => HCg.out 4 _ rfl wr hb
  have HY : Hid (∀ j : Nat, x.v.setIfInBounds 0 (.int .u8 (j : Int)) = doV j x.i x.n x.s (.slice x.ka x.k.length x.kc)) := fun j => rfl
  have HOne : Hid (x.v.all (·.oneCell') = true) := by show _ = _; simp [DoX.v, doV, DoX.kv, Value.oneCell']
  have H2c : Hid (∀ wr, Below W1.heap.size W1 wr → wr.cell? ⟨w.heap.size, 2, none⟩ = some (.int .i64 x.n)) := fun wr hb => HCg.out 2 _ rfl wr hb
  have H3c : Hid (∀ wr, Below W1.heap.size W1 wr → wr.cell? ⟨w.heap.size, 3, none⟩ = some (.string (S x.s))) := fun wr hb => HCg.out 3 _ rfl wr hb
  clear h hx hB0 hS0 hW0 hW1 HBx HCg
  obtain ⟨C, hC⟩ : ∃ C, x.v = C := ⟨_, rfl⟩
  have HCl : Hid (C = #[.int .u8 (x.q : Int), .int .i64 x.i, .int .i64 x.n, .string (S x.s), .slice x.ka x.k.length x.kc]) := hC.symm
  rw [hC] at HG0 HC HF HIC HW0 HW1 hCs HY HOne
  rw [hC]
  clear hC
  have hCn : ¬ C = #[] := fun h => by rw [h] at hCs; cases hCs
  go_enter Try.func4, Try.ntmps4
  go_wp2_with fail
  rw [HW0.out]
  refine Calls.mono HMu.out ?_
  rintro e w' ⟨rfl, rfl⟩
  clear HMu
  cases hm1 : muchD xs 60 with
  | true =>
    clear hm1 HD HX HC HF HIC HMu2 HSz H1c H4c HW1 HW0
    go_wp2
    go_ret
    exact ⟨rfl, HBw.out.1⟩
  | false =>
    obtain ⟨hl, hm, hmx⟩ := much_parts hm1
    have HM : Hid (xs.any muchB = false) := hm
    have hwf := afterD_wf n xs
    have hup := afterD_up n xs
    obtain ⟨f1, f2⟩ := afterD_few n xs
    obtain ⟨D0, hD0⟩ : ∃ D0, afterD n xs = D0 := ⟨_, rfl⟩
    rw [hD0] at f1 f2 hwf hup
    have HA : Hid (afterD n xs = D0) := hD0
    have HWf : Hid (Wf D0 ∧ D0.up = true ∧ D0.acts.length ≤ 60 ∧ D0.starts ≤ 61) := ⟨hwf, hup, by omega, by omega⟩
    clear hD0 hm1 hm hmx f1 f2 hwf hup
    go_wp2_with (refine wpList_want rfl fun _ hK => wp_load_row 36 _ rfl w.heap.size rfl _ C (0, 0) _ HG0.out Try.underlying36 rfl HIC.out (hK _ _ ?_))
    rw [HF.out, HW1.out, HSz.out]
    refine Calls.mono HMu2.out ?_
    rintro e w1 ⟨rfl, rfl⟩
    clear HMu2 HF HW1 HSz HW0 HG0
    cases hm2 : muchD [x] 1 with
    | true =>
      clear hm2 HX HC HIC H1c H4c HD HA HM HWf
      go_wp2
      go_ret
      exact ⟨rfl, HBw.out.2⟩
    | false =>
      obtain ⟨-, -, hmx⟩ := much_parts hm2
      have hxk := (hmx x (by simp)).2
      clear hm2 hmx
      have HS0 : Hid (Sys w1 [] [] [] [] w1) := Sys.nil _
      have HC1 : Hid (Calls Try.prog 9 #[.int .u8 (n : Int), .slice a xs.length c] w1 fun e w' => ∃ p, e = .returned (.pointer (some ⟨p, 0, none⟩)) ∧ Sys w1 [(p, D0)] [] [] [] w') := by
              have := sys_after HS0.out HD.out c n hn (by omega) HM.out
              rw [HA.out] at this
              exact this
      clear HS0
      go_wp2_with fail
      refine Calls.mono HC1.out ?_
      rintro e wa1 ⟨p1, rfl, h1⟩
      have HS1 : Hid (Sys w1 [(p1, D0)] [] [] [] wa1) := h1
      clear HC1 h1 
      have HC2 : Hid (Calls Try.prog 9 #[.int .u8 (n : Int), .slice a xs.length c] wa1 fun e w' => ∃ p, e = .returned (.pointer (some ⟨p, 0, none⟩)) ∧ Sys w1 [(p1, D0), (p, D0)] [] [] [] w') := by
              have := sys_after HS1.out HD.out c n hn (by omega) HM.out
              rw [HA.out] at this
              exact this
      clear HS1
      go_wp2_with fail
      refine Calls.mono HC2.out ?_
      rintro e wa2 ⟨p2, rfl, h2⟩
      have HS2 : Hid (Sys w1 [(p1, D0), (p2, D0)] [] [] [] wa2) := h2
      clear HC2 h2 
      have hsm := HS2.out.small 0 rfl
      obtain ⟨N, hN⟩ : ∃ N, D0.sure.length = N := ⟨_, rfl⟩
      have hN0 : 0 < N := by omega
      have hN5 : N ≤ 512 := by omega
      have HN : Hid (D0.sure.length = N) := hN
      have hn0 : ((N : Int) == 0) = false := by
        have hnn : ¬ (N : Int) = 0 := by omega
        simpa using hnn
      clear hsm
      have HC11 : Hid (Calls Try.prog 14 #[.pointer (some ⟨p1, 0, none⟩)] wa2 fun e w' => e = .returned (.int .i64 (N : Int)) ∧ w' = wa2) := by
              have := sys_len HS2.out 0 rfl 
              rw [hN] at this
              exact this
      go_wp2_with fail
      refine Calls.mono HC11.out ?_
      rintro e w11 ⟨rfl, rfl⟩
      clear HC11 
      have c1 := H1c.out _ HS2.out.base
      have HLn : Hid (∀ m, Calls Try.prog 14 #[.pointer (some ⟨p1, 0, none⟩)] (w11.drewN m) fun e w' => e = .returned (.int .i64 (N : Int)) ∧ w' = w11.drewN m) := fun m => by
        have := sys_len (HS2.out.below (below_drewN (Below.refl _ _) m)) 0 rfl
        rw [hN] at this
        exact this
      have HSd : Hid (∀ m, Sys w1 [(p1, D0), (p2, D0)] [] [] [] (w11.drewN m)) := fun m => HS2.out.below (below_drewN (Below.refl _ _) m)
      clear hN HS2
      have hnz : ¬ (N : Int) = 0 := by omega
      obtain ⟨u, hu⟩ : ∃ u : Nat, IntKind.u64.wrap x.i = (u : Int) := ⟨(IntKind.u64.wrap x.i).toNat, by rw [IntKind.wrap_u64]; omega⟩
      obtain ⟨iN, hiN⟩ : ∃ iN : Nat, u % N = iN := ⟨_, rfl⟩
      have hiNl : iN < N := by rw [← hiN]; exact Nat.mod_lt _ hN0
      have HI : Hid (wrap64 ((IntKind.u64.wrap x.i).tmod (N : Int)) = (iN : Int)) := by
        show _ = _
        rw [hu, Int.tmod_eq_emod_of_nonneg (by omega), ← Int.natCast_emod, hiN]
        unfold wrap64
        omega
      clear hu hiN
      go_upto_region 6 with fail
      go_cut [9] (fun v wx => v = .int .i64 (iN : Int) ∧ Sys w1 [(p1, D0), (p2, D0)] [] [] [] wx)
      case first =>
        go_quiet (first | (go_at_call 14; exact Calls.quiet_of_same (HLn.out _)))
        go_wp2_with fail
        go_meet
        exact ⟨by rw [HI.out], HSd.out _⟩
      case rest =>
        obtain ⟨rfl, hS⟩ := hcut
        clear HLn HSd HI c1
        have HS20 : Hid _ := hS
        have c2 := H2c.out _ hS.base
        have c3 := H3c.out _ hS.base
        clear hS
        obtain ⟨u, hu⟩ : ∃ u : Nat, IntKind.u64.wrap x.n = (u : Int) := ⟨(IntKind.u64.wrap x.n).toNat, by rw [IntKind.wrap_u64]; omega⟩
        obtain ⟨st, hst⟩ : ∃ st : Nat, u % 3 = st := ⟨_, rfl⟩
        have hst3 : st < 3 := by rw [← hst]; exact Nat.mod_lt _ (by omega)
        have HI : Hid (wrap64 ((IntKind.u64.wrap x.n).tmod 3) = (st : Int) ∧ (IntKind.u64.wrap x.n) % 3 = (st : Int) ∧ wrap64 ((IntKind.u64.wrap x.n) % 3) = (st : Int)) := by
          have e : (IntKind.u64.wrap x.n) % 3 = (st : Int) := by rw [hu]; omega
          exact ⟨by rw [hu, Int.tmod_eq_emod_of_nonneg (by omega), ← hu, e]; unfold wrap64; omega, e, by rw [e]; unfold wrap64; omega⟩
        clear hu hst
        go_upto_region 7 with fail
        go_cut [10] (fun v wx => v = .int .i64 (st : Int) ∧ wx = wc)
        case first =>
          go_wp2_with fail
          go_meet
          exact ⟨by first | (rw [HI.out.1]) | (rw [HI.out.2.2]) | (rw [HI.out.2.1]), rfl⟩
        case rest =>
          obtain ⟨rfl, rfl⟩ := hcut
          clear HI c2
          have HBl : Hid (∀ w : World, Calls Try.prog 22 #[.string (S x.s)] w fun e w' => e = .returned (.string (S (blockT x.s))) ∧ Below w.heap.size w w') := block_any x.s
          have HT128 : Hid ((blockT x.s).length = 128) := blockT_len x.s
          obtain ⟨T, hT⟩ : ∃ T, blockT x.s = T := ⟨_, rfl⟩
          rw [hT] at HBl HT128
          clear hT
          generalize S x.s = A at *
          have HSs : Hid (Sys w1 [(p1, D0), (p2, D0)] [] [] [] wc) := HS20.out
          go_upto_if 55 with fail
          go_cut [11] (fun v wx => v = .string (S (if st = 1 then T else [])) ∧ Sys w1 [(p1, D0), (p2, D0)] [] [] [] wx)
          case first =>
            obtain ⟨r, hr⟩ : ∃ r, ((st : Int) == 1) = r := ⟨_, rfl⟩
            have HR : Hid (r = decide (st = 1)) := by
              show _ = _
              rw [← hr]
              by_cases h1 : st = 1
              · rw [h1]; rfl
              · rw [decide_eq_false h1]
                have h1c : ¬ (st : Int) = 1 := by omega
                simpa using h1c
            rw [hr]
            clear hr
            cases r with
            | true =>
              have h1 : st = 1 := of_decide_eq_true HR.out.symm
              have H1 : Hid _ := h1
              clear h1
              go_wp2_with fail
              refine Calls.mono (HBl.out _) ?_
              rintro e wd ⟨rfl, bd⟩
              have HSq : Hid _ := Sys.below HSs.out bd
              clear bd
              go_wp2_with fail
              go_meet
              exact ⟨by rw [if_pos H1.out], HSq.out⟩
            | false =>
              have h1 : ¬ st = 1 := of_decide_eq_false HR.out.symm
              have H1 : Hid _ := h1
              clear h1
              go_wp2_with fail
              go_meet
              exact ⟨by rw [if_neg H1.out]; rfl, HSs.out⟩
          case rest =>
            obtain ⟨rfl, hS⟩ := hcut
            obtain ⟨hwf, hup, hac, hsr⟩ := HWf.out
            have hiS : iN < D0.sure.length := by have := HN.out; omega
            have hbk := blkOf_ok st hst3 T HT128.out
            have htx := txB_blkD st hst3 T HT128.out
            obtain ⟨sT, hsT⟩ : ∃ sT, (if st = 1 then T else []) = sT := ⟨_, rfl⟩
            rw [hsT] at hbk htx
            rw [hsT]
            obtain ⟨bk, hbkE⟩ : ∃ bk, blkD st T = bk := ⟨_, rfl⟩
            have hbst : bk.st = st := by rw [← hbkE]; rfl
            rw [hbkE] at hbk htx
            have htp := tp_eq D0 iN hiS (st : Int) sT bk hbk
            have htc := tp_crash hwf iN bk
            have hcn := hwf.crash_nil
            have hdl := delA_len D0.acts (iN : Int)
            have htl : (tpD D0 iN bk).told[iN]? = some bk := by
              show (D0.told.set iN bk)[iN]? = _
              rw [List.getElem?_set_self (by rw [hwf.plain.len]; exact hiS)]
            have hrd := read_b (d := tpD D0 iN bk) hup iN bk htl
            have hsa := state_b (d := tpD D0 iN bk) iN bk htl
            rw [htx] at hrd
            rw [hbst] at hrd hsa
            obtain ⟨DT, hDT⟩ : ∃ DT, crashD (tpD D0 iN bk) [] = DT := ⟨_, rfl⟩
            obtain ⟨DC, hDC⟩ : ∃ DC, crashD D0 [] = DC := ⟨_, rfl⟩
            rw [hDT] at htc
            rw [hDC] at hcn
            have uT : DT.up = false ∧ DT.starts = D0.starts ∧ DT.acts = [] := by rw [← hDT]; exact ⟨rfl, rfl, rfl⟩
            have uC : DC.up = false ∧ DC.starts = D0.starts := by rw [← hDC]; exact ⟨rfl, rfl⟩
            have HDT : Hid (crashE (tpD D0 iN bk) [] = (0, DT)) := by show _ = _; rw [crash_up (show (tpD D0 iN bk).up = true from hup), hDT]
            have HDC : Hid (crashE D0 [] = (0, DC)) := by show _ = _; rw [crash_up hup, hDC]
            have HST : Hid (startD DT = (0, stD DT) ∧ startD DC = (0, stD DC)) := ⟨start_down uT.1, start_down uC.1⟩
            have HTL : Hid ((stD DT).told = D0.sure.set iN bk ∧ (stD DT).sure.length = N ∧ (stD DC).told = D0.sure ∧ (stD DC).sure.length = N ∧ (stD DT).told.length = N ∧ (stD DC).told.length = N) := by
              have h1 : (stD DT).told = D0.sure.set iN bk := htc.2
              have h2 : (stD DC).told = D0.sure := hcn.2
              have h3 : (stD DT).sure = D0.sure.set iN bk := htc.1
              have h4 : (stD DC).sure = D0.sure := hcn.1
              refine ⟨h1, by rw [h3, List.length_set]; exact HN.out, h2, by rw [h4]; exact HN.out, by rw [h1, List.length_set]; exact HN.out, by rw [h2]; exact HN.out⟩
            have HTP : Hid (tamperD D0 (iN : Int) (st : Int) sT = (0, tpD D0 iN bk)) := htp
            have HRd : Hid (readD (tpD D0 iN bk) (iN : Int) = (sT, if st = 0 then 41 else if st = 2 then 42 else 0)) := hrd
            have HSa : Hid (stAtD (tpD D0 iN bk) (iN : Int) = (st : Int)) := hsa
            have HSZ : Hid ((S sT).size = 128 ∨ (S sT).size = 0) := by
              show _ ∨ _
              rw [S_size, ← hsT]
              split
              · exact .inl HT128.out
              · exact .inr rfl
            have HTx : Hid (txB bk = sT ∧ bk.st = st ∧ iN < D0.sure.length) := ⟨htx, hbst, hiS⟩
            have hpl : ¬ (D0.acts.length : Int) < ((delA D0.acts (iN : Int)).length : Int) := by omega
            have hss : ((st : Int) != (st : Int)) = false := by simp
            obtain ⟨code, hcode⟩ : ∃ code : Int, (if st = 0 then (41 : Int) else if st = 2 then 42 else 0) = code := ⟨_, rfl⟩
            rw [hcode] at HRd
            have hbb : (code == 0) = ((st : Int) == 1) := by
              rw [← hcode]
              have h3 : st = 0 ∨ st = 1 ∨ st = 2 := by omega
              rcases h3 with rfl | rfl | rfl <;> rfl
            have HS30 : Hid (Sys w1 [(p1, D0), (p2, D0)] [] [] [] wc) := hS
            clear hS hdl htp htc hcn hrd hsa htx hbk hbkE hsT hbst htl hDT hDC hcode HBl HSs HS20 c3 HD HA HM HWf
            have HC31 : Hid (Calls Try.prog 23 #[.pointer (some ⟨p1, 0, none⟩), .int .i64 (iN : Int), .int .i64 (st : Int), .string (S sT)] wc fun e w' => e = .returned (.int .i64 0) ∧ Sys w1 [(p1, tpD D0 iN bk), (p2, D0)] [] [] [] w') := by
                          have := sys_tamper HS30.out 0 rfl (iN : Int) (st : Int) sT (by omega)
                          rw [HTP.out] at this
                          exact this
            clear HS30
            go_wp2_with fail
            refine Calls.mono HC31.out ?_
            rintro e w31 ⟨rfl, h31⟩
            have HS31 : Hid (Sys w1 [(p1, tpD D0 iN bk), (p2, D0)] [] [] [] w31) := h31
            clear HC31 h31 
            have HC32 : Hid (Calls Try.prog 24 #[.pointer (some ⟨p1, 0, none⟩), .int .i64 (iN : Int)] w31 fun e w' => e = .returned (.int .i64 (st : Int)) ∧ w' = w31) := by
                          have := sys_state HS31.out 0 rfl (iN : Int)
                          rw [HSa.out] at this
                          exact this
            go_wp2_with fail
            refine Calls.mono HC32.out ?_
            rintro e w32 ⟨rfl, rfl⟩
            clear HC32 
            have HC33 : Hid (Calls Try.prog 25 #[.pointer (some ⟨p1, 0, none⟩), .int .i64 (iN : Int)] w32 fun e w' => e = .returned (.tuple #[.string (S sT), .int .i64 code]) ∧ w' = w32) := by
                          have := sys_read HS31.out 0 rfl (iN : Int)
                          rw [HRd.out] at this
                          exact this
            go_wp2_with fail
            refine Calls.mono HC33.out ?_
            rintro e w33 ⟨rfl, rfl⟩
            clear HC33 
            have HC34 : Hid (Calls Try.prog 12 #[.pointer (some ⟨p1, 0, none⟩)] w33 fun e w' => e = .returned (.int .i64 ((delA D0.acts (iN : Int)).length : Int)) ∧ w' = w33) := by
                          have := sys_pending HS31.out 0 rfl 
                          rw [show (tpD D0 iN bk).acts.length = (delA D0.acts (iN : Int)).length from rfl] at this
                          exact this
            go_wp2_with fail
            refine Calls.mono HC34.out ?_
            rintro e w34 ⟨rfl, rfl⟩
            clear HC34 
            have HC35 : Hid (Calls Try.prog 12 #[.pointer (some ⟨p2, 0, none⟩)] w34 fun e w' => e = .returned (.int .i64 (D0.acts.length : Int)) ∧ w' = w34) := sys_pending HS31.out 1 rfl 
            go_wp2_with fail
            refine Calls.mono HC35.out ?_
            rintro e w35 ⟨rfl, rfl⟩
            clear HC35 
            have HC36 : Hid (Calls Try.prog 20 #[.pointer (some ⟨p1, 0, none⟩), .slice none 0 0] w35 fun e w' => e = .returned (.int .i64 0) ∧ Sys w1 [(p1, DT), (p2, D0)] [] [] [] w') := by
                          have := sys_crash HS31.out 0 rfl (ints_nil _)
                          rw [HDT.out] at this
                          exact this
            clear HS31
            go_wp2_with fail
            refine Calls.mono HC36.out ?_
            rintro e w36 ⟨rfl, h36⟩
            have HS36 : Hid (Sys w1 [(p1, DT), (p2, D0)] [] [] [] w36) := h36
            clear HC36 h36 
            have HC37 : Hid (Calls Try.prog 20 #[.pointer (some ⟨p2, 0, none⟩), .slice none 0 0] w36 fun e w' => e = .returned (.int .i64 0) ∧ Sys w1 [(p1, DT), (p2, DC)] [] [] [] w') := by
                          have := sys_crash HS36.out 1 rfl (ints_nil _)
                          rw [HDC.out] at this
                          exact this
            clear HS36
            go_wp2_with fail
            refine Calls.mono HC37.out ?_
            rintro e w37 ⟨rfl, h37⟩
            have HS37 : Hid (Sys w1 [(p1, DT), (p2, DC)] [] [] [] w37) := h37
            clear HC37 h37 
            have HC38 : Hid (Calls Try.prog 26 #[.pointer (some ⟨p1, 0, none⟩)] w37 fun e w' => e = .returned (.int .i64 0) ∧ Sys w1 [(p1, stD DT), (p2, DC)] [] [] [] w') := by
                          have := sys_start HS37.out 0 rfl (show DT.starts < _ by omega)
                          rw [HST.out.1] at this
                          exact this
            clear HS37
            go_wp2_with fail
            refine Calls.mono HC38.out ?_
            rintro e w38 ⟨rfl, h38⟩
            have HS38 : Hid (Sys w1 [(p1, stD DT), (p2, DC)] [] [] [] w38) := h38
            clear HC38 h38 
            have HC39 : Hid (Calls Try.prog 26 #[.pointer (some ⟨p2, 0, none⟩)] w38 fun e w' => e = .returned (.int .i64 0) ∧ Sys w1 [(p1, stD DT), (p2, stD DC)] [] [] [] w') := by
                          have := sys_start HS38.out 1 rfl (show DC.starts < _ by omega)
                          rw [HST.out.2] at this
                          exact this
            clear HS38
            go_wp2_with fail
            refine Calls.mono HC39.out ?_
            rintro e w39 ⟨rfl, h39⟩
            have HS39 : Hid (Sys w1 [(p1, stD DT), (p2, stD DC)] [] [] [] w39) := h39
            clear HC39 h39 
            have HC40 : Hid (Calls Try.prog 16 #[.pointer (some ⟨p2, 0, none⟩)] w39 fun e w' => ∃ v, e = .returned v ∧ Sys w1 [(p1, stD DT), (p2, stD DC)] [] [(v, allD (stD DC))] [] w') := sys_all HS39.out 1 rfl
            clear HS39
            go_wp2_with fail
            refine Calls.mono HC40.out ?_
            rintro e w40 ⟨v40, rfl, h40⟩
            have HS40 : Hid (Sys w1 [(p1, stD DT), (p2, stD DC)] [] [(v40, allD (stD DC))] [] w40) := h40
            clear HC40 h40 
            have HC41 : Hid (Calls Try.prog 16 #[.pointer (some ⟨p1, 0, none⟩)] w40 fun e w' => ∃ v, e = .returned v ∧ Sys w1 [(p1, stD DT), (p2, stD DC)] [] [(v, allD (stD DT)), (v40, allD (stD DC))] [] w') := sys_all HS40.out 0 rfl
            clear HS40
            go_wp2_with fail
            refine Calls.mono HC41.out ?_
            rintro e w41 ⟨v41, rfl, h41⟩
            have HS41 : Hid (Sys w1 [(p1, stD DT), (p2, stD DC)] [] [(v41, allD (stD DT)), (v40, allD (stD DC))] [] w41) := h41
            clear HC41 h41 
            obtain ⟨a1, q1, e1, -⟩ := HS41.out.text (v := v40) (l := allD (stD DC)) (by simp)
            obtain ⟨a2, q2, e2, -⟩ := HS41.out.text (v := v41) (l := allD (stD DT)) (by simp)
            rw [allD_len, HTL.out.2.2.2.1] at e1
            rw [allD_len, HTL.out.2.1] at e2
            subst e1 e2
            go_wp2
            go_loopw [16] (fun i wr => ∃ j : Nat, j ≤ N ∧ i = .int .i64 j ∧ Sys w1 [(p1, stD DT), (p2, stD DC)] [] [(.slice a2 N q2, allD (stD DT)), (.slice a1 N q1, allD (stD DC))] [] wr) (fun i _ => N - (intOf i).toNat)
            case atStart => exact ⟨0, by omega, rfl, HS41.out⟩
            case round =>
              obtain ⟨j, hj, rfl, hS⟩ := hrel
              clear HS41
              have HLn : Hid (Calls Try.prog 14 #[.pointer (some ⟨p1, 0, none⟩)] wr fun e w' => e = .returned (.int .i64 (N : Int)) ∧ w' = wr) := by
                have := sys_len hS 0 rfl
                rw [HTL.out.2.1] at this
                exact this
              by_cases hlt : j < N
              · have hlt2 : (j : Int) < (N : Int) := by omega
                obtain ⟨B, hB⟩ : ∃ B, D0.sure[j]? = some B := ⟨_, List.getElem?_eq_getElem (by have := HN.out; omega)⟩
                by_cases hji : j = iN
                · subst hji
                  have hBT : (stD DT).told[j]? = some bk := by rw [HTL.out.1, List.getElem?_set_self HTx.out.2.2]
                  have hBC : (stD DC).told[j]? = some B := by rw [HTL.out.2.2.1]; exact hB
                  obtain ⟨b1, o1, rfl, c1⟩ := hS.textAt (a := a1) (n := N) (c := q1) (l := allD (stD DC)) (by simp) (allD_txB (d := stD DC) rfl (by rw [HTL.out.2.2.2.2.2, HTL.out.2.2.2.1]) j B hBC)
                  obtain ⟨b2, o2, rfl, c2⟩ := hS.textAt (a := a2) (n := N) (c := q2) (l := allD (stD DT)) (by simp) (allD_txB (d := stD DT) rfl (by rw [HTL.out.2.2.2.2.1, HTL.out.2.1]) j bk hBT)
                  rw [HTx.out.1] at c2
                  have HSt1 : Hid (∀ m, Calls Try.prog 24 #[.pointer (some ⟨p1, 0, none⟩), .int .i64 (j : Int)] (wr.drewN m) fun e w' => e = .returned (.int .i64 (st : Int)) ∧ w' = wr.drewN m) := fun m => by
                    have := sys_state (hS.below (below_drewN (Below.refl _ _) m)) 0 rfl (j : Int)
                    rw [state_b j bk hBT, HTx.out.2.1] at this
                    exact this
                  have hSd := fun m => Sys.below hS (below_drewN (Below.refl _ wr) m)
                  have HSd : Hid _ := hSd
                  clear hSd
                  have hjj : ((j : Int) != (j : Int)) = false := by simp
                  have hjk : ((j : Int) == (j : Int)) = true := by simp
                  clear hS hB hBT hBC
                  generalize S (txB B) = A1 at *
                  go_wp2_with fail
                  refine Calls.mono HLn.out ?_
                  rintro e wr' ⟨rfl, rfl⟩
                  clear HLn
                  go_wp2
                  go_quiet (first | (go_at_call 24; exact Calls.quiet_of_same (HSt1.out _)))
                  have HSq : Hid _ := HSd.out nq
                  generalize wr'.drewN nq = wq at *
                  clear HSd HSt1 c1 c2
                  go_wp2
                  go_roundw
                  case rel => exact ⟨j + 1, by omega, by go_num, HSq.out⟩
                  case measure => simp [intOf]; omega
                · have hBT : (stD DT).told[j]? = some B := by rw [HTL.out.1, List.getElem?_set_ne (fun e => hji e.symm)]; exact hB
                  have hBC : (stD DC).told[j]? = some B := by rw [HTL.out.2.2.1]; exact hB
                  obtain ⟨b1, o1, rfl, c1⟩ := hS.textAt (a := a1) (n := N) (c := q1) (l := allD (stD DC)) (by simp) (allD_txB (d := stD DC) rfl (by rw [HTL.out.2.2.2.2.2, HTL.out.2.2.2.1]) j B hBC)
                  obtain ⟨b2, o2, rfl, c2⟩ := hS.textAt (a := a2) (n := N) (c := q2) (l := allD (stD DT)) (by simp) (allD_txB (d := stD DT) rfl (by rw [HTL.out.2.2.2.2.1, HTL.out.2.1]) j B hBT)
                  have HSt1 : Hid (∀ m, Calls Try.prog 24 #[.pointer (some ⟨p1, 0, none⟩), .int .i64 (j : Int)] (wr.drewN m) fun e w' => e = .returned (.int .i64 (B.st : Int)) ∧ w' = wr.drewN m) := fun m => by
                    have := sys_state (hS.below (below_drewN (Below.refl _ _) m)) 0 rfl (j : Int)
                    rw [state_b j B hBT] at this
                    exact this
                  have HSt2 : Hid (∀ m, Calls Try.prog 24 #[.pointer (some ⟨p2, 0, none⟩), .int .i64 (j : Int)] (wr.drewN m) fun e w' => e = .returned (.int .i64 (B.st : Int)) ∧ w' = wr.drewN m) := fun m => by
                    have := sys_state (hS.below (below_drewN (Below.refl _ _) m)) 1 rfl (j : Int)
                    rw [state_b j B hBC] at this
                    exact this
                  have hSd := fun m => Sys.below hS (below_drewN (Below.refl _ wr) m)
                  have HSd : Hid _ := hSd
                  clear hSd
                  have hjc : ¬ (j : Int) = (iN : Int) := by omega
                  have hjj : ((j : Int) != (iN : Int)) = true := by simpa using hjc
                  have hjk : ((j : Int) == (iN : Int)) = false := by simpa using hjc
                  have hbs : ((B.st : Int) != (B.st : Int)) = false := by simp
                  clear hS hB hBT hBC hjc
                  generalize S (txB B) = A1 at *
                  generalize (B.st : Int) = bs at *
                  go_wp2_with fail
                  refine Calls.mono HLn.out ?_
                  rintro e wr' ⟨rfl, rfl⟩
                  clear HLn
                  go_wp2
                  go_quiet (first | (go_at_call_of 24 p1; exact Calls.quiet_of_same (HSt1.out _)) | (go_at_call_of 24 p2; exact Calls.quiet_of_same (HSt2.out _)))
                  have HSq : Hid _ := HSd.out nq
                  generalize wr'.drewN nq = wq at *
                  clear HSd HSt1 HSt2 c1 c2
                  go_wp2
                  go_roundw
                  case rel => exact ⟨j + 1, by omega, by go_num, HSq.out⟩
                  case measure => simp [intOf]; omega
              · have hlt2 : ¬ (j : Int) < (N : Int) := by omega
                have HS70 : Hid (Sys w1 [(p1, stD DT), (p2, stD DC)] [] [(.slice a2 N q2, allD (stD DT)), (.slice a1 N q1, allD (stD DC))] [] wr) := hS
                clear hS
                go_wp2_with fail
                refine Calls.mono HLn.out ?_
                rintro e wz ⟨rfl, rfl⟩
                clear HLn
                have HTF : Hid (∀ (i : Int) (t : Int) (s : List UInt8), ¬ (0 ≤ i ∧ i < (N : Int)) ∨ blkOf t s = none → tamperD (stD DT) i t s = (2, stD DT)) := fun i t s h => by
                  unfold tamperD
                  rw [HTL.out.2.1]
                  split
                  · rfl
                  · rename_i h2
                    rcases h with h | h
                    · exact absurd h h2
                    · rw [h]
                have hacT : (stD DT).acts.length < 1000000 := by show DT.acts.length < _; rw [uT.2.2]; decide
                have HSx : Hid (S sT ++ ⟨#[120]⟩ = S (sT ++ [120])) := S_append sT [120]
                have HC71 : Hid (Calls Try.prog 23 #[.pointer (some ⟨p1, 0, none⟩), .int .i64 (-1), .int .i64 0, .string ⟨#[]⟩] wz fun e w' => e = .returned (.int .i64 2) ∧ Sys w1 [(p1, stD DT), (p2, stD DC)] [] [(.slice a2 N q2, allD (stD DT)), (.slice a1 N q1, allD (stD DC))] [] w') := by
                                  have := sys_tamper HS70.out 0 rfl (-1) 0 [] hacT
                                  rw [HTF.out (-1) 0 [] (.inl (by omega))] at this
                                  exact this
                clear HS70
                go_wp2_with fail
                refine Calls.mono HC71.out ?_
                rintro e w71 ⟨rfl, h71⟩
                have HS71 : Hid (Sys w1 [(p1, stD DT), (p2, stD DC)] [] [(.slice a2 N q2, allD (stD DT)), (.slice a1 N q1, allD (stD DC))] [] w71) := h71
                clear HC71 h71 
                have HC72 : Hid (Calls Try.prog 14 #[.pointer (some ⟨p1, 0, none⟩)] w71 fun e w' => e = .returned (.int .i64 (N : Int)) ∧ w' = w71) := by
                                  have := sys_len HS71.out 0 rfl 
                                  rw [HTL.out.2.1] at this
                                  exact this
                go_wp2_with fail
                refine Calls.mono HC72.out ?_
                rintro e w72 ⟨rfl, rfl⟩
                clear HC72 
                have HC73 : Hid (Calls Try.prog 23 #[.pointer (some ⟨p1, 0, none⟩), .int .i64 (N : Int), .int .i64 0, .string ⟨#[]⟩] w72 fun e w' => e = .returned (.int .i64 2) ∧ Sys w1 [(p1, stD DT), (p2, stD DC)] [] [(.slice a2 N q2, allD (stD DT)), (.slice a1 N q1, allD (stD DC))] [] w') := by
                                  have := sys_tamper HS71.out 0 rfl (N : Int) 0 [] hacT
                                  rw [HTF.out (N : Int) 0 [] (.inl (by omega))] at this
                                  exact this
                clear HS71
                go_wp2_with fail
                refine Calls.mono HC73.out ?_
                rintro e w73 ⟨rfl, h73⟩
                have HS73 : Hid (Sys w1 [(p1, stD DT), (p2, stD DC)] [] [(.slice a2 N q2, allD (stD DT)), (.slice a1 N q1, allD (stD DC))] [] w73) := h73
                clear HC73 h73 
                have HC74 : Hid (Calls Try.prog 23 #[.pointer (some ⟨p1, 0, none⟩), .int .i64 0, .int .i64 3, .string ⟨#[]⟩] w73 fun e w' => e = .returned (.int .i64 2) ∧ Sys w1 [(p1, stD DT), (p2, stD DC)] [] [(.slice a2 N q2, allD (stD DT)), (.slice a1 N q1, allD (stD DC))] [] w') := by
                                  have := sys_tamper HS73.out 0 rfl 0 3 [] hacT
                                  rw [HTF.out 0 3 [] (.inr rfl)] at this
                                  exact this
                clear HS73
                go_wp2_with fail
                refine Calls.mono HC74.out ?_
                rintro e w74 ⟨rfl, h74⟩
                have HS74 : Hid (Sys w1 [(p1, stD DT), (p2, stD DC)] [] [(.slice a2 N q2, allD (stD DT)), (.slice a1 N q1, allD (stD DC))] [] w74) := h74
                clear HC74 h74 
                have HC75 : Hid (Calls Try.prog 23 #[.pointer (some ⟨p1, 0, none⟩), .int .i64 0, .int .i64 1, .string ⟨#[]⟩] w74 fun e w' => e = .returned (.int .i64 2) ∧ Sys w1 [(p1, stD DT), (p2, stD DC)] [] [(.slice a2 N q2, allD (stD DT)), (.slice a1 N q1, allD (stD DC))] [] w') := by
                                  have := sys_tamper HS74.out 0 rfl 0 1 [] hacT
                                  rw [HTF.out 0 1 [] (.inr rfl)] at this
                                  exact this
                clear HS74
                go_wp2_with fail
                refine Calls.mono HC75.out ?_
                rintro e w75 ⟨rfl, h75⟩
                have HS75 : Hid (Sys w1 [(p1, stD DT), (p2, stD DC)] [] [(.slice a2 N q2, allD (stD DT)), (.slice a1 N q1, allD (stD DC))] [] w75) := h75
                clear HC75 h75 
                have hbn : blkOf 0 (sT ++ [120]) = none := by unfold blkOf; rw [if_neg (by simp), if_neg (by simp)]
                have HX120 : Hid (S (sT ++ [120]) = S sT ++ ⟨#[120]⟩) := HSx.out.symm
                have HLast : Hid (Calls Try.prog 23 #[.pointer (some ⟨p1, 0, none⟩), .int .i64 0, .int .i64 0, .string (S sT ++ ⟨#[120]⟩)] w75 fun e w' => e = .returned (.int .i64 2) ∧ Sys w1 [(p1, stD DT), (p2, stD DC)] [] [(.slice a2 N q2, allD (stD DT)), (.slice a1 N q1, allD (stD DC))] [] w') := by
                  have := sys_tamper HS75.out 0 rfl 0 0 (sT ++ [120]) hacT
                  rw [HTF.out 0 0 (sT ++ [120]) (.inr hbn), HX120.out] at this
                  exact this
                clear HS75 HX120 HSx hbn HTF
                rcases HSZ.out with hsz | hsz
                · generalize S sT = SA at *
                  go_wp2_with fail
                  refine Calls.mono HLast.out ?_
                  rintro e w90 ⟨rfl, h90⟩
                  have HS90 : Hid (Sys w1 [(p1, stD DT), (p2, stD DC)] [] [(.slice a2 N q2, allD (stD DT)), (.slice a1 N q1, allD (stD DC))] [] w90) := h90
                  clear h90 HLast
                  have HC91 : Hid (Calls Try.prog 21 #[] w90 fun e w' => e = .returned (.bool true) ∧ Sys w1 [(p1, stD DT), (p2, stD DC)] [] [(.slice a2 N q2, allD (stD DT)), (.slice a1 N q1, allD (stD DC))] [] w') := (does_any w90).mono fun _ _ hh => ⟨hh.1, HS90.out.below hh.2⟩
                  clear HS90
                  go_wp2_with fail
                  refine Calls.mono HC91.out ?_
                  rintro e w91 ⟨rfl, h91⟩
                  have HS91 : Hid (Sys w1 [(p1, stD DT), (p2, stD DC)] [] [(.slice a2 N q2, allD (stD DT)), (.slice a1 N q1, allD (stD DC))] [] w91) := h91
                  clear HC91 h91 
                  have HB : Hid (Below w.heap.size w w91) := HBw.out.2.trans (HS91.out.base.mono HBw.out.2.size)
                  clear HS91
                  go_wp2
                  go_ret
                  exact ⟨rfl, HB.out⟩
                · generalize S sT = SA at *
                  go_wp2_with fail
                  refine Calls.mono HLast.out ?_
                  rintro e w90 ⟨rfl, h90⟩
                  have HS90 : Hid (Sys w1 [(p1, stD DT), (p2, stD DC)] [] [(.slice a2 N q2, allD (stD DT)), (.slice a1 N q1, allD (stD DC))] [] w90) := h90
                  clear h90 HLast
                  have HC91 : Hid (Calls Try.prog 21 #[] w90 fun e w' => e = .returned (.bool true) ∧ Sys w1 [(p1, stD DT), (p2, stD DC)] [] [(.slice a2 N q2, allD (stD DT)), (.slice a1 N q1, allD (stD DC))] [] w') := (does_any w90).mono fun _ _ hh => ⟨hh.1, HS90.out.below hh.2⟩
                  clear HS90
                  go_wp2_with fail
                  refine Calls.mono HC91.out ?_
                  rintro e w91 ⟨rfl, h91⟩
                  have HS91 : Hid (Sys w1 [(p1, stD DT), (p2, stD DC)] [] [(.slice a2 N q2, allD (stD DT)), (.slice a1 N q1, allD (stD DC))] [] w91) := h91
                  clear HC91 h91 
                  have HB : Hid (Below w.heap.size w w91) := HBw.out.2.trans (HS91.out.base.mono HBw.out.2.size)
                  clear HS91
                  go_wp2
                  go_ret
                  exact ⟨rfl, HB.out⟩
theorem tamp_int {w : World} {a : Option Addr} {xs : List DoX} (h : DosAt w a xs) (c : Nat) (n : Int) (h0 : 0 ≤ n) (h1 : n < 256) (x : DoX) (hx : x.ok w) : Calls Try.prog 4 #[.int .u8 n, .slice a xs.length c, .agg x.v] w fun e w' => e = .returned (.bool true) ∧ Below w.heap.size w w' := by
  obtain ⟨m, rfl⟩ : ∃ m : Nat, n = m := ⟨n.toNat, by omega⟩
  exact tamp_any h c m (by omega) x hx
end Go.Proofs.Ythlaackalmgfnab
