/- The law DeviceDown, walked. -/
import Derived.Test.YthlaackalmgfnabEm
import Derived.Test.YthlaackalmgfnabEc
namespace Go.Proofs.Ythlaackalmgfnab
open Go.RowKit

/-- Down: flushed, crashed. -/
def dnD (d : Dv) : Dv := { flD d with up := false, fail := none }
/-- And started. -/
def suD (d : Dv) : Dv := { dnD d with up := true, starts := d.starts + 1 }
theorem dn_crash {d : Dv} (hu : d.up = true) (k : List Int) : crashE (flD d) k = (0, dnD d) := by
  unfold crashE
  rw [if_neg (by show ¬ d.up = false; rw [hu]; simp), crashD_none rfl]
  rfl
theorem su_start (d : Dv) : startD (dnD d) = (0, suD d) := rfl
theorem su_start2 (d : Dv) : startD (suD d) = (2, suD d) := rfl
theorem su_states (d : Dv) : statesD (suD d) = statesD (flD d) := rfl
theorem su_all {d : Dv} (hu : d.up = true) : allD (suD d) = allD (flD d) := by
  unfold allD
  refine List.map_congr_left fun i _ => ?_
  unfold readD
  rw [if_pos (show (suD d).up = true from rfl), if_pos (show (flD d).up = true from hu)]
  rfl
set_option maxRecDepth 100000 in
set_option maxHeartbeats 3200000 in
theorem down_any {w : World} {a : Option Addr} {xs : List DoX} (h : DosAt w a xs) (c n : Nat) (hn : n < 256) (x : DoX) (hx : x.ok w) : Calls Try.prog 7 #[.int .u8 (n : Int), .slice a xs.length c, .agg x.v] w fun e w' => e = .returned (.bool true) ∧ Below w.heap.size w w' := by
  obtain ⟨W0, hW0⟩ : ∃ W0, w.alloc (.cells x.v 36) = W0 := ⟨_, rfl⟩
  obtain ⟨W1, hW1⟩ : ∃ W1, W0.alloc (.cells x.v 36) = W1 := ⟨_, rfl⟩
  have hB0 : Below w.heap.size w W0 := by rw [← hW0]; exact (Below.refl _ _).alloc (Nat.le_refl _) _
  have hS0 : W0.heap.size = w.heap.size + 1 := by rw [← hW0]; simp
  have HBx : Hid (Boxed w x.v W1) := by have := boxed w x.v; rw [hW0, hW1] at this; exact this
  have HG0 : Hid (W0.heap[w.heap.size]? = some (.cells x.v 36 (0, 0))) := by show _ = _; rw [← hW0]; exact heap_alloc_last _ _
  have HMu : Hid (Calls Try.prog 8 #[.slice a xs.length c, .int .i64 60] W0 fun e w' => e = .returned (.bool (muchD xs 60)) ∧ w' = W0) := much_any (h.below hB0) c 60 (by omega)
  have HMu2 : Hid (Calls Try.prog 8 #[.slice (some ⟨w.heap.size + 1, 0, none⟩) 1 1, .int .i64 1] W1 fun e w' => e = .returned (.bool (muchD [x] 1)) ∧ w' = W1) := much_any (dos_one hx HBx.out.below HBx.out.g2) 1 1 (by omega)
  have HD : Hid (DosAt W1 a xs) := h.below HBx.out.below
  have HX : Hid (x.ok W1) := hx.below HBx.out.below
  have HC : Hid (∀ wr, Below W1.heap.size W1 wr → wr.heap[w.heap.size]? = some (.cells x.v 36 (0, 0))) := fun wr hb => by rw [hb.block _ (Array.getElem?_eq_some_iff.1 HBx.out.g1).1]; exact HBx.out.g1
  have HF : Hid _ := do_fold x
  have HIC : Hid _ := info_do x
  have HSz : Hid (W0.heap.size = w.heap.size + 1) := hS0
  have HBw : Hid (Below w.heap.size w W0 ∧ Below w.heap.size w W1) := ⟨hB0, HBx.out.below⟩
  have HW0 : Hid _ := hW0
  have HW1 : Hid _ := hW1
  have hCs : x.v.size = 5 := rfl
  have HCg : Hid (∀ (j : Nat) (v : Value), x.v.toList[j]? = some v → ∀ wr, Below W1.heap.size W1 wr → wr.cell? ⟨w.heap.size, j, none⟩ = some v) := fun j v hj wr hb => by
    rw [cell_of_row _ _ _ _ _ _ (HC.out wr hb), ← Array.getElem?_toList]; exact hj
  have H1c : Hid (∀ wr, Below W1.heap.size W1 wr → wr.cell? ⟨w.heap.size, 1, none⟩ = some (.int .i64 x.i)) := fun wr hb => HCg.out 1 _ rfl wr hb
  have H4c : Hid (∀ wr, Below W1.heap.size W1 wr → wr.cell? ⟨w.heap.size, 4, none⟩ = some (.slice x.ka x.k.length x.kc)) := fun wr hb => HCg.out 4 _ rfl wr hb
  have HY : Hid (∀ j : Nat, x.v.setIfInBounds 0 (.int .u8 (j : Int)) = doV j x.i x.n x.s (.slice x.ka x.k.length x.kc)) := fun j => rfl
  have HOne : Hid (x.v.all (·.oneCell') = true) := by show _ = _; simp [DoX.v, doV, DoX.kv, Value.oneCell']
  clear h hx hB0 hS0 hW0 hW1 HBx HCg
  obtain ⟨C, hC⟩ : ∃ C, x.v = C := ⟨_, rfl⟩
  have HCl : Hid (C = #[.int .u8 (x.q : Int), .int .i64 x.i, .int .i64 x.n, .string (S x.s), .slice x.ka x.k.length x.kc]) := hC.symm
  rw [hC] at HG0 HC HF HIC HW0 HW1 hCs HY HOne
  rw [hC]
  clear hC
  have hCn : ¬ C = #[] := fun h => by rw [h] at hCs; cases hCs
  go_enter Try.func7, Try.ntmps7
  go_wp2_with fail
  rw [HW0.out]
  refine Calls.mono HMu.out ?_
  rintro e w' ⟨rfl, rfl⟩
  clear HMu
  cases hm1 : muchD xs 60 with
  | true =>
    clear hm1 HD HX HC HF HIC HMu2 HSz H1c H4c HW1 HW0
    go_wp2
    go_ret
    exact ⟨rfl, HBw.out.1⟩
  | false =>
    obtain ⟨hl, hm, hmx⟩ := much_parts hm1
    have HAf : Hid (Calls Try.prog 9 #[.int .u8 (n : Int), .slice a xs.length c] W1 fun e w' => ∃ p, e = .returned (.pointer (some ⟨p, 0, none⟩)) ∧ ∃ O, One W1 p (afterD n xs) O w') := after_any HD.out c n hn (by omega) hm
    obtain ⟨D0, hD0⟩ : ∃ D0, afterD n xs = D0 := ⟨_, rfl⟩
    have HWf : Hid (Wf D0 ∧ D0.up = true ∧ D0.acts.length ≤ 60 ∧ D0.starts ≤ 61) := by
      obtain ⟨f1, f2⟩ := afterD_few n xs
      rw [← hD0]
      exact ⟨afterD_wf n xs, afterD_up n xs, by omega, by omega⟩
    rw [hD0] at HAf
    clear hD0 hm1 hm hmx HD
    go_wp2_with (refine wpList_want rfl fun _ hK => wp_load_row 36 _ rfl w.heap.size rfl _ C (0, 0) _ HG0.out Try.underlying36 rfl HIC.out (hK _ _ ?_))
    rw [HF.out, HW1.out, HSz.out]
    refine Calls.mono HMu2.out ?_
    rintro e w1 ⟨rfl, rfl⟩
    clear HMu2 HF HW1 HSz HW0 HG0
    cases hm2 : muchD [x] 1 with
    | true =>
      clear hm2 HX HC HIC H1c H4c HAf
      go_wp2
      go_ret
      exact ⟨rfl, HBw.out.2⟩
    | false =>
      obtain ⟨-, -, hmx⟩ := much_parts hm2
      have hxk := (hmx x (by simp)).2
      clear hm2 hmx
      go_wp2_with fail
      refine Calls.mono HAf.out ?_
      rintro e w2 ⟨p, rfl, O, h2⟩
      obtain ⟨hwf, hup, hac, hst⟩ := HWf.out
      have HFl : Hid (Calls Try.prog 27 #[.pointer (some ⟨p, 0, none⟩)] w2 fun e w' => e = .returned (.int .i64 0) ∧ One w1 p (flD D0) O w') := by
        have := one_flush h2
        rw [flush_eqD hwf hup] at this
        exact this
      clear HAf h2 HWf
      go_wp2_with fail
      refine Calls.mono HFl.out ?_
      rintro e w3 ⟨rfl, h3⟩
      have HSt : Hid (Calls Try.prog 15 #[.pointer (some ⟨p, 0, none⟩)] w3 fun e w' => ∃ v, e = .returned v ∧ IntsAt w' v (statesD (flD D0)) ∧ (∀ i, v.ownBlock = some i → w3.heap.size ≤ i ∧ i < w'.heap.size) ∧ Below w3.heap.size w3 w') := one_states h3
      have H3 : Hid _ := h3
      clear HFl h3
      go_wp2_with fail
      refine Calls.mono HSt.out ?_
      rintro e w4 ⟨v1, rfl, hi1, hn1, hb4⟩
      have h4 := H3.out.next hb4
      have HAl : Hid (Calls Try.prog 16 #[.pointer (some ⟨p, 0, none⟩)] w4 fun e w' => ∃ v, e = .returned v ∧ TextsAt w' v (allD (flD D0)) ∧ (∀ i, v.ownBlock = some i → w4.heap.size ≤ i ∧ i < w'.heap.size) ∧ Below w4.heap.size w4 w') := all_dev h4.dev
      have H4 : Hid _ := h4
      have HI1 : Hid (IntsAt w4 v1 (statesD (flD D0)) ∧ ∀ i, v1.ownBlock = some i → ¬ O i ∧ i < w4.heap.size) := ⟨hi1, fun i hi => ⟨fun ho => by have := H3.out.hi i ho; have := (hn1 i hi).1; omega, (hn1 i hi).2⟩⟩
      clear HSt hi1 hn1 hb4 H3 h4
      go_wp2_with fail
      refine Calls.mono HAl.out ?_
      rintro e w5 ⟨v2, rfl, hi2, hn2, hb5⟩
      have HSn : Hid (Snap O w5 v1 (statesD (flD D0)) v2 (allD (flD D0))) := ⟨HI1.out.1.below hb5, hi2, fun i hi => by
        rcases hi with hi | hi
        · exact ⟨(HI1.out.2 i hi).1, Nat.lt_of_lt_of_le (HI1.out.2 i hi).2 hb5.size⟩
        · exact ⟨fun ho => by have := H4.out.hi i ho; have := (hn2 i hi).1; omega, (hn2 i hi).2⟩⟩
      have h5 := H4.out.next hb5
      have HCr : Hid (Calls Try.prog 20 #[.pointer (some ⟨p, 0, none⟩), .slice x.ka x.k.length x.kc] w5 fun e w' => e = .returned (.int .i64 0) ∧ One w1 p (dnD D0) O w' ∧ Turn O w5 w') := by
        have := crash_dev h5.dev (HX.out.below h5.below).k (fun hk i hi _ ho => by have := h5.lo i ho; have := HX.out.kb hk i hi; omega)
        rw [dn_crash hup] at this
        exact this.mono fun _ _ hh => ⟨hh.1, h5.turn0 hh.2.1 hh.2.2, hh.2.2⟩
      have c4 := H4c.out w5 h5.below
      clear HAl hi2 hn2 hb5 H4 h5 HI1
      go_wp2_with fail
      refine Calls.mono HCr.out ?_
      rintro e w6 ⟨rfl, h6, t6⟩
      have HSn6 : Hid _ := HSn.out.turn t6
      have HUp : Hid (Calls Try.prog 11 #[.pointer (some ⟨p, 0, none⟩)] w6 fun e w' => e = .returned (.bool false) ∧ w' = w6) := up_dev h6.dev
      have H6 : Hid _ := h6
      clear HCr h6 t6 HSn c4
      go_wp2_with fail
      refine Calls.mono HUp.out ?_
      rintro e w6' ⟨rfl, rfl⟩
      clear HUp
      go_wp2
      go_loopw [10] (fun kk wr => ∃ j : Nat, j ≤ 12 ∧ kk = .int .u8 j ∧ One w1 p (dnD D0) O wr ∧ Snap O wr v1 (statesD (flD D0)) v2 (allD (flD D0))) (fun kk _ => 12 - (intOf kk).toNat)
      case atStart => exact ⟨0, by omega, rfl, H6.out, HSn6.out⟩
      case round =>
        obtain ⟨j, hj, rfl, hO, hSn⟩ := hrel
        clear H6 HSn6
        by_cases hlt : j < 12
        · have hlt2 : (j : Int) < 12 := by omega
          have HN : Hid (One w1 p (dnD D0) O wr ∧ Snap O wr v1 (statesD (flD D0)) v2 (allD (flD D0))) := ⟨hO, hSn⟩
          by_cases h9 : j = 9
          · subst h9
            clear hO hSn
            go_wp2
            go_roundw
            case rel => exact ⟨10, by omega, by go_num, HN.out⟩
            case measure => simp [intOf]
          · by_cases h10 : j = 10
            · subst h10
              clear hO hSn
              go_wp2
              go_roundw
              case rel => exact ⟨11, by omega, by go_num, HN.out⟩
              case measure => simp [intOf]
            · have h9b : ((j : Int) == 9) = false := by have : ¬ (j : Int) = 9 := by omega
                                                        simpa using this
              have h10b : ((j : Int) == 10) = false := by have : ¬ (j : Int) = 10 := by omega
                                                          simpa using this
              have HGx : Hid (wr.heap[w.heap.size]? = some (.cells C 36 (0, 0))) := HC.out wr hO.below
              have HWi : Hid (Calls Try.prog 17 #[.pointer (some ⟨p, 0, none⟩), .agg #[.int .u8 (j : Int), .int .i64 x.i, .int .i64 x.n, .string (S x.s), .slice x.ka x.k.length x.kc]] (wr.alloc (.cells #[.int .u8 (j : Int), .int .i64 x.i, .int .i64 x.n, .string (S x.s), .slice x.ka x.k.length x.kc] 36)) (Tells fun r w' => r = 43 ∧ Below wr.heap.size wr w')) := (with_down (hO.dev.below ((Below.refl _ _).alloc (Nat.le_refl _) _)) rfl j hlt h9 h10 x.i x.n x.s x.ka x.k.length x.kc).mono fun _ _ ⟨r, he, hr, hb⟩ => ⟨r, he, hr, ((Below.refl _ _).alloc (Nat.le_refl _) _).trans (hb.mono (by simp))⟩
              have HI5 : Hid ((Try.prog.info? 36).map (·.size) = some 5) := by show _ = some 5; kernel_rfl
              obtain rfl := HCl.out
              clear hO hSn HCl
              generalize S x.s = A at *
              go_wp2_with (first | (refine store_last rfl 36 (.tmp 11) (.tmp 54) rfl 5 _ _ _ rfl rfl HI5.out rfl hCs HOne.out ?_) | (refine wpList_load_row rfl 36 (.tmp 5) rfl w.heap.size rfl _ _ (0, 0) _ HGx.out Try.underlying36 rfl HIC.out ?_))
              refine Calls.mono HWi.out ?_
              rintro e w7 ⟨r, rfl, rfl, hb⟩
              have HN7 : Hid (One w1 p (dnD D0) O w7 ∧ Snap O w7 v1 (statesD (flD D0)) v2 (allD (flD D0))) := ⟨HN.out.1.next hb, HN.out.2.below hb⟩
              clear hb HWi HN HGx
              go_wp2
              go_roundw
              case rel => exact ⟨j + 1, by omega, by go_num, HN7.out⟩
              case measure => simp [intOf]; omega
        · obtain rfl : j = 12 := by omega
          have c1 := H1c.out wr hO.below
          have HRd : Hid (Calls Try.prog 25 #[.pointer (some ⟨p, 0, none⟩), .int .i64 x.i] wr fun e w' => e = .returned (.tuple #[.string ⟨#[]⟩, .int .i64 43]) ∧ w' = wr) := read_down hO.dev rfl x.i
          have HUp : Hid (Calls Try.prog 11 #[.pointer (some ⟨p, 0, none⟩)] wr fun e w' => e = .returned (.bool false) ∧ w' = wr) := up_dev hO.dev
          have HSt : Hid (Calls Try.prog 26 #[.pointer (some ⟨p, 0, none⟩)] wr fun e w' => e = .returned (.int .i64 0) ∧ One w1 p (suD D0) O w' ∧ Turn O wr w') := by
            have := start_dev hO.dev (show D0.starts < _ by omega)
            rw [su_start] at this
            exact this.mono fun _ _ hh => ⟨hh.1, hO.turn0 hh.2.1 hh.2.2, hh.2.2⟩
          have HSn : Hid _ := hSn
          clear hO hSn
          go_wp2_with fail
          refine Calls.mono HRd.out ?_
          rintro e wr' ⟨rfl, rfl⟩
          clear HRd c1
          go_wp2_with fail
          refine Calls.mono HUp.out ?_
          rintro e wr ⟨rfl, rfl⟩
          clear HUp
          go_wp2_with fail
          refine Calls.mono HSt.out ?_
          rintro e w8 ⟨rfl, h8, t8⟩
          have HSn8 : Hid _ := HSn.out.turn t8
          have HUp : Hid (Calls Try.prog 11 #[.pointer (some ⟨p, 0, none⟩)] w8 fun e w' => e = .returned (.bool true) ∧ w' = w8) := up_dev h8.dev
          have HSt2 : Hid (Calls Try.prog 26 #[.pointer (some ⟨p, 0, none⟩)] w8 fun e w' => e = .returned (.int .i64 2) ∧ One w1 p (suD D0) O w' ∧ Turn O w8 w') := by
            have := start_dev h8.dev (show D0.starts + 1 < _ by omega)
            rw [su_start2] at this
            exact this.mono fun _ _ hh => ⟨hh.1, h8.turn0 hh.2.1 hh.2.2, hh.2.2⟩
          clear HSt HSn h8 t8
          go_wp2_with fail
          refine Calls.mono HUp.out ?_
          rintro e w8' ⟨rfl, rfl⟩
          clear HUp
          go_wp2_with fail
          refine Calls.mono HSt2.out ?_
          rintro e w9 ⟨rfl, h9, t9⟩
          have hS9 := HSn8.out.turn t9
          have HSt : Hid (Calls Try.prog 15 #[.pointer (some ⟨p, 0, none⟩)] w9 fun e w' => ∃ v, e = .returned v ∧ IntsAt w' v (statesD (flD D0)) ∧ (∀ i, v.ownBlock = some i → w9.heap.size ≤ i ∧ i < w'.heap.size) ∧ Below w9.heap.size w9 w') := by
            have := one_states h9
            rw [su_states] at this
            exact this
          have HS9 : Hid _ := hS9
          have H9 : Hid _ := h9
          have HLen : Hid ((statesD (flD D0)).length ≤ 1000000 ∧ (allD (flD D0)).length ≤ 1000000) := by
            obtain ⟨_, _, _, _, _, _, _, hd⟩ := h9.dev
            have h1 : D0.told.length ≤ 512 := hd.small
            exact ⟨by rw [statesD_len]; show D0.told.length ≤ _; omega, by rw [allD_len]; show D0.told.length ≤ _; omega⟩
          clear HSt2 HSn8 h9 t9 hS9
          go_wp2_with fail
          refine Calls.mono HSt.out ?_
          rintro e w10 ⟨v3, rfl, hi3, hn3, hb10⟩
          have HS10 : Hid _ := HS9.out.below hb10
          have H10 : Hid _ := H9.out.next hb10
          have HIn : Hid (Calls Try.prog 18 #[v3, v1] w10 fun e w' => e = .returned (.bool true) ∧ Below w10.heap.size w10 w') := by
            have := ints_cmp hi3 HS10.out.st HLen.out.1
            rw [decide_eq_true rfl] at this
            exact this
          clear HSt hi3 hn3 hb10 HS9 H9
          go_wp2_with fail
          refine Calls.mono HIn.out ?_
          rintro e w11 ⟨rfl, hb11⟩
          have HS11 : Hid _ := HS10.out.below hb11
          have h11 := H10.out.next hb11
          have HAl : Hid (Calls Try.prog 16 #[.pointer (some ⟨p, 0, none⟩)] w11 fun e w' => ∃ v, e = .returned v ∧ TextsAt w' v (allD (flD D0)) ∧ (∀ i, v.ownBlock = some i → w11.heap.size ≤ i ∧ i < w'.heap.size) ∧ Below w11.heap.size w11 w') := by
            have := all_dev h11.dev
            rw [su_all hup] at this
            exact this
          have H11 : Hid _ := h11
          clear HIn hb11 HS10 H10 h11
          go_wp2_with fail
          refine Calls.mono HAl.out ?_
          rintro e w12 ⟨v4, rfl, hi4, hn4, hb12⟩
          have HTx : Hid (Calls Try.prog 19 #[v4, v2] w12 fun e w' => e = .returned (.bool true) ∧ Below w12.heap.size w12 w') := texts_same hi4 (HS11.out.below hb12).tx HLen.out.2
          have H12 : Hid _ := H11.out.next hb12
          clear HAl hi4 hn4 hb12 HS11 H11
          go_wp2_with fail
          refine Calls.mono HTx.out ?_
          rintro e w13 ⟨rfl, hb13⟩
          have H13 : Hid _ := H12.out.next hb13
          have HDo : Hid _ := does_any w13
          clear HTx hb13 H12
          go_wp2_with fail
          refine Calls.mono HDo.out ?_
          rintro e w14 ⟨rfl, hb14⟩
          have HB : Hid (Below w.heap.size w w14) := HBw.out.2.trans ((H13.out.next hb14).below.mono HBw.out.2.size)
          clear HDo hb14 H13
          go_wp2
          go_ret
          exact ⟨rfl, HB.out⟩
theorem down_int {w : World} {a : Option Addr} {xs : List DoX} (h : DosAt w a xs) (c : Nat) (n : Int) (h0 : 0 ≤ n) (h1 : n < 256) (x : DoX) (hx : x.ok w) : Calls Try.prog 7 #[.int .u8 n, .slice a xs.length c, .agg x.v] w fun e w' => e = .returned (.bool true) ∧ Below w.heap.size w w' := by
  obtain ⟨m, rfl⟩ : ∃ m : Nat, n = m := ⟨n.toNat, by omega⟩
  exact down_any h c m (by omega) x hx
end Go.Proofs.Ythlaackalmgfnab
