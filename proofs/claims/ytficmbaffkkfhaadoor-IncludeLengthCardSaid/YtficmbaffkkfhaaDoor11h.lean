/- The law IncludeLength (layer 11). -/
import Derived.Test.YtficmbaffkkfhaaDoor11g
namespace Go.Proofs.YtficmbaffkkfhaaDoor
open Go.RowKit

theorem pr_len {L : List (List UInt8)} {i : Nat} : (prH L i).length = (bes i 0 L.length).length := by rw [← bes_all L, List.length_map]
/-- Behind a full tree, the last leaf's proof is that tree's root. -/
theorem pr_full {L : List (List UInt8)} {n : Nat} (hn : L.length = n + 1) (h1 : 1 ≤ n) (hs : splitN (n + 1) = n) : prH L n = [rootH (L.take n)] := by
  rw [pr_right (by omega) (by rw [hn, hs]; omega), hn, hs, pr_one (by rw [List.length_drop]; omega)]
  rfl
set_option maxRecDepth 100000 in
set_option maxHeartbeats 8000000 in
set_option linter.unusedSimpArgs false in
set_option linter.unusedVariables false in
theorem length_walk (p r : Int) (s : Nat) (w : World) (hK : TabL w) (hp0 : 0 ≤ p) (hp1 : p ≤ 255) (hr0 : 0 ≤ r) (hr1 : r ≤ 255) (hs : s < 4294967296) : Calls Tryd.prog 8 #[.agg #[.int .u8 p, .int .u8 r], .int .u32 s] w fun e w' => e = .returned (.bool true) ∧ Below w.heap.size w w' := by
  obtain ⟨k, hk, hk64⟩ : ∃ k : Nat, p % 64 = (k : Int) ∧ k < 64 := ⟨(p % 64).toNat, by omega, by omega⟩
  obtain ⟨n, hn⟩ : ∃ n : Nat, 1 + k = n := ⟨_, rfl⟩
  obtain ⟨m, hm⟩ : ∃ m : Nat, (m : Int) = r := ⟨r.toNat, by omega⟩
  obtain ⟨i, hi⟩ : ∃ i : Nat, m % n = i := ⟨_, rfl⟩
  have hin : i < n := by rw [← hi]; exact Nat.mod_lt _ (by omega)
  have hwn : Hid (wrap64 (1 + (wrap64 p).tmod 64) = (n : Int)) := by
    show _ = _
    have e1 : wrap64 p = p := by unfold wrap64; omega
    rw [e1, Int.tmod_eq_emod_of_nonneg hp0, hk]
    unfold wrap64
    omega
  have hwi : Hid ((wrap64 r).tmod (n : Int) = (i : Int)) := by
    show _ = _
    have e1 : wrap64 r = r := by unfold wrap64; omega
    rw [e1, Int.tmod_eq_emod_of_nonneg hr0, ← hm, ← hi]
    rfl
  have hn0 : (n : Int) ≠ 0 := by omega
  have hnb : (wrap64 (1 + (wrap64 p).tmod 64) == 0) = false := by rw [hwn.out, beq_eq_false_iff_ne]; exact hn0
  have hnc : ¬ wrap64 (1 + (wrap64 p).tmod 64) = 0 := by rw [hwn.out]; exact hn0
  obtain ⟨w1, hw1⟩ : ∃ w1, w.alloc (.cells #[.int .u8 p, .int .u8 r] 47) = w1 := ⟨_, rfl⟩
  have b1 : Below w.heap.size w w1 := by rw [← hw1]; exact (Below.refl _ _).alloc (Nat.le_refl _) _
  obtain ⟨L, hL⟩ : ∃ L, someL n s = L := ⟨_, rfl⟩
  have hlen : L.length = n := by rw [← hL]; exact some_length _ _
  have h32 : ∀ y ∈ L, y.length = 32 := by rw [← hL]; exact some_32 _ _
  have HL : Hid (L.length = n ∧ n ≤ 64 ∧ 1 ≤ n ∧ i < n ∧ ∀ y ∈ L, y.length = 32) := ⟨hlen, by omega, by omega, hin, h32⟩
  have HSo : Hid (Calls Tryd.prog 15 #[.int .i64 (n : Int), .int .u32 s] w1 fun e w' => ∃ a c, e = .returned (.slice a n c) ∧ Mh w1 w1.heap.size (.slice a n c) L w') := by
    have := some_any (w := w1) n s (hK.below b1 hK.lt) (by omega) hs
    rwa [hL] at this
  have HK : Hid (∀ W, Below w1.heap.size w1 W → TabL W ∧ Below w.heap.size w W) := fun W hW =>
    have hB := b1.trans (hW.mono b1.size)
    ⟨hK.below hB hK.lt, hB⟩
  have HW1 : Hid _ := hw1
  clear hm hi hp0 hp1 hr0 hr1 hL hlen h32 hK hs b1 hw1 hn hk hk64 hin
  go_enter Tryd.func8, Tryd.ntmps8
  go_wp2_with fail
  rw [HW1.out, hwn.out, hwi.out]
  clear hnb hnc hwn hwi HW1
  refine HSo.out.mono ?_
  rintro e w2 ⟨la, lc, rfl, hM⟩
  have hlc : n ≤ lc := by
    obtain ⟨a', c', hsl, hc⟩ := hM.slice
    obtain ⟨-, -, rfl⟩ := Value.slice.inj hsl
    rwa [HL.out.1] at hc
  have HA2 : Hid (∀ W, Below w2.heap.size w2 W → HsAt W (.slice la n lc) L ∧ TabL W ∧ Below w.heap.size w W) := fun W hW =>
    have hB := HK.out W (hM.below.trans (hW.mono hM.below.size))
    ⟨hM.at_.below hW, hB.1, hB.2⟩
  have HPr : Hid (Calls Tryd.prog 9 #[.slice la n lc, .int .i64 (i : Int)] w2 fun e w' => ∃ a c, e = .returned (.tuple #[.slice a (prH L i).length c, .int .i64 0]) ∧ Mh w2 w2.heap.size (.slice a (prH L i).length c) (prH L i) w') := by
    have h := prove_any (L := L) (a := la) (c := lc) i (by rw [HL.out.1]; exact HL.out.2.2.2.1) (HA2.out w2 (Below.refl _ _)).2.1 (by rw [HL.out.1]; exact (HA2.out w2 (Below.refl _ _)).1) (by rw [HL.out.1]; exact hlc) (by have := HL.out.1; have := HL.out.2.1; omega)
    rwa [HL.out.1] at h
  clear hM HSo
  go_wp2_with fail
  refine HPr.out.mono ?_
  rintro e w3 ⟨pa, pc, rfl, hM⟩
  obtain ⟨q, hq⟩ : ∃ q, (prH L i).length = q := ⟨_, rfl⟩
  rw [hq] at hM
  rw [hq]
  have HQ : Hid ((prH L i).length = q ∧ q = (bes i 0 n).length) := ⟨hq, by rw [← hq, pr_len, HL.out.1]⟩
  have H3 : Hid (∀ W, Below w3.heap.size w3 W → HsAt W (.slice la n lc) L ∧ TabL W ∧ Below w.heap.size w W ∧ HsAt W (.slice pa q pc) (prH L i)) := fun W hW =>
    have hB := HA2.out W (hM.below.trans (hW.mono hM.below.size))
    ⟨hB.1, hB.2.1, hB.2.2, hM.at_.below hW⟩
  clear hM HPr hq
  go_wp2
  go_loopw [10, 11, 12] (fun mv lv av wr => wr = w3 ∧ ∃ many s e : Nat, mv = .int .i64 many ∧ lv = .int .i64 ((e - s : Nat) : Int) ∧ av = .int .i64 ((i - s : Nat) : Int) ∧ s ≤ i ∧ i < e ∧ e ≤ n ∧ many + (bes i s e).length = q) (fun _ lv _ _ => (intOf lv).toNat)
  case atStart => exact ⟨rfl, 0, 0, n, rfl, rfl, rfl, Nat.zero_le _, HL.out.2.2.2.1, Nat.le_refl _, by rw [Nat.zero_add]; exact HQ.out.2.symm⟩
  case round =>
    obtain ⟨rfl, many, s, e, rfl, rfl, rfl, hsi, hie, hen, hmq⟩ := hrel
    have hn64 := HL.out.2.1
    obtain ⟨d, hd⟩ : ∃ d, e - s = d := ⟨_, rfl⟩
    obtain ⟨g, hg⟩ : ∃ g, i - s = g := ⟨_, rfl⟩
    rw [hd, hg]
    by_cases h2 : 2 ≤ d
    · obtain ⟨s1, s2, -⟩ := split_ok h2
      obtain ⟨k, hk⟩ : ∃ k, splitN d = k := ⟨_, rfl⟩
      rw [hk] at s1 s2
      have k0 : (d : Int) > 1 := by omega
      have k1 : ¬ (k : Int) < 1 := by omega
      have k2 : ¬ (k : Int) ≥ (d : Int) := by omega
      have HSp : Hid (∀ W, Calls Tryd.prog 20 #[.int .i64 (d : Int)] W fun e w' => e = .returned (.int .i64 (k : Int)) ∧ w' = W) := fun W => by
        have := split_any (d : Int) W (by omega) (by omega)
        rwa [splitZ_nat, hk] at this
      have hwm : Hid (wrap64 ((many : Int) + 1) = ((many + 1 : Nat) : Int)) := by
        show _ = _
        have : many ≤ 64 := by have := bes_short 6 i 0 n (by omega); have := HQ.out.2; omega
        unfold wrap64
        omega
      by_cases hgk : g < k
      · have k3 : (g : Int) < (k : Int) := by omega
        have hb := bes_left (i := i) (s := s) (e := e) (by omega) (by rw [hd, hk]; omega)
        rw [hd, hk] at hb
        have HI : Hid (s + k - s = k ∧ i - s = g ∧ s ≤ i ∧ i < s + k ∧ s + k ≤ n ∧ many + 1 + (bes i s (s + k)).length = q ∧ k < d) := ⟨by omega, hg, hsi, by omega, by omega, by rw [hb, List.length_append, List.length_singleton] at hmq; omega, s2⟩
        clear hb hmq hsi hie hen hd hg s1 s2 hk h2 hgk
        go_wp2_with fail
        refine (HSp.out _).mono ?_
        rintro e' w' ⟨rfl, rfl⟩
        clear HSp
        go_wp2_with (first | (simp only [hwm.out]) | fail)
        go_roundw
        case rel => exact ⟨by first | rfl | trivial, many + 1, s, s + k, by first | rfl | go_num, by rw [HI.out.1], by rw [HI.out.2.1], HI.out.2.2.1, HI.out.2.2.2.1, HI.out.2.2.2.2.1, HI.out.2.2.2.2.2.1⟩
        case measure => simp [intOf]; have := HI.out.2.2.2.2.2.2; omega
      · have k3 : ¬ (g : Int) < (k : Int) := by omega
        have hb := bes_right (i := i) (s := s) (e := e) (by omega) (by rw [hd, hk]; omega)
        rw [hd, hk] at hb
        have HI : Hid (e - (s + k) = d - k ∧ i - (s + k) = g - k ∧ s + k ≤ i ∧ i < e ∧ e ≤ n ∧ many + 1 + (bes i (s + k) e).length = q ∧ d - k < d) := ⟨by omega, by omega, by omega, hie, hen, by rw [hb, List.length_append, List.length_singleton] at hmq; omega, by omega⟩
        have hw1 : Hid (wrap64 ((d : Int) - (k : Int)) = ((d - k : Nat) : Int)) := by show _ = _; unfold wrap64; omega
        have hw2 : Hid (wrap64 ((g : Int) - (k : Int)) = ((g - k : Nat) : Int)) := by show _ = _; unfold wrap64; omega
        clear hb hmq hsi hie hen hd hg s1 s2 hk h2 hgk
        go_wp2_with fail
        refine (HSp.out _).mono ?_
        rintro e' w' ⟨rfl, rfl⟩
        clear HSp
        go_wp2_with (first | (simp only [hwm.out, hw1.out, hw2.out]) | fail)
        go_roundw
        case rel => exact ⟨by first | rfl | trivial, many + 1, s + k, e, by first | rfl | go_num, by rw [HI.out.1], by rw [HI.out.2.1], HI.out.2.2.1, HI.out.2.2.2.1, HI.out.2.2.2.2.1, HI.out.2.2.2.2.2.1⟩
        case measure => simp [intOf]; have := HI.out.2.2.2.2.2.2; omega
    · have hbz : bes i s e = [] := bes_one (by omega)
      rw [hbz, List.length_nil, Nat.add_zero] at hmq
      subst hmq
      have k0 : ¬ (d : Int) > 1 := by omega
      clear hd hg h2 hsi hie hen hbz
      have HD : Hid (∀ W, Below wr.heap.size wr W → Calls Tryd.prog 12 #[] W fun e w' => e = .returned (.bool true) ∧ Below W.heap.size W w') := fun W hW => does11_any W (H3.out W hW).2.1
      have hwn1 : Hid (wrap64 ((n : Int) - 1) = ((n - 1 : Nat) : Int)) := by show _ = _; have := HL.out.2.2.1; unfold wrap64; omega
      have HB3 : Hid (Below wr.heap.size wr wr) := Below.refl _ _
      by_cases hn1 : 1 < n
      · have k1 : (n : Int) > 1 := by omega
        obtain ⟨K, hK⟩ : ∃ K, splitN n = K := ⟨_, rfl⟩
        have HSn : Hid (∀ W, Calls Tryd.prog 20 #[.int .i64 (n : Int)] W fun e w' => e = .returned (.int .i64 (K : Int)) ∧ w' = W) := fun W => by
          have := split_any (n : Int) W (by omega) (by omega)
          rwa [splitZ_nat, hK] at this
        by_cases hf : K = n - 1
        · by_cases hf2 : i = n - 1
          · have HFu : Hid (prH L i = [rootH (L.take (n - 1))]) := by
              show _ = _
              have h := pr_full (L := L) (n := n - 1) (by rw [HL.out.1]; omega) (by omega) (by rw [show n - 1 + 1 = n by omega, hK, hf])
              rw [hf2]; exact h
            have hm1 : many = 1 := by have := HQ.out.1; rw [HFu.out] at this; simpa using this.symm
            subst hm1
            have hr32 : (rootH (L.take (n - 1))).length = 32 := rootH_32 (fun x hx => HL.out.2.2.2.2 x (List.mem_of_mem_take hx))
            have hpa := (H3.out wr (Below.refl _ _)).2.2.2
            rw [HFu.out] at hpa
            obtain ⟨-, pb, po, rfl, -⟩ := hpa.cells.2 0 _ rfl
            have HRp : Hid (∀ W, Below wr.heap.size wr W → W.rangeAt pb po (hv (rootH (L.take (n - 1)))).toList) := fun W hW => by
              have h := (H3.out W hW).2.2.2
              rw [HFu.out] at h
              obtain ⟨-, b', o', e, hr⟩ := h.cells.2 0 _ rfl
              simp at e
              obtain ⟨rfl, rfl⟩ := e
              have := hr W (Below.refl _ _)
              rwa [Nat.zero_mul, Nat.add_zero] at this
            have HRt : Hid (∀ W, Below wr.heap.size wr W → Calls Tryd.prog 16 #[.slice la (n - 1) lc] W fun e w' => e = .returned (.agg (hv (rootH (L.take (n - 1))))) ∧ Below W.heap.size W w') := fun W hW =>
              root_any (H3.out W hW).2.1 ((H3.out W hW).1.take (n - 1) (by omega)) (fun a n c e => by have := Value.slice.inj e; omega) (by rw [List.length_take]; omega)
            have heq : ∀ w9 : World, (binOp .eql 23 (.agg (hv (rootH (L.take (n - 1))))) (.agg (hv (rootH (L.take (n - 1)))))).run Tryd.prog w9 = .ok (.bool true) w9 := fun w9 => by
              have := eqH w9 _ _ hr32 hr32
              rwa [beq_self_eq_true] at this
            have hrs : (hv (rootH (L.take (n - 1)))).size = 32 := by rw [hv_size, hr32]
            have icr : Hid ((Tryd.prog.info? 23).map (·.size) = some (hv (rootH (L.take (n - 1)))).toList.length) := by show _ = _; rw [info_h32, Array.length_toList, hrs]
            have k7 : (0 : Int) ≤ ((n - 1 : Nat) : Int) := by omega
            have k8 : ((n - 1 : Nat) : Int) ≤ (lc : Int) := by omega
            have k9 : n - 1 ≤ lc := by omega
            have k5 : ((K : Int) = (n : Int) - 1) = True := eq_true (by omega)
            have k5a : ((K : Int) == (n : Int) - 1) = true := by rw [beq_iff_eq]; omega
            have k5b : decide ((K : Int) = (n : Int) - 1) = true := by rw [decide_eq_true_iff]; omega
            have k6 : ((i : Int) = (n : Int) - 1) = True := eq_true (by omega)
            have k6a : ((i : Int) == (n : Int) - 1) = true := by rw [beq_iff_eq]; omega
            have k6b : decide ((i : Int) = (n : Int) - 1) = true := by rw [decide_eq_true_iff]; omega
            have hnu : Hid (IntKind.i64.wrap ((n : Int) - 1) = ((n - 1 : Nat) : Int)) := by show _ = _; rw [IntKind.wrap_i64]; omega
            clear hK HFu hr32 hpa hlc
            subst hf hf2
            generalize hv (rootH (L.take (n - 1))) = RR at *
            generalize n - 1 = u at *
            go_wp2_with fail
            refine (HSn.out _).mono ?_
            rintro e' w' ⟨rfl, rfl⟩
            clear HSn
            go_upto_region 18 with fail
            refine wp_region_held (S := Below w'.heap.size w') (by kernel_rfl) ?_
            change wpAnyH _ _ _ _ _ _ _ _ (World.drew _)
            have HX : Below w'.heap.size w' w'.drew := HB3.out.drew
            clear HB3
            generalize World.drew _ = y0 at *
            refine wpAnyH_take (i := 0) (v := .slice (some ⟨pb, po, none⟩) 1 pc) rfl (by kernel_rfl) (by kernel_rfl) (by kernel_rfl) (fun _ _ _ h => h) (Or.inl ⟨by rfl, by intro w9 _; go_simp⟩) HX ?_
            simp only [List.getElem_toArray, List.getElem_cons_succ, List.getElem_cons_zero, Act.put, List.setIfInBounds_toArray, List.set_cons_zero, List.set_cons_succ]
            refine wpAnyH_take (i := 1) (v := .int .i64 1) rfl (by kernel_rfl) (by kernel_rfl) (by kernel_rfl) (fun _ _ _ h => h) (Or.inl ⟨by rfl, by intro w9 _; go_simp⟩) HX ?_
            simp only [List.getElem_toArray, List.getElem_cons_succ, List.getElem_cons_zero, Act.put, List.setIfInBounds_toArray, List.set_cons_zero, List.set_cons_succ]
            refine wpAnyH_take (i := 2) (v := .bool true) rfl (by kernel_rfl) (by kernel_rfl) (by kernel_rfl) (fun _ _ _ h => h) (Or.inl ⟨by rfl, by intro w9 _; go_simp⟩) HX ?_
            simp only [List.getElem_toArray, List.getElem_cons_succ, List.getElem_cons_zero, Act.put, List.setIfInBounds_toArray, List.set_cons_zero, List.set_cons_succ]
            refine wpAnyH_take (i := 3) (v := .bool true) rfl (by kernel_rfl) (by kernel_rfl) (by kernel_rfl) (fun _ _ _ h => h) (Or.inl ⟨by rfl, by intro w9 _; go_simp⟩) HX ?_
            simp only [List.getElem_toArray, List.getElem_cons_succ, List.getElem_cons_zero, Act.put, List.setIfInBounds_toArray, List.set_cons_zero, List.set_cons_succ]
            refine wpAnyH_take (i := 4) (v := .slice (some ⟨pb, po, none⟩) 1 pc) rfl (by kernel_rfl) (by kernel_rfl) (by kernel_rfl) (fun _ _ _ h => h) (Or.inl ⟨by rfl, by intro w9 _; go_simp⟩) HX ?_
            simp only [List.getElem_toArray, List.getElem_cons_succ, List.getElem_cons_zero, Act.put, List.setIfInBounds_toArray, List.set_cons_zero, List.set_cons_succ]
            refine wpAnyH_take (i := 5) (v := .pointer (some ⟨pb, po, none⟩)) rfl (by kernel_rfl) (by kernel_rfl) (by kernel_rfl) (fun _ _ _ h => h) (Or.inl ⟨by rfl, by intro w9 _; go_simp⟩) HX ?_
            simp only [List.getElem_toArray, List.getElem_cons_succ, List.getElem_cons_zero, Act.put, List.setIfInBounds_toArray, List.set_cons_zero, List.set_cons_succ]
            refine wpAnyH_take (i := 6) (v := .agg RR) rfl (by kernel_rfl) (by kernel_rfl) (by kernel_rfl) (fun _ _ _ h => h) (yieldsIf_load_mid (by rfl) 23 _ rfl pb po rfl RR.toList _ (fun w' h => HRp.out w' h) Tryd.underlying23 rfl icr.out) HX ?_
            simp only [List.getElem_toArray, List.getElem_cons_succ, List.getElem_cons_zero, Act.put, List.setIfInBounds_toArray, List.set_cons_zero, List.set_cons_succ]
            refine wpAnyH_take (i := 7) (v := .slice la n lc) rfl (by kernel_rfl) (by kernel_rfl) (by kernel_rfl) (fun _ _ _ h => h) (Or.inl ⟨by rfl, by intro w9 _; go_simp⟩) HX ?_
            simp only [List.getElem_toArray, List.getElem_cons_succ, List.getElem_cons_zero, Act.put, List.setIfInBounds_toArray, List.set_cons_zero, List.set_cons_succ]
            refine wpAnyH_take (i := 8) (v := .int .i64 (n : Int)) rfl (by kernel_rfl) (by kernel_rfl) (by kernel_rfl) (fun _ _ _ h => h) (Or.inl ⟨by rfl, by intro w9 _; go_simp⟩) HX ?_
            simp only [List.getElem_toArray, List.getElem_cons_succ, List.getElem_cons_zero, Act.put, List.setIfInBounds_toArray, List.set_cons_zero, List.set_cons_succ]
            refine wpAnyH_take (i := 9) (v := .int .i64 (u : Int)) rfl (by kernel_rfl) (by kernel_rfl) (by kernel_rfl) (fun _ _ _ h => h) (Or.inl ⟨by rfl, by intro w9 _; have q9 := hnu.out; go_simp⟩) HX ?_
            simp only [List.getElem_toArray, List.getElem_cons_succ, List.getElem_cons_zero, Act.put, List.setIfInBounds_toArray, List.set_cons_zero, List.set_cons_succ]
            refine wpAnyH_take (i := 10) (v := .slice la u lc) rfl (by kernel_rfl) (by kernel_rfl) (by kernel_rfl) (fun _ _ _ h => h) (Or.inl ⟨by rfl, by intro w9 _; go_simp⟩) HX ?_
            simp only [List.getElem_toArray, List.getElem_cons_succ, List.getElem_cons_zero, Act.put, List.setIfInBounds_toArray, List.set_cons_zero, List.set_cons_succ]
            refine wpAnyH_ready (rs := [11]) (by kernel_rfl) (by simp) (AllReadyH.cons (by simp only [List.getElem?_toArray, List.getElem?_cons_succ, List.getElem?_cons_zero]; rfl) (fun K hK => ?_) AllReadyH.nil)
            refine step_want (by rfl) ?_
            go_simp
            refine (HRt.out _ HX).mono ?_
            rintro e' y1 ⟨rfl, bc⟩
            have HX : Below w'.heap.size w' y1 := HX.trans (bc.mono HX.size)
            clear bc
            refine hK.out _ _ HX (fun _ => ?_)
            clear hK K
            try simp only [List.getElem_toArray, List.getElem_cons_succ, List.getElem_cons_zero, Act.put, List.setIfInBounds_toArray, List.set_cons_zero, List.set_cons_succ]
            refine wpAnyH_take (i := 12) (v := .bool true) rfl (by kernel_rfl) (by kernel_rfl) (by kernel_rfl) (fun _ _ _ h => h) (Or.inl ⟨by rfl, by intro w9 _; go_simp⟩) HX ?_
            simp only [List.getElem_toArray, List.getElem_cons_succ, List.getElem_cons_zero, Act.put, List.setIfInBounds_toArray, List.set_cons_zero, List.set_cons_succ]
            refine wpAnyH_take (i := 13) (v := .bool true) rfl (by kernel_rfl) (by kernel_rfl) (by kernel_rfl) (fun _ _ _ h => h) (Or.inl ⟨by rfl, by intro w9 _; go_simp⟩) HX ?_
            simp only [List.getElem_toArray, List.getElem_cons_succ, List.getElem_cons_zero, Act.put, List.setIfInBounds_toArray, List.set_cons_zero, List.set_cons_succ]
            refine wpAnyH_take (i := 14) (v := .bool true) rfl (by kernel_rfl) (by kernel_rfl) (by kernel_rfl) (fun _ _ _ h => h) (Or.inl ⟨by rfl, by intro w9 _; go_simp⟩) HX ?_
            simp only [List.getElem_toArray, List.getElem_cons_succ, List.getElem_cons_zero, Act.put, List.setIfInBounds_toArray, List.set_cons_zero, List.set_cons_succ]
            refine wpAnyH_ready (rs := [15]) (by kernel_rfl) (by simp) (AllReadyH.cons (by simp only [List.getElem?_toArray, List.getElem?_cons_succ, List.getElem?_cons_zero]; rfl) (fun K hK => ?_) AllReadyH.nil)
            refine step_want (by rfl) ?_
            go_simp
            refine (HD.out _ HX).mono ?_
            rintro e' y2 ⟨rfl, bc⟩
            have HX : Below w'.heap.size w' y2 := HX.trans (bc.mono HX.size)
            clear bc
            refine hK.out _ _ HX (fun _ => ?_)
            clear hK K
            try simp only [List.getElem_toArray, List.getElem_cons_succ, List.getElem_cons_zero, Act.put, List.setIfInBounds_toArray, List.set_cons_zero, List.set_cons_succ]
            refine wpAnyH_take (i := 16) (v := .bool true) rfl (by kernel_rfl) (by kernel_rfl) (by kernel_rfl) (fun _ _ _ h => h) (Or.inl ⟨by rfl, by intro w9 _; go_simp⟩) HX ?_
            simp only [List.getElem_toArray, List.getElem_cons_succ, List.getElem_cons_zero, Act.put, List.setIfInBounds_toArray, List.set_cons_zero, List.set_cons_succ]
            refine wpAnyH_take (i := 17) (v := .bool true) rfl (by kernel_rfl) (by kernel_rfl) (by kernel_rfl) (fun _ _ _ h => h) (Or.inl ⟨by rfl, by intro w9 _; go_simp⟩) HX ?_
            simp only [List.getElem_toArray, List.getElem_cons_succ, List.getElem_cons_zero, Act.put, List.setIfInBounds_toArray, List.set_cons_zero, List.set_cons_succ]
            refine wpAnyH_done (by kernel_rfl) ?_ _
            have HF : Hid (Below w.heap.size w y2) := (H3.out _ HX).2.2.1
            clear HX
            go_wp2
            go_ret
            exact ⟨rfl, HF.out⟩
          · have k5 : ((K : Int) = (n : Int) - 1) = True := eq_true (by omega)
            have k5a : ((K : Int) == (n : Int) - 1) = true := by rw [beq_iff_eq]; omega
            have k5b : decide ((K : Int) = (n : Int) - 1) = true := by rw [decide_eq_true_iff]; omega
            have k6 : ((i : Int) = (n : Int) - 1) = False := eq_false (by omega)
            have k6a : ((i : Int) == (n : Int) - 1) = false := by rw [beq_eq_false_iff_ne]; omega
            have k6b : decide ((i : Int) = (n : Int) - 1) = false := by rw [decide_eq_false_iff_not]; omega
            clear hK hf hf2
            go_wp2_with fail
            refine (HSn.out _).mono ?_
            rintro e' w' ⟨rfl, rfl⟩
            clear HSn
            go_wp2_with fail
            refine (HD.out _ HB3.out).mono ?_
            rintro e' w' ⟨rfl, bc⟩
            have HF : Hid (Below w.heap.size w w') := (H3.out _ bc).2.2.1
            clear bc HD
            go_wp2
            go_ret
            exact ⟨rfl, HF.out⟩
        · have k5 : ((K : Int) = (n : Int) - 1) = False := eq_false (by omega)
          have k5a : ((K : Int) == (n : Int) - 1) = false := by rw [beq_eq_false_iff_ne]; omega
          have k5b : decide ((K : Int) = (n : Int) - 1) = false := by rw [decide_eq_false_iff_not]; omega
          clear hK hf
          go_wp2_with fail
          refine (HSn.out _).mono ?_
          rintro e' w' ⟨rfl, rfl⟩
          clear HSn
          go_wp2_with fail
          refine (HD.out _ HB3.out).mono ?_
          rintro e' w' ⟨rfl, bc⟩
          have HF : Hid (Below w.heap.size w w') := (H3.out _ bc).2.2.1
          clear bc HD
          go_wp2
          go_ret
          exact ⟨rfl, HF.out⟩
      · have k1 : ¬ (n : Int) > 1 := by omega
        clear hn1
        go_wp2_with fail
        refine (HD.out _ HB3.out).mono ?_
        rintro e' w' ⟨rfl, bc⟩
        have HF : Hid (Below w.heap.size w w') := (H3.out _ bc).2.2.1
        clear bc HD
        go_wp2
        go_ret
        exact ⟨rfl, HF.out⟩
theorem length_law (p r s : Int) (w : World) (hK : TabL w) (hp : 0 ≤ p ∧ p ≤ 255) (hr : 0 ≤ r ∧ r ≤ 255) (hs : 0 ≤ s ∧ s ≤ 4294967295) : Calls Tryd.prog 8 #[.agg #[.int .u8 p, .int .u8 r], .int .u32 s] w fun e w' => e = .returned (.bool true) ∧ Below w.heap.size w w' := by
  obtain ⟨m, rfl⟩ := Int.eq_ofNat_of_zero_le hs.1
  exact length_walk p r m w hK hp.1 hp.2 hr.1 hr.2 (by omega)
end Go.Proofs.YtficmbaffkkfhaaDoor
