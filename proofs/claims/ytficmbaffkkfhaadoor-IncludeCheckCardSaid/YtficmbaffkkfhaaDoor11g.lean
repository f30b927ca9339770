/- The law IncludeAll (layer 11). -/
import Derived.Test.YtficmbaffkkfhaaDoor11f
namespace Go.Proofs.YtficmbaffkkfhaaDoor
open Go.RowKit

theorem pr_short {L : List (List UInt8)} {i d : Nat} (h : L.length ≤ 2 ^ d) : (prH L i).length ≤ d := by
  rw [← bes_all L, List.length_map]
  exact bes_short d i 0 L.length (by omega)
theorem ck_ok {L : List (List UInt8)} {x : List UInt8} {i n : Nat} (hx : L[i]? = some x) (hn : L.length = n) : ckE x (i : Int) (n : Int) (prH L i) (rootH L) = 0 := by
  have hi := (List.getElem?_eq_some_iff.1 hx).1
  subst hn
  rw [ckE, if_pos (by omega), Int.toNat_natCast, Int.toNat_natCast, if_pos (pr_checks hx)]
theorem shl_small : ∀ q : Fin 7, IntKind.i64.wrap ((2 : Int) ^ q.val) = ((2 ^ q.val : Nat) : Int) ∧ 2 ^ q.val ≤ 64 := by decide +kernel
set_option maxRecDepth 100000 in
set_option maxHeartbeats 8000000 in
set_option linter.unusedSimpArgs false in
set_option linter.unusedVariables false in
theorem all_walk (p : Int) (s : Nat) (w : World) (hK : TabL w) (hp0 : 0 ≤ p) (hp1 : p ≤ 255) (hs : s < 4294967296) : Calls Tryd.prog 5 #[.int .u8 p, .int .u32 s] w fun e w' => e = .returned (.bool true) ∧ Below w.heap.size w w' := by
  obtain ⟨k, hk, hk40⟩ : ∃ k : Nat, p % 40 = (k : Int) ∧ k < 40 := ⟨(p % 40).toNat, by omega, by omega⟩
  obtain ⟨n, hn⟩ : ∃ n : Nat, 1 + k = n := ⟨_, rfl⟩
  have hwn : Hid (wrap64 (1 + (wrap64 p).tmod 40) = (n : Int)) := by
    show _ = _
    have e1 : wrap64 p = p := by unfold wrap64; omega
    rw [e1, Int.tmod_eq_emod_of_nonneg hp0, hk]
    unfold wrap64
    omega
  obtain ⟨L, hL⟩ : ∃ L, someL n s = L := ⟨_, rfl⟩
  have hlen : L.length = n := by rw [← hL]; exact some_length _ _
  have h32 : ∀ y ∈ L, y.length = 32 := by rw [← hL]; exact some_32 _ _
  have HSo : Hid (Calls Tryd.prog 15 #[.int .i64 (n : Int), .int .u32 s] w fun e w' => ∃ a c, e = .returned (.slice a n c) ∧ Mh w w.heap.size (.slice a n c) L w') := by
    have := some_any (w := w) n s hK (by omega) hs
    rwa [hL] at this
  have HK : Hid (∀ W, Below w.heap.size w W → TabL W) := fun W hW => hK.below hW hK.lt
  have r32 : (rootH L).length = 32 := rootH_32 h32
  have HL : Hid (L.length = n ∧ n ≤ 40 ∧ ∀ y ∈ L, y.length = 32) := ⟨hlen, by omega, h32⟩
  have e4 : (hv (rootH L)).size = 32 := by rw [hv_size, r32]
  have e5 := hv_one (rootH L)
  have hzs := hz_size
  have icr : Hid ((Tryd.prog.info? 23).map (·.size) = some (hv (rootH L)).toList.length) := by show _ = _; rw [info_h32, Array.length_toList, e4]
  clear hn hk40 hp0 hp1 hL hlen h32 hK hs
  go_enter Tryd.func5, Tryd.ntmps5
  go_wp2_with fail
  rw [hwn.out]
  clear hwn hk
  refine HSo.out.mono ?_
  rintro e w2 ⟨la, lc, rfl, hM⟩
  have hlc : n ≤ lc := by
    obtain ⟨a', c', hsl, hc⟩ := hM.slice
    obtain ⟨-, -, rfl⟩ := Value.slice.inj hsl
    rwa [HL.out.1] at hc
  have HA2 : Hid (∀ W, Below w2.heap.size w2 W → HsAt W (.slice la n lc) L ∧ TabL W ∧ Below w.heap.size w W) := fun W hW =>
    have hB := hM.below.trans (hW.mono hM.below.size)
    ⟨hM.at_.below hW, HK.out W hB, hB⟩
  clear hM HSo
  go_wp2_with fail
  refine (root_any (HA2.out _ (Below.refl _ _)).2.1 (HA2.out _ (Below.refl _ _)).1 (fun a n c e => by have := Value.slice.inj e; omega) (by have := HL.out; omega)).mono ?_
  rintro e w3 ⟨rfl, b3⟩
  obtain ⟨w4, hw4, b4, g4⟩ := hash_box w3
  obtain ⟨w5, hw5⟩ : ∃ w5, w4.setRow w3.heap.size (hv (rootH L)) = w5 := ⟨_, rfl⟩
  have b5 : Below w3.heap.size w3 w5 := by rw [← hw5]; exact below_setRow b4 (Nat.le_refl _) _
  have g5 : w5.heap[w3.heap.size]? = some (.cells (hv (rootH L)) 23 (0, 0)) := by rw [← hw5]; exact heap_setRow_same g4
  have b25 : Below w2.heap.size w2 w5 := b3.trans (b5.mono b3.size)
  have HG : Hid (∀ W, Below w5.heap.size w5 W → HsAt W (.slice la n lc) L ∧ TabL W ∧ Below w.heap.size w W ∧ W.rangeAt w3.heap.size 0 (hv (rootH L)).toList) := fun W hW => by
    have h := HA2.out W (b25.trans (hW.mono b25.size))
    refine ⟨h.1, h.2.1, h.2.2, ?_⟩
    exact range_row ((hW.block _ (Array.getElem?_eq_some_iff.1 g5).1).trans g5)
  have HX5 : Hid (Below w5.heap.size w5 w5) := Below.refl _ _
  have HPr : Hid (∀ (W : World) (i : Nat), Below w5.heap.size w5 W → i < n → Calls Tryd.prog 9 #[.slice la n lc, .int .i64 (i : Int)] W fun e w' => ∃ a c, e = .returned (.tuple #[.slice a (prH L i).length c, .int .i64 0]) ∧ Mh W W.heap.size (.slice a (prH L i).length c) (prH L i) w') := fun W i hW hi => by
    have h := prove_any (L := L) (a := la) (c := lc) i (by have := HL.out; omega) (HG.out W hW).2.1 (by rw [HL.out.1]; exact (HG.out W hW).1) (by have := HL.out; omega) (by have := HL.out; omega)
    rwa [HL.out.1] at h
  have HC : Hid (∀ (W : World) (i q : Nat) (x : List UInt8) (a : Option Addr) (c : Nat), Below w5.heap.size w5 W → L[i]? = some x → (prH L i).length = q → q ≤ c → HsAt W (.slice a q c) (prH L i) → Calls Tryd.prog 13 #[.agg (hv x), .int .i64 (i : Int), .int .i64 (n : Int), .slice a q c, .agg (hv (rootH L))] W fun e w' => e = .returned (.int .i64 0) ∧ Below W.heap.size W w') := fun W i q x a c hW hx hq hqc hA => by
    subst hq
    have h := check_any (r := rootH L) (i : Int) (n : Int) (by have := HL.out; omega) (HL.out.2.2 x (List.mem_of_getElem? hx)) r32 (HG.out W hW).2.1 hA hqc (Nat.le_trans (pr_short (d := 6) (by have := HL.out; omega)) (by decide))
    rwa [ck_ok hx HL.out.1] at h
  have HD : Hid (∀ W, Below w5.heap.size w5 W → Calls Tryd.prog 12 #[] W fun e w' => e = .returned (.bool true) ∧ Below W.heap.size W w') := fun W hW => does11_any W (HG.out W hW).2.1
  rw [zero_h32] at hw4 g4 hzs
  have hzr := hzs.trans e4.symm
  clear b3 b4 b5 g5 b25 HA2 r32 HK hzs
  generalize hRR : hv (rootH L) = RR at *
  clear hRR
  go_wp2_with (first | (refine wpList_store_row rfl 23 _ _ rfl w3.heap.size RR rfl rfl _ _ g4 (by rw [info_h32, e4]) hzr e5 ?_) | fail)
  go_loopw [8] (fun iv wr => ∃ i : Nat, i ≤ n ∧ iv = .int .i64 i ∧ Below w5.heap.size w5 wr) (fun iv _ => n - (intOf iv).toNat)
  case atStart => exact ⟨0, Nat.zero_le _, rfl, HX5.out⟩
  case round =>
    obtain ⟨i, hi, rfl, hB⟩ := hrel
    clear HX5 hw4 hw5
    have HB : Hid (Below w5.heap.size w5 wr) := hB
    clear hB
    by_cases hi2 : i < n
    · have k0 : (i : Int) < (n : Int) := by omega
      have k1 : (0 : Int) ≤ (i : Int) := by omega
      go_wp2_with fail
      refine (HPr.out wr i HB.out hi2).mono ?_
      rintro e w8 ⟨pa, pc, rfl, hM⟩
      obtain ⟨q, hq⟩ : ∃ q, (prH L i).length = q := ⟨_, rfl⟩
      rw [hq]
      have hqc : q ≤ pc := by
        obtain ⟨a', c', hsl, hc⟩ := hM.slice
        obtain ⟨-, -, rfl⟩ := Value.slice.inj hsl
        rwa [hq] at hc
      have hq6 : q ≤ 6 := by rw [← hq]; exact pr_short (by have := HL.out; omega)
      rw [hq] at hM
      obtain ⟨x, hx⟩ : ∃ x, L[i]? = some x := ⟨_, List.getElem?_eq_getElem (by have := HL.out; omega)⟩
      obtain ⟨-, b1, o1, rfl, -⟩ := (HG.out wr HB.out).1.cells.2 i x hx
      have h58 : Below w5.heap.size w5 w8 := HB.out.trans (hM.below.mono HB.out.size)
      have H8 : Hid (∀ W, Below w8.heap.size w8 W → Below w5.heap.size w5 W ∧ HsAt W (.slice pa q pc) (prH L i)) := fun W hW => ⟨h58.trans (hW.mono h58.size), hM.at_.below hW⟩
      have HRx : Hid (∀ W, Below w8.heap.size w8 W → W.rangeAt b1 (o1 + i * 32) (hv x).toList) := fun W hW => by
        obtain ⟨-, b', o', e, hr⟩ := (HG.out W (H8.out W hW).1).1.cells.2 i x hx
        simp at e
        obtain ⟨rfl, rfl⟩ := e
        exact hr W (Below.refl _ _)
      have HRr : Hid (∀ W, Below w8.heap.size w8 W → W.rangeAt w3.heap.size 0 RR.toList) := fun W hW => (HG.out W (H8.out W hW).1).2.2.2
      have HCx : Hid (∀ W, Below w8.heap.size w8 W → Calls Tryd.prog 13 #[.agg (hv x), .int .i64 (i : Int), .int .i64 (n : Int), .slice pa q pc, .agg RR] W fun e w' => e = .returned (.int .i64 0) ∧ Below W.heap.size W w') := fun W hW => HC.out W i q x pa pc (H8.out W hW).1 hx hq hqc (H8.out W hW).2
      have hxs : (hv x).size = 32 := by rw [hv_size, HL.out.2.2 x (List.mem_of_getElem? hx)]
      have icx : Hid ((Tryd.prog.info? 23).map (·.size) = some (hv x).toList.length) := by show _ = _; rw [info_h32, Array.length_toList, hxs]
      have HX8 : Hid (Below w8.heap.size w8 w8) := Below.refl _ _
      obtain ⟨G, hg1, hg3⟩ : ∃ G : Nat, Hid (IntKind.i64.wrap ((2 : Int) ^ q) = (G : Int)) ∧ (G : Int) < 128 := by
        have h := shl_small ⟨q, Nat.lt_of_le_of_lt hq6 (by decide)⟩
        exact ⟨2 ^ q, h.1, Int.ofNat_lt.2 (Nat.lt_of_le_of_lt h.2 (by decide))⟩
      clear hx hM h58 hq hqc
      generalize hv x = X at *
      go_upto_region 8 with fail
      refine wp_region_held (S := Below w8.heap.size w8) (by kernel_rfl) ?_
      change wpAnyH _ _ _ _ _ _ _ _ (World.drew _)
      have HX : Below w8.heap.size w8 w8.drew := HX8.out.drew
      clear HX8
      generalize World.drew _ = y0 at *
      refine wpAnyH_take (i := 0) (v := .int .i64 0) rfl (by kernel_rfl) (by kernel_rfl) (by kernel_rfl) (fun _ _ _ h => h) (Or.inl ⟨by rfl, by intro w9 _; go_simp⟩) HX ?_
      simp only [List.getElem_toArray, List.getElem_cons_succ, List.getElem_cons_zero, Act.put, List.setIfInBounds_toArray, List.set_cons_zero, List.set_cons_succ]
      refine wpAnyH_take (i := 1) (v := .bool false) rfl (by kernel_rfl) (by kernel_rfl) (by kernel_rfl) (fun _ _ _ h => h) (Or.inl ⟨by rfl, by intro w9 _; go_simp⟩) HX ?_
      simp only [List.getElem_toArray, List.getElem_cons_succ, List.getElem_cons_zero, Act.put, List.setIfInBounds_toArray, List.set_cons_zero, List.set_cons_succ]
      refine wpAnyH_take (i := 2) (v := .bool false) rfl (by kernel_rfl) (by kernel_rfl) (by kernel_rfl) (fun _ _ _ h => h) (Or.inl ⟨by rfl, by intro w9 _; go_simp⟩) HX ?_
      simp only [List.getElem_toArray, List.getElem_cons_succ, List.getElem_cons_zero, Act.put, List.setIfInBounds_toArray, List.set_cons_zero, List.set_cons_succ]
      refine wpAnyH_take (i := 3) (v := .slice pa q pc) rfl (by kernel_rfl) (by kernel_rfl) (by kernel_rfl) (fun _ _ _ h => h) (Or.inl ⟨by rfl, by intro w9 _; go_simp⟩) HX ?_
      simp only [List.getElem_toArray, List.getElem_cons_succ, List.getElem_cons_zero, Act.put, List.setIfInBounds_toArray, List.set_cons_zero, List.set_cons_succ]
      refine wpAnyH_take (i := 4) (v := .int .i64 (q : Int)) rfl (by kernel_rfl) (by kernel_rfl) (by kernel_rfl) (fun _ _ _ h => h) (Or.inl ⟨by rfl, by intro w9 _; go_simp⟩) HX ?_
      simp only [List.getElem_toArray, List.getElem_cons_succ, List.getElem_cons_zero, Act.put, List.setIfInBounds_toArray, List.set_cons_zero, List.set_cons_succ]
      refine wpAnyH_take (i := 5) (v := .int .i64 (G : Int)) rfl (by kernel_rfl) (by kernel_rfl) (by kernel_rfl) (fun _ _ _ h => h) (Or.inl ⟨by rfl, by intro w9 _; have g9 := hg1.out; go_simp⟩) HX ?_
      simp only [List.getElem_toArray, List.getElem_cons_succ, List.getElem_cons_zero, Act.put, List.setIfInBounds_toArray, List.set_cons_zero, List.set_cons_succ]
      refine wpAnyH_take (i := 6) (v := .bool false) rfl (by kernel_rfl) (by kernel_rfl) (by kernel_rfl) (fun _ _ _ h => h) (Or.inl ⟨by rfl, by intro w9 _; go_simp⟩) HX ?_
      simp only [List.getElem_toArray, List.getElem_cons_succ, List.getElem_cons_zero, Act.put, List.setIfInBounds_toArray, List.set_cons_zero, List.set_cons_succ]
      refine wpAnyH_take (i := 7) (v := .bool false) rfl (by kernel_rfl) (by kernel_rfl) (by kernel_rfl) (fun _ _ _ h => h) (Or.inl ⟨by rfl, by intro w9 _; go_simp⟩) HX ?_
      simp only [List.getElem_toArray, List.getElem_cons_succ, List.getElem_cons_zero, Act.put, List.setIfInBounds_toArray, List.set_cons_zero, List.set_cons_succ]
      refine wpAnyH_take (i := 8) (v := .bool false) rfl (by kernel_rfl) (by kernel_rfl) (by kernel_rfl) (fun _ _ _ h => h) (Or.inl ⟨by rfl, by intro w9 _; go_simp⟩) HX ?_
      simp only [List.getElem_toArray, List.getElem_cons_succ, List.getElem_cons_zero, Act.put, List.setIfInBounds_toArray, List.set_cons_zero, List.set_cons_succ]
      refine wpAnyH_take (i := 9) (v := .slice (some ⟨b1, o1, none⟩) n lc) rfl (by kernel_rfl) (by kernel_rfl) (by kernel_rfl) (fun _ _ _ h => h) (Or.inl ⟨by rfl, by intro w9 _; go_simp⟩) HX ?_
      simp only [List.getElem_toArray, List.getElem_cons_succ, List.getElem_cons_zero, Act.put, List.setIfInBounds_toArray, List.set_cons_zero, List.set_cons_succ]
      refine wpAnyH_take (i := 10) (v := .int .i64 (i : Int)) rfl (by kernel_rfl) (by kernel_rfl) (by kernel_rfl) (fun _ _ _ h => h) (Or.inl ⟨by rfl, by intro w9 _; go_simp⟩) HX ?_
      simp only [List.getElem_toArray, List.getElem_cons_succ, List.getElem_cons_zero, Act.put, List.setIfInBounds_toArray, List.set_cons_zero, List.set_cons_succ]
      refine wpAnyH_take (i := 11) (v := .pointer (some ⟨b1, o1 + i * 32, none⟩)) rfl (by kernel_rfl) (by kernel_rfl) (by kernel_rfl) (fun _ _ _ h => h) (Or.inl ⟨by rfl, by intro w9 _; go_simp⟩) HX ?_
      simp only [List.getElem_toArray, List.getElem_cons_succ, List.getElem_cons_zero, Act.put, List.setIfInBounds_toArray, List.set_cons_zero, List.set_cons_succ]
      refine wpAnyH_take (i := 12) (v := .agg X) rfl (by kernel_rfl) (by kernel_rfl) (by kernel_rfl) (fun _ _ _ h => h) (yieldsIf_load_mid (by rfl) 23 _ rfl b1 (o1 + i * 32) rfl X.toList _ (fun w' h => HRx.out w' h) Tryd.underlying23 rfl icx.out) HX ?_
      simp only [List.getElem_toArray, List.getElem_cons_succ, List.getElem_cons_zero, Act.put, List.setIfInBounds_toArray, List.set_cons_zero, List.set_cons_succ]
      refine wpAnyH_take (i := 13) (v := .int .i64 (i : Int)) rfl (by kernel_rfl) (by kernel_rfl) (by kernel_rfl) (fun _ _ _ h => h) (Or.inl ⟨by rfl, by intro w9 _; go_simp⟩) HX ?_
      simp only [List.getElem_toArray, List.getElem_cons_succ, List.getElem_cons_zero, Act.put, List.setIfInBounds_toArray, List.set_cons_zero, List.set_cons_succ]
      refine wpAnyH_take (i := 14) (v := .int .i64 (n : Int)) rfl (by kernel_rfl) (by kernel_rfl) (by kernel_rfl) (fun _ _ _ h => h) (Or.inl ⟨by rfl, by intro w9 _; go_simp⟩) HX ?_
      simp only [List.getElem_toArray, List.getElem_cons_succ, List.getElem_cons_zero, Act.put, List.setIfInBounds_toArray, List.set_cons_zero, List.set_cons_succ]
      refine wpAnyH_take (i := 15) (v := .slice pa q pc) rfl (by kernel_rfl) (by kernel_rfl) (by kernel_rfl) (fun _ _ _ h => h) (Or.inl ⟨by rfl, by intro w9 _; go_simp⟩) HX ?_
      simp only [List.getElem_toArray, List.getElem_cons_succ, List.getElem_cons_zero, Act.put, List.setIfInBounds_toArray, List.set_cons_zero, List.set_cons_succ]
      refine wpAnyH_take (i := 16) (v := .agg RR) rfl (by kernel_rfl) (by kernel_rfl) (by kernel_rfl) (fun _ _ _ h => h) (yieldsIf_load_mid (by rfl) 23 _ rfl w3.heap.size (0) rfl RR.toList _ (fun w' h => HRr.out w' h) Tryd.underlying23 rfl icr.out) HX ?_
      simp only [List.getElem_toArray, List.getElem_cons_succ, List.getElem_cons_zero, Act.put, List.setIfInBounds_toArray, List.set_cons_zero, List.set_cons_succ]
      refine wpAnyH_ready (rs := [17]) (by kernel_rfl) (by simp) (AllReadyH.cons (by simp only [List.getElem?_toArray, List.getElem?_cons_succ, List.getElem?_cons_zero]; rfl) (fun K hK => ?_) AllReadyH.nil)
      refine step_want (by rfl) ?_
      go_simp
      refine (HCx.out _ HX).mono ?_
      rintro e y1 ⟨rfl, bc⟩
      have HX : Below w8.heap.size w8 y1 := HX.trans (bc.mono HX.size)
      clear bc
      refine hK.out _ _ HX (fun _ => ?_)
      clear hK K
      try simp only [List.getElem_toArray, List.getElem_cons_succ, List.getElem_cons_zero, Act.put, List.setIfInBounds_toArray, List.set_cons_zero, List.set_cons_succ]
      refine wpAnyH_take (i := 18) (v := .bool false) rfl (by kernel_rfl) (by kernel_rfl) (by kernel_rfl) (fun _ _ _ h => h) (Or.inl ⟨by rfl, by intro w9 _; go_simp⟩) HX ?_
      simp only [List.getElem_toArray, List.getElem_cons_succ, List.getElem_cons_zero, Act.put, List.setIfInBounds_toArray, List.set_cons_zero, List.set_cons_succ]
      refine wpAnyH_take (i := 19) (v := .bool false) rfl (by kernel_rfl) (by kernel_rfl) (by kernel_rfl) (fun _ _ _ h => h) (Or.inl ⟨by rfl, by intro w9 _; go_simp⟩) HX ?_
      simp only [List.getElem_toArray, List.getElem_cons_succ, List.getElem_cons_zero, Act.put, List.setIfInBounds_toArray, List.set_cons_zero, List.set_cons_succ]
      refine wpAnyH_done (by kernel_rfl) ?_ _
      have HF : Hid (Below w5.heap.size w5 y1) := (H8.out _ HX).1
      have HwI : Hid (wrap64 ((i : Int) + 1) = ((i + 1 : Nat) : Int)) := by
        show _ = _
        have := HL.out.2.1
        unfold wrap64
        omega
      clear HX
      go_wp2_with (first | (simp only [HwI.out]) | fail)
      go_roundw
      case rel => exact ⟨i + 1, by omega, by first | rfl | go_num, HF.out⟩
      case measure => simp [intOf]; omega
    · obtain rfl : i = n := by omega
      have k0 : ¬ (i : Int) < (i : Int) := by omega
      go_wp2_with fail
      refine (HD.out wr HB.out).mono ?_
      rintro e w9 ⟨rfl, b9⟩
      have HF : Hid (Below w.heap.size w w9) := (HG.out w9 (HB.out.trans (b9.mono HB.out.size))).2.2.1
      clear b9 HD
      go_wp2
      go_ret
      exact ⟨rfl, HF.out⟩
theorem all_law (p s : Int) (w : World) (hK : TabL w) (hp : 0 ≤ p ∧ p ≤ 255) (hs : 0 ≤ s ∧ s ≤ 4294967295) : Calls Tryd.prog 5 #[.int .u8 p, .int .u32 s] w fun e w' => e = .returned (.bool true) ∧ Below w.heap.size w w' := by
  obtain ⟨m, rfl⟩ := Int.eq_ofNat_of_zero_le hs.1
  exact all_walk p m w hK hp.1 hp.2 (by omega)
end Go.Proofs.YtficmbaffkkfhaaDoor
