/- The law FrontierFull (layer 10). -/
import Derived.Test.YtgnlfgamdohadaaDoor10k
namespace Go.Proofs.YtgnlfgamdohadaaDoor
open Go.RowKit

theorem shl_small : ∀ p : Fin 7, wrap64 ((1 : Int) * 2 ^ p.val) = ((2 ^ p.val : Nat) : Int) := by decide +kernel
theorem less_wrap (n k : Nat) (h : n = k + 1) (h64 : n ≤ 64) : wrap64 ((n : Int) - 1) = (k : Int) := by unfold wrap64; omega
theorem m_wrap (m : Nat) (h : m < 7) : wrap64 (m : Int) = (m : Int) ∧ IntKind.u8.wrap (m : Int) = (m : Int) := ⟨by unfold wrap64; omega, by simp [IntKind.wrap, IntKind.signed, IntKind.bits]; omega⟩
set_option maxRecDepth 100000 in
set_option maxHeartbeats 4000000 in
set_option linter.unusedSimpArgs false in
set_option linter.unusedVariables false in
theorem full_walk (p : Int) (s m n : Nat) (w : World) (hT : TabF w) (hp0 : 0 ≤ p) (hp1 : p ≤ 255) (hs : s < 4294967296) (hm : p % 7 = (m : Int)) (hm7 : m < 7) (hn : n = 2 ^ m) : Calls Tryd.prog 7 #[.int .u8 p, .int .u32 s] w fun e w' => e = .returned (.bool true) ∧ Below w.heap.size w w' := by
  have hn1 : 1 ≤ n := by rw [hn]; exact Nat.pow_pos (by decide)
  have hn64 : n ≤ 64 := by rw [hn]; exact Nat.pow_le_pow_right (n := 2) (by decide) (show m ≤ 6 by omega)
  obtain ⟨k, hk⟩ : ∃ k, n = k + 1 := ⟨n - 1, by omega⟩
  obtain ⟨L, hL⟩ : ∃ L, someL n s = L := ⟨_, rfl⟩
  have hlen : L.length = n := by rw [← hL]; exact some_length _ _
  have h32 : ∀ y ∈ L, y.length = 32 := by rw [← hL]; exact some_32 _ _
  have HTab : Hid (∀ W, Below w.heap.size w W → TabF W) := fun W hW => hT.below hW hT.lt
  have HSo : Hid (Calls Tryd.prog 23 #[.int .i64 n, .int .u32 s] w fun e w'' => ∃ a c, e = .returned (.slice a n c) ∧ Mh w w.heap.size (.slice a n c) L w'') := by
    have := some_any (w := w) n s hT.l (by omega) hs
    rwa [hL] at this
  obtain ⟨x, hx⟩ : ∃ x, L[k]? = some x := ⟨_, List.getElem?_eq_getElem (by omega)⟩
  have hx32 : x.length = 32 := h32 x (List.mem_of_getElem? hx)
  have hxs : (hv x).size = 32 := by rw [hv_size, hx32]
  have ic : Hid ((Tryd.prog.info? 30).map (·.size) = some (hv x).toList.length) := by show _ = _; rw [info_h32, Array.length_toList, hxs]
  have htl : (L.take k).length = k := by rw [List.length_take]; omega
  have hel : (edH (L.take k)).length = m := by
    have := ed_length (shaL []) nodeL 63 (L.take k) (by omega)
    rw [htl, show k = 2 ^ m - 1 by omega, pc_full] at this
    rw [show k = 2 ^ m - 1 by omega]
    exact this
  have hpu : puL nodeL (tlN k) (edH (L.take k)) x = [rootH L] := by
    rw [← edH_next hx (by omega), List.take_of_length_le (by omega)]
    exact ed_pow (shaL []) nodeL 63 m L (by omega) (by omega)
  have hr32 : (rootH L).length = 32 := rootH_32 h32
  have hrs : (hv (rootH L)).size = 32 := by rw [hv_size, hr32]
  have icr : Hid ((Tryd.prog.info? 30).map (·.size) = some (hv (rootH L)).toList.length) := by show _ = _; rw [info_h32, Array.length_toList, hrs]
  have heq : ∀ (w9 : World), (binOp .eql 30 (.agg (hv (rootH L))) (.agg (hv (rootH L)))).run Tryd.prog w9 = .ok (.bool true) w9 := fun w9 => by
    have := eqH w9 (rootH L) (rootH L) hr32 hr32
    rwa [beq_self_eq_true] at this
  have HOf : Hid (∀ W a c, Below w.heap.size w W → HsAt W (.slice a n c) L → Calls Tryd.prog 22 #[.slice a k c] W fun e w' => ∃ b, e = .returned (.pointer (some ⟨b, 0, none⟩)) ∧ Fr w' W.heap.size b k (edH (L.take k)) ∧ Below W.heap.size W w') := fun W a c hW hA => by
    have := fof_any (hA.take k (by omega)) (HTab.out W hW) (by omega)
    rwa [htl] at this
  have HHs : Hid (∀ (W : World) (B b : Nat), Fr W B b k (edH (L.take k)) → Calls Tryd.prog 16 #[.pointer (some ⟨b, 0, none⟩)] W fun e w' => ∃ a c, e = .returned (.slice a m c) ∧ Mh W W.heap.size (.slice a m c) (edH (L.take k)) w') := fun W B b h => by
    have := fhashes_any h
    rwa [hel] at this
  have hgt := hT.lt
  have HAp : Hid (∀ (W : World) (B b : Nat), w.heap.size ≤ B → Fr W B b k (edH (L.take k)) → Below w.heap.size w W → Calls Tryd.prog 10 #[.pointer (some ⟨b, 0, none⟩), .agg (hv x)] W fun e w' => e = .returned (.int .i64 0) ∧ Fr w' B b n [rootH L] ∧ But b W w') := fun W B b hB hF hW => by
    have := fappend_any x hF (HTab.out W hW) ⟨⟨by omega, by omega⟩, by omega⟩ hx32 (by omega)
    rw [hpu, ← hk] at this
    exact this
  have HHs2 : Hid (∀ (W : World) (B b : Nat), Fr W B b n [rootH L] → Calls Tryd.prog 16 #[.pointer (some ⟨b, 0, none⟩)] W fun e w' => ∃ a c, e = .returned (.slice a 1 c) ∧ Mh W W.heap.size (.slice a 1 c) [rootH L] w') := fun W B b h => fhashes_any h
  have HRt : Hid (∀ (W : World) (B b : Nat), Fr W B b n [rootH L] → Below w.heap.size w W → Calls Tryd.prog 14 #[.pointer (some ⟨b, 0, none⟩)] W fun e w' => e = .returned (.agg (hv (rootH L))) ∧ Below W.heap.size W w') := fun W B b h hW => froot_any h (HTab.out W hW).l
  have HRr : Hid (∀ W a c, Below w.heap.size w W → HsAt W (.slice a n c) L → n ≤ c → Calls Tryd.prog 21 #[.slice a n c] W fun e w' => e = .returned (.agg (hv (rootH L))) ∧ Below W.heap.size W w') := fun W a c hW hA hc => root_any (HTab.out W hW).l hA (fun a n c e => by have := Value.slice.inj e; omega) (by omega)
  have HD : Hid (∀ W, Below w.heap.size w W → Calls Tryd.prog 18 #[] W fun e w' => e = .returned (.bool true) ∧ Below W.heap.size W w') := fun W hW => does10_any W (HTab.out W hW)
  have hk0 : (0 : Int) ≤ (k : Int) := by omega
  have hkn : (k : Int) < (n : Int) := by omega
  have hn1' : ¬ (n : Int) < 1 := by omega
  have hm0 : (0 : Int) ≤ (m : Int) := by omega
  have hsh := shl_small ⟨m, hm7⟩
  simp only at hsh
  rw [← hn] at hsh
  have hsh2 : wrap64 ((2 : Int) ^ m) = (n : Int) := by rw [← hsh, Int.one_mul]
  have HWK : Hid (wrap64 ((n : Int) - 1) = (k : Int)) := less_wrap n k hk hn64
  have HWM : Hid (wrap64 (m : Int) = (m : Int)) := (m_wrap m hm7).1
  have HU8 : Hid (IntKind.u8.wrap (m : Int) = (m : Int)) := (m_wrap m hm7).2
  have HX1 : Hid (Below w.heap.size w w) := Below.refl _ _
  have HHx : Hid (∀ W a c, HsAt W (.slice a n c) L → ∃ b o, a = some ⟨b, o, none⟩ ∧ W.rangeAt b (o + k * 32) (hv x).toList) := fun W a c hA => by
    obtain ⟨-, b, o, e, hr⟩ := hA.cells.2 k x hx
    exact ⟨b, o, e, hr W (Below.refl _ _)⟩
  clear hT hL h32 hx hx32 hlen htl hel hpu hr32 hn hs hgt HWK HWM HU8 hn1 hn1'
  subst hk
  have hn1' : ¬ ((k + 1 : Nat) : Int) < 1 := by clear hsh hsh2; omega
  generalize hv x = X at *
  generalize hRR : hv (rootH L) = RR at *
  go_enter Tryd.func7, Tryd.ntmps7
  go_wp2_with fail
  clear hsh hsh2
  refine HSo.out.mono ?_
  rintro e w2 ⟨la, lc, rfl, hM⟩
  obtain ⟨a', c', hsl, hlc⟩ := hM.slice
  obtain ⟨rfl, hll, rfl⟩ := Value.slice.inj hsl
  rw [← hll] at hlc
  have hA2 := hM.at_
  obtain ⟨lb, lo, rfl, -⟩ := HHx.out w2 _ _ hA2
  have HA2 : Hid (HsAt w2 (.slice (some ⟨lb, lo, none⟩) (k + 1) lc) L) := hA2
  have HB2 : Hid (Below w.heap.size w w2) := hM.below
  have hkc : (k : Int) ≤ (lc : Int) := by omega
  have hkc2 : k ≤ lc := by omega
  have hlc2 : Hid (k + 1 ≤ lc) := hlc
  clear hM hsl hA2 HSo hll hlc
  go_wp2_with fail
  refine (HOf.out w2 _ lc HB2.out HA2.out).mono ?_
  rintro e w3 ⟨b, rfl, hF, b3⟩
  have HF3 : Hid (Fr w3 w2.heap.size b k (edH (L.take k))) := hF
  have HA3 : Hid (HsAt w3 (.slice (some ⟨lb, lo, none⟩) (k + 1) lc) L) := HA2.out.below b3
  have HB3 : Hid (Below w.heap.size w w3) := HB2.out.trans (b3.mono HB2.out.size)
  clear hF b3
  go_wp2_with fail
  refine (HHs.out w3 _ b HF3.out).mono ?_
  rintro e w4 ⟨ha, hc, rfl, hMh⟩
  have HF4 : Hid (Fr w4 w2.heap.size b k (edH (L.take k))) := HF3.out.next hMh.below
  have HA4 : Hid (HsAt w4 (.slice (some ⟨lb, lo, none⟩) (k + 1) lc) L) := HA3.out.below hMh.below
  have HB4 : Hid (Below w.heap.size w w4) := HB3.out.trans (hMh.below.mono HB3.out.size)
  have hr : w4.rangeAt lb (lo + k * 32) X.toList := by
    obtain ⟨b', o', e, hr⟩ := HHx.out w4 _ _ HA4.out
    simp at e
    obtain ⟨rfl, rfl⟩ := e
    exact hr
  clear hMh HF3 HA3 HB3
  go_wp2_with (first | (refine wpList_load_mid rfl 30 _ rfl lb (lo + k * 32) rfl X.toList _ hr Tryd.underlying30 rfl ic.out ?_) | (refine wpList_want (by rfl) fun _ hK => wp_load_mid 30 _ rfl lb (lo + k * 32) rfl X.toList _ hr Tryd.underlying30 rfl ic.out (hK _ _ ?_)) | fail)
  refine (HAp.out w4 _ b HB2.out.size HF4.out HB4.out).mono ?_
  rintro e w5 ⟨rfl, hF5, b5⟩
  obtain ⟨C, hgC, hCs⟩ := HF4.out.box
  have HF5 : Hid (Fr w5 w2.heap.size b (k + 1) [rootH L]) := hF5
  have HA5 : Hid (HsAt w5 (.slice (some ⟨lb, lo, none⟩) (k + 1) lc) L) := HA4.out.but b5 hgC hCs
  have HB5 : Hid (Below w.heap.size w w5) := HB4.out.trans (b5.below (Nat.le_trans HB2.out.size HF4.out.ge) HB4.out.size)
  clear hF5 b5 hgC hCs HF4 HA4 HB4 hr
  go_wp2_with fail
  refine (HHs2.out w5 _ b HF5.out).mono ?_
  rintro e w6 ⟨ha2, hc2, rfl, hMh⟩
  have hQ := hMh.at_
  obtain ⟨-, g1, p1, rfl, -⟩ := hQ.cells.2 0 _ rfl
  have H6 : Hid (∀ W, Below w6.heap.size w6 W → Fr W w2.heap.size b (k + 1) [rootH L] ∧ HsAt W (.slice (some ⟨lb, lo, none⟩) (k + 1) lc) L ∧ Below w.heap.size w W) := fun W hW =>
    ⟨HF5.out.next (hMh.below.trans (hW.mono hMh.below.size)), HA5.out.below (hMh.below.trans (hW.mono hMh.below.size)), HB5.out.trans ((hMh.below.trans (hW.mono hMh.below.size)).mono HB5.out.size)⟩
  have HRk : Hid (∀ W, Below w6.heap.size w6 W → W.rangeAt g1 p1 RR.toList) := fun W hW => by
    obtain ⟨-, b', o', e, hr⟩ := (hQ.below hW).cells.2 0 _ rfl
    simp at e
    obtain ⟨rfl, rfl⟩ := e
    have := hr W (Below.refl _ _)
    rwa [Nat.zero_mul, Nat.add_zero, hRR] at this
  have HX6 : Hid (Below w6.heap.size w6 w6) := Below.refl _ _
  clear hMh hQ HF5 HA5 HB5
  go_upto_region 7 with fail
  refine wp_region_held (S := Below w6.heap.size w6) (by kernel_rfl) ?_
  change wpAnyH _ _ _ _ _ _ _ _ (World.drew _)
  have HX : Below w6.heap.size w6 w6.drew := HX6.out.drew
  clear HX6
  generalize World.drew _ = x0 at *
  refine wpAnyH_take (i := 0) (v := .slice (some ⟨g1, p1, none⟩) 1 hc2) rfl (by kernel_rfl) (by kernel_rfl) (by kernel_rfl) (fun _ _ _ h => h) (Or.inl ⟨by rfl, by intro w9 _; go_simp⟩) HX ?_
  simp only [List.getElem_toArray, List.getElem_cons_succ, List.getElem_cons_zero, Act.put, List.setIfInBounds_toArray, List.set_cons_zero, List.set_cons_succ]
  refine wpAnyH_take (i := 1) (v := .int .i64 1) rfl (by kernel_rfl) (by kernel_rfl) (by kernel_rfl) (fun _ _ _ h => h) (Or.inl ⟨by rfl, by intro w9 _; go_simp⟩) HX ?_
  simp only [List.getElem_toArray, List.getElem_cons_succ, List.getElem_cons_zero, Act.put, List.setIfInBounds_toArray, List.set_cons_zero, List.set_cons_succ]
  refine wpAnyH_take (i := 2) (v := .bool true) rfl (by kernel_rfl) (by kernel_rfl) (by kernel_rfl) (fun _ _ _ h => h) (Or.inl ⟨by rfl, by intro w9 _; go_simp⟩) HX ?_
  simp only [List.getElem_toArray, List.getElem_cons_succ, List.getElem_cons_zero, Act.put, List.setIfInBounds_toArray, List.set_cons_zero, List.set_cons_succ]
  refine wpAnyH_take (i := 3) (v := .bool true) rfl (by kernel_rfl) (by kernel_rfl) (by kernel_rfl) (fun _ _ _ h => h) (Or.inl ⟨by rfl, by intro w9 _; go_simp⟩) HX ?_
  simp only [List.getElem_toArray, List.getElem_cons_succ, List.getElem_cons_zero, Act.put, List.setIfInBounds_toArray, List.set_cons_zero, List.set_cons_succ]
  refine wpAnyH_take (i := 4) (v := .slice (some ⟨g1, p1, none⟩) 1 hc2) rfl (by kernel_rfl) (by kernel_rfl) (by kernel_rfl) (fun _ _ _ h => h) (Or.inl ⟨by rfl, by intro w9 _; go_simp⟩) HX ?_
  simp only [List.getElem_toArray, List.getElem_cons_succ, List.getElem_cons_zero, Act.put, List.setIfInBounds_toArray, List.set_cons_zero, List.set_cons_succ]
  refine wpAnyH_take (i := 5) (v := .pointer (some ⟨g1, p1, none⟩)) rfl (by kernel_rfl) (by kernel_rfl) (by kernel_rfl) (fun _ _ _ h => h) (Or.inl ⟨by rfl, by intro w9 _; go_simp⟩) HX ?_
  simp only [List.getElem_toArray, List.getElem_cons_succ, List.getElem_cons_zero, Act.put, List.setIfInBounds_toArray, List.set_cons_zero, List.set_cons_succ]
  refine wpAnyH_take (i := 6) (v := .agg RR) rfl (by kernel_rfl) (by kernel_rfl) (by kernel_rfl) (fun _ _ _ h => h) (yieldsIf_load_mid (by rfl) 30 _ rfl g1 p1 rfl RR.toList _ (fun w' h => HRk.out w' h) Tryd.underlying30 rfl icr.out) HX ?_
  simp only [List.getElem_toArray, List.getElem_cons_succ, List.getElem_cons_zero, Act.put, List.setIfInBounds_toArray, List.set_cons_zero, List.set_cons_succ]
  refine wpAnyH_take (i := 7) (v := .pointer (some ⟨b, 0, none⟩)) rfl (by kernel_rfl) (by kernel_rfl) (by kernel_rfl) (fun _ _ _ h => h) (Or.inl ⟨by rfl, by intro w9 _; go_simp⟩) HX ?_
  simp only [List.getElem_toArray, List.getElem_cons_succ, List.getElem_cons_zero, Act.put, List.setIfInBounds_toArray, List.set_cons_zero, List.set_cons_succ]
  refine wpAnyH_ready (rs := [8]) (by kernel_rfl) (by simp) (AllReadyH.cons (by simp only [List.getElem?_toArray, List.getElem?_cons_succ, List.getElem?_cons_zero]; rfl) (fun K hK => ?_) AllReadyH.nil)
  refine step_want (by rfl) ?_
  go_simp
  refine (HRt.out x0 _ b (H6.out _ HX).1 (H6.out _ HX).2.2).mono ?_
  rintro e x1 ⟨rfl, bc⟩
  have HX : Below w6.heap.size w6 x1 := HX.trans (bc.mono HX.size)
  clear bc
  refine hK.out _ _ HX (fun _ => ?_)
  clear hK K
  try simp only [List.getElem_toArray, List.getElem_cons_succ, List.getElem_cons_zero, Act.put, List.setIfInBounds_toArray, List.set_cons_zero, List.set_cons_succ]
  refine wpAnyH_take (i := 9) (v := .bool true) rfl (by kernel_rfl) (by kernel_rfl) (by kernel_rfl) (fun _ _ _ h => h) (Or.inl ⟨by rfl, by intro w9 _; go_simp⟩) HX ?_
  simp only [List.getElem_toArray, List.getElem_cons_succ, List.getElem_cons_zero, Act.put, List.setIfInBounds_toArray, List.set_cons_zero, List.set_cons_succ]
  refine wpAnyH_take (i := 10) (v := .bool true) rfl (by kernel_rfl) (by kernel_rfl) (by kernel_rfl) (fun _ _ _ h => h) (Or.inl ⟨by rfl, by intro w9 _; go_simp⟩) HX ?_
  simp only [List.getElem_toArray, List.getElem_cons_succ, List.getElem_cons_zero, Act.put, List.setIfInBounds_toArray, List.set_cons_zero, List.set_cons_succ]
  refine wpAnyH_take (i := 11) (v := .bool true) rfl (by kernel_rfl) (by kernel_rfl) (by kernel_rfl) (fun _ _ _ h => h) (Or.inl ⟨by rfl, by intro w9 _; go_simp⟩) HX ?_
  simp only [List.getElem_toArray, List.getElem_cons_succ, List.getElem_cons_zero, Act.put, List.setIfInBounds_toArray, List.set_cons_zero, List.set_cons_succ]
  refine wpAnyH_take (i := 12) (v := .slice (some ⟨g1, p1, none⟩) 1 hc2) rfl (by kernel_rfl) (by kernel_rfl) (by kernel_rfl) (fun _ _ _ h => h) (Or.inl ⟨by rfl, by intro w9 _; go_simp⟩) HX ?_
  simp only [List.getElem_toArray, List.getElem_cons_succ, List.getElem_cons_zero, Act.put, List.setIfInBounds_toArray, List.set_cons_zero, List.set_cons_succ]
  refine wpAnyH_take (i := 13) (v := .pointer (some ⟨g1, p1, none⟩)) rfl (by kernel_rfl) (by kernel_rfl) (by kernel_rfl) (fun _ _ _ h => h) (Or.inl ⟨by rfl, by intro w9 _; go_simp⟩) HX ?_
  simp only [List.getElem_toArray, List.getElem_cons_succ, List.getElem_cons_zero, Act.put, List.setIfInBounds_toArray, List.set_cons_zero, List.set_cons_succ]
  refine wpAnyH_take (i := 14) (v := .agg RR) rfl (by kernel_rfl) (by kernel_rfl) (by kernel_rfl) (fun _ _ _ h => h) (yieldsIf_load_mid (by rfl) 30 _ rfl g1 p1 rfl RR.toList _ (fun w' h => HRk.out w' h) Tryd.underlying30 rfl icr.out) HX ?_
  simp only [List.getElem_toArray, List.getElem_cons_succ, List.getElem_cons_zero, Act.put, List.setIfInBounds_toArray, List.set_cons_zero, List.set_cons_succ]
  refine wpAnyH_take (i := 15) (v := .slice (some ⟨lb, lo, none⟩) (k + 1) lc) rfl (by kernel_rfl) (by kernel_rfl) (by kernel_rfl) (fun _ _ _ h => h) (Or.inl ⟨by rfl, by intro w9 _; go_simp⟩) HX ?_
  simp only [List.getElem_toArray, List.getElem_cons_succ, List.getElem_cons_zero, Act.put, List.setIfInBounds_toArray, List.set_cons_zero, List.set_cons_succ]
  refine wpAnyH_ready (rs := [16]) (by kernel_rfl) (by simp) (AllReadyH.cons (by simp only [List.getElem?_toArray, List.getElem?_cons_succ, List.getElem?_cons_zero]; rfl) (fun K hK => ?_) AllReadyH.nil)
  refine step_want (by rfl) ?_
  go_simp
  refine (HRr.out x1 _ lc (H6.out _ HX).2.2 (H6.out _ HX).2.1 hlc2.out).mono ?_
  rintro e x2 ⟨rfl, bc⟩
  have HX : Below w6.heap.size w6 x2 := HX.trans (bc.mono HX.size)
  clear bc
  refine hK.out _ _ HX (fun _ => ?_)
  clear hK K
  try simp only [List.getElem_toArray, List.getElem_cons_succ, List.getElem_cons_zero, Act.put, List.setIfInBounds_toArray, List.set_cons_zero, List.set_cons_succ]
  refine wpAnyH_take (i := 17) (v := .bool true) rfl (by kernel_rfl) (by kernel_rfl) (by kernel_rfl) (fun _ _ _ h => h) (Or.inl ⟨by rfl, by intro w9 _; go_simp⟩) HX ?_
  simp only [List.getElem_toArray, List.getElem_cons_succ, List.getElem_cons_zero, Act.put, List.setIfInBounds_toArray, List.set_cons_zero, List.set_cons_succ]
  refine wpAnyH_take (i := 18) (v := .bool true) rfl (by kernel_rfl) (by kernel_rfl) (by kernel_rfl) (fun _ _ _ h => h) (Or.inl ⟨by rfl, by intro w9 _; go_simp⟩) HX ?_
  simp only [List.getElem_toArray, List.getElem_cons_succ, List.getElem_cons_zero, Act.put, List.setIfInBounds_toArray, List.set_cons_zero, List.set_cons_succ]
  refine wpAnyH_take (i := 19) (v := .bool true) rfl (by kernel_rfl) (by kernel_rfl) (by kernel_rfl) (fun _ _ _ h => h) (Or.inl ⟨by rfl, by intro w9 _; go_simp⟩) HX ?_
  simp only [List.getElem_toArray, List.getElem_cons_succ, List.getElem_cons_zero, Act.put, List.setIfInBounds_toArray, List.set_cons_zero, List.set_cons_succ]
  refine wpAnyH_ready (rs := [20]) (by kernel_rfl) (by simp) (AllReadyH.cons (by simp only [List.getElem?_toArray, List.getElem?_cons_succ, List.getElem?_cons_zero]; rfl) (fun K hK => ?_) AllReadyH.nil)
  refine step_want (by rfl) ?_
  go_simp
  refine (HD.out x2 (H6.out _ HX).2.2).mono ?_
  rintro e x3 ⟨rfl, bc⟩
  have HX : Below w6.heap.size w6 x3 := HX.trans (bc.mono HX.size)
  clear bc
  refine hK.out _ _ HX (fun _ => ?_)
  clear hK K
  try simp only [List.getElem_toArray, List.getElem_cons_succ, List.getElem_cons_zero, Act.put, List.setIfInBounds_toArray, List.set_cons_zero, List.set_cons_succ]
  refine wpAnyH_take (i := 21) (v := .bool true) rfl (by kernel_rfl) (by kernel_rfl) (by kernel_rfl) (fun _ _ _ h => h) (Or.inl ⟨by rfl, by intro w9 _; go_simp⟩) HX ?_
  simp only [List.getElem_toArray, List.getElem_cons_succ, List.getElem_cons_zero, Act.put, List.setIfInBounds_toArray, List.set_cons_zero, List.set_cons_succ]
  refine wpAnyH_take (i := 22) (v := .bool true) rfl (by kernel_rfl) (by kernel_rfl) (by kernel_rfl) (fun _ _ _ h => h) (Or.inl ⟨by rfl, by intro w9 _; go_simp⟩) HX ?_
  simp only [List.getElem_toArray, List.getElem_cons_succ, List.getElem_cons_zero, Act.put, List.setIfInBounds_toArray, List.set_cons_zero, List.set_cons_succ]
  refine wpAnyH_done (by kernel_rfl) ?_ _
  have HF : Hid (Below w.heap.size w x3) := (H6.out _ HX).2.2
  clear HX
  go_wp2
  go_ret
  exact ⟨rfl, HF.out⟩
theorem full_law (p s : Int) (w : World) (hT : TabF w) (hp : 0 ≤ p ∧ p ≤ 255) (hs : 0 ≤ s ∧ s ≤ 4294967295) : Calls Tryd.prog 7 #[.int .u8 p, .int .u32 s] w fun e w' => e = .returned (.bool true) ∧ Below w.heap.size w w' := by
  obtain ⟨q, rfl⟩ := Int.eq_ofNat_of_zero_le hs.1
  exact full_walk p q (p % 7).toNat _ w hT hp.1 hp.2 (by omega) (by omega) (by omega) rfl
end Go.Proofs.YtgnlfgamdohadaaDoor
