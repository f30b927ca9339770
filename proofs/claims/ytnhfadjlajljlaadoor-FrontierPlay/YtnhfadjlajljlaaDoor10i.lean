/- Contracts of Append of a frontier (layer 10). -/
import Derived.Test.YtnhfadjlajljlaaDoor10h
namespace Go.Proofs.YtnhfadjlajljlaaDoor
open Go.RowKit

/-- The tables lie ahead of B. -/
abbrev GtF (B : Nat) : Prop := (4 < B ∧ 3 < B) ∧ 1 < B
theorem TabF.but {w w' : World} {b : Nat} (h : TabF w) (hb : But b w w') (hn : GtF b) : TabF w' := ⟨h.l.but hb hn.1, h.d.but hb hn.2⟩
set_option maxRecDepth 100000 in
theorem fappend_nil (x : List UInt8) (w : World) : Calls Tryd.prog 10 #[.pointer none, .agg (hv x)] w fun e w' => e = .returned (.int .i64 1) ∧ Below w.heap.size w w' := by
  have HB : Hid (Below w.heap.size w (w.alloc (.cells (hv x) 30))) := (Below.refl _ _).alloc (Nat.le_refl _) _
  generalize hv x = X at *
  go_enter Tryd.func10, Tryd.ntmps10
  go_wp2_with (go_at_call 27; refine (fnone_nil _).mono ?_; rintro e w' ⟨rfl, rfl⟩)
  go_ret
  exact ⟨rfl, HB.out⟩
set_option maxRecDepth 100000 in
theorem fappend_long {w : World} {B b : Nat} {L : List (List UInt8)} (x : List UInt8) (h : Fr w B b 9223372036854775807 L) : Calls Tryd.prog 10 #[.pointer (some ⟨b, 0, none⟩), .agg (hv x)] w fun e w' => e = .returned (.int .i64 3) ∧ Below w.heap.size w w' := by
  have hlt := h.lt
  obtain ⟨a, c, h1, -⟩ := h
  have h2 : (w.alloc (.cells (hv x) 30)).heap[b]? = some (.cells #[.slice a L.length c, .bool true, .int .i64 ((9223372036854775807 : Nat) : Int)] 55 (0, 0)) := (((Below.refl w.heap.size w).alloc (Nat.le_refl _) _).block _ hlt).trans h1
  obtain ⟨c0, c1, c2⟩ := fcells h2
  have HB : Hid (Below w.heap.size w (w.alloc (.cells (hv x) 30))) := (Below.refl _ _).alloc (Nat.le_refl _) _
  have e1 : ((9223372036854775807 : Nat) : Int) = 9223372036854775807 := rfl
  rw [e1] at c2
  obtain ⟨w1, hw1⟩ : ∃ w1, w.alloc (.cells (hv x) 30) = w1 := ⟨_, rfl⟩
  rw [hw1] at c0 c1 c2 HB
  clear h1 h2 e1
  generalize hv x = X at *
  go_enter Tryd.func10, Tryd.ntmps10
  go_wp2_with (go_at_call 27; refine (fnone_any c1).mono ?_; rintro e w' ⟨rfl, rfl⟩)
  go_ret
  exact ⟨rfl, HB.out⟩
theorem xor_ones (n : Nat) (h : n < 2 ^ 64) : (2 ^ 64 - 1) ^^^ n = 2 ^ 64 - (n + 1) := by
  apply Nat.eq_of_testBit_eq
  intro i
  rw [Nat.testBit_xor, Nat.testBit_two_pow_sub_succ h, Nat.testBit_two_pow_sub_one]
  by_cases hi : i < 64
  · simp [hi]
  · have : n.testBit i = false := Nat.testBit_lt_two_pow (Nat.lt_of_lt_of_le h (Nat.pow_le_pow_right (by decide) (by omega)))
    simp [hi, this]
theorem not_any (n : Nat) (h : n < 9223372036854775808) : bits BinOp.xor IntKind.u64 (if IntKind.u64.signed = true then -1 else IntKind.u64.max) (n : Int) = 18446744073709551615 - (n : Int) := by
  have e1 : (if IntKind.u64.signed = true then -1 else IntKind.u64.max : Int) = ((18446744073709551615 : Nat) : Int) := rfl
  rw [e1, u64_xor_nat _ _ (by omega) (by omega)]
  have := xor_ones n (by omega)
  rw [show (2 : Nat) ^ 64 - 1 = 18446744073709551615 by rfl, show (2 : Nat) ^ 64 = 18446744073709551616 by rfl] at this
  rw [this]
  omega
theorem one_more {n : Nat} (h : n < 9223372036854775807) : n + 1 < 9223372036854775808 := by omega
theorem not_u64 (n : Nat) (h : n < 9223372036854775808) : IntKind.u64.wrap (n : Int) = (n : Int) := by rw [wrap_u64n]; omega
set_option maxRecDepth 100000 in
set_option maxHeartbeats 2000000 in
set_option linter.unusedSimpArgs false in
set_option linter.unusedVariables false in
theorem fappend_any {w : World} {B b n : Nat} {L : List (List UInt8)} (x : List UInt8) (h : Fr w B b n L) (hT : TabF w) (hg : GtF B) (hx : x.length = 32) (hn : n < 9223372036854775807) : Calls Tryd.prog 10 #[.pointer (some ⟨b, 0, none⟩), .agg (hv x)] w fun e w' => e = .returned (.int .i64 0) ∧ Fr w' B b (n + 1) (puL nodeL (tlN n) L x) ∧ But b w w' := by
  have hlt := h.lt
  have hge := h.ge
  obtain ⟨hl1, hl2, hl3⟩ := h.len
  have htl := tl_le n
  have hplen := puL_length nodeL x hl1
  have hgb : GtF b := ⟨⟨by omega, by omega⟩, by omega⟩
  obtain ⟨w1, hw1⟩ : ∃ w1, w.alloc (.cells (hv x) 30) = w1 := ⟨_, rfl⟩
  have bw1 : Below w.heap.size w w1 := by rw [← hw1]; exact (Below.refl _ _).alloc (Nat.le_refl _) _
  have g1 : w1.heap[w.heap.size]? = some (.cells (hv x) 30 (0, 0)) := by rw [← hw1]; exact heap_alloc_last w _
  have hs1 : w.heap.size < w1.heap.size := (Array.getElem?_eq_some_iff.1 g1).1
  obtain ⟨a, c, h1, hA, hc, how, -⟩ := h
  have hb1 := (bw1.block _ hlt).trans h1
  have hA1 := hA.below bw1
  have hT1 := hT.below bw1 hT.lt
  obtain ⟨c0, c1, c2⟩ := fcells hb1
  have HS : Hid (∀ W, But b w1 W → HsAt W (.slice a L.length c) L ∧ TabF W ∧ W.rangeAt w.heap.size 0 (hv x).toList) := fun W hW => ⟨hA1.but hW hb1 (by simp), hT1.but hW hgb, range_row ((hW.block _ hs1 (by omega)).trans g1)⟩
  have hxs : (hv x).size = 32 := by rw [hv_size, hx]
  have ic : Hid ((Tryd.prog.info? 30).map (·.size) = some (hv x).toList.length) := by show _ = _; rw [info_h32, Array.length_toList, hxs]
  have HTZ : Hid (∀ W, TabD W → Calls Tryd.prog 29 #[.int .u64 (18446744073709551615 - (n : Int))] W fun e w' => e = .returned (.int .i64 (tlN n)) ∧ w' = W) := fun W hW => tail_any n hn W hW
  have HPut : Hid (∀ W, W.heap[b]? = some (.cells (frC (.slice a L.length c) n) 55 (0, 0)) → HsAt W (.slice a L.length c) L → TabL W → Calls Tryd.prog 28 #[.pointer (some ⟨b, 0, none⟩), .agg (hv x), .int .i64 (tlN n)] W fun e w' => (∃ v, e = .returned v) ∧ (∃ a' c', w'.heap[b]? = some (.cells (frC (.slice a' (puL nodeL (tlN n) L x).length c') n) 55 (0, 0)) ∧ HsAt w' (.slice a' (puL nodeL (tlN n) L x).length c') (puL nodeL (tlN n) L x) ∧ (puL nodeL (tlN n) L x).length ≤ c' ∧ OwnA W.heap.size a') ∧ But b W w') := fun W e1 e2 e3 => by
    refine eput_any x e3 hgb.1 e1 e2 hc (fun ad ha => ?_) (by omega) (by omega) hx
    obtain ⟨g, o, e, -⟩ := how ad ha
    exact ⟨g, o, e⟩
  have HB1 : Hid (But b w w1) := But.of_below bw1
  have HX1 : Hid (But b w1 w1) := But.refl b w1
  have hb1' : Hid (w1.heap[b]? = some (.cells (frC (.slice a L.length c) n) 55 (0, 0))) := hb1
  have hsb : B ≤ w1.heap.size := by omega
  have hn1 : ((n : Int) == 9223372036854775807) = false := by rw [beq_eq_false_iff_ne]; omega
  have hwn : wrap64 ((n : Int) + 1) = ((n + 1 : Nat) : Int) := by unfold wrap64; omega
  have HFr : Hid (∀ (W : World) (a' : Option Addr) (c' : Nat), W.heap[b]? = some (.cells (frC (.slice a' (puL nodeL (tlN n) L x).length c') ((n + 1 : Nat) : Int)) 55 (0, 0)) → HsAt W (.slice a' (puL nodeL (tlN n) L x).length c') (puL nodeL (tlN n) L x) → (puL nodeL (tlN n) L x).length ≤ c' → OwnA B a' → Fr W B b (n + 1) (puL nodeL (tlN n) L x)) := fun W a' c' e1 e2 e3 e4 => ⟨a', c', e1, e2, e3, e4, hge, hplen, one_more hn⟩
  have hcv : IntKind.u64.wrap (n : Int) = (n : Int) := not_u64 n hl3
  have hpl : ∃ PL, puL nodeL (tlN n) L x = PL := ⟨_, rfl⟩
  obtain ⟨PL, hPL⟩ := hpl
  rw [hPL] at HPut HFr ⊢
  clear h1 hA hT hA1 hT1 g1 bw1 hx hb1 hl1 hl2 hplen hPL how htl hs1
  generalize hv x = X at *
  generalize L.length = q at *
  go_enter Tryd.func10, Tryd.ntmps10
  go_upto_region 5 with (first | (go_at_call 27; refine (fnone_any c1).mono ?_; rintro e w1 ⟨rfl, rfl⟩) | fail)
  have hp : ∃ p, w.heap.size = p := ⟨_, rfl⟩
  obtain ⟨p, hp⟩ := hp
  rw [hp] at HS ⊢
  refine wp_region_held (S := But b w1) (by kernel_rfl) ?_
  change wpAnyH _ _ _ _ _ _ _ _ (World.drew _)
  have HX : But b w1 w1.drew := HX1.out.drew
  have hbx : w1.drew.heap[b]? = some (Obj.cells _ 55 (0, 0)) := hb1'.out
  clear HX1 hb1' hw1 c0 c1 c2
  generalize World.drew _ = x0 at *
  refine wpAnyH_take (i := 0) (v := .pointer (some ⟨b, 0, none⟩)) rfl (by kernel_rfl) (by kernel_rfl) (by kernel_rfl) (fun _ _ _ h => h) (Or.inl ⟨by rfl, by intro w9 _; go_simp⟩) HX ?_
  simp only [List.getElem_toArray, List.getElem_cons_succ, List.getElem_cons_zero, Act.put, List.setIfInBounds_toArray, List.set_cons_zero, List.set_cons_succ]
  refine wpAnyH_take (i := 1) (v := .pointer (some ⟨b, 0, none⟩)) rfl (by kernel_rfl) (by kernel_rfl) (by kernel_rfl) (fun _ _ _ h => h) (Or.inl ⟨by rfl, by intro w9 _; go_simp⟩) HX ?_
  simp only [List.getElem_toArray, List.getElem_cons_succ, List.getElem_cons_zero, Act.put, List.setIfInBounds_toArray, List.set_cons_zero, List.set_cons_succ]
  refine wpAnyH_take (i := 2) (v := .pointer (some ⟨b, 0, none⟩)) rfl (by kernel_rfl) (by kernel_rfl) (by kernel_rfl) (fun _ _ _ h => h) (Or.inl ⟨by rfl, by intro w9 _; go_simp⟩) HX ?_
  simp only [List.getElem_toArray, List.getElem_cons_succ, List.getElem_cons_zero, Act.put, List.setIfInBounds_toArray, List.set_cons_zero, List.set_cons_succ]
  refine wpAnyH_take (i := 3) (v := .agg X) rfl (by kernel_rfl) (by kernel_rfl) (by kernel_rfl) (fun _ _ _ h => h) (yieldsIf_load_mid (by rfl) 30 _ rfl p 0 rfl X.toList _ (fun w' h => (HS.out w' h).2.2) Tryd.underlying30 rfl ic.out) HX ?_
  simp only [List.getElem_toArray, List.getElem_cons_succ, List.getElem_cons_zero, Act.put, List.setIfInBounds_toArray, List.set_cons_zero, List.set_cons_succ]
  refine wpAnyH_take (i := 4) (v := .pointer (some ⟨b, 0, none⟩)) rfl (by kernel_rfl) (by kernel_rfl) (by kernel_rfl) (fun _ _ _ h => h) (Or.inl ⟨by rfl, by intro w9 _; go_simp⟩) HX ?_
  simp only [List.getElem_toArray, List.getElem_cons_succ, List.getElem_cons_zero, Act.put, List.setIfInBounds_toArray, List.set_cons_zero, List.set_cons_succ]
  refine wpAnyH_take (i := 5) (v := .pointer (some ⟨b, 0, none⟩)) rfl (by kernel_rfl) (by kernel_rfl) (by kernel_rfl) (fun _ _ _ h => h) (Or.inl ⟨by rfl, by intro w9 _; go_simp⟩) HX ?_
  simp only [List.getElem_toArray, List.getElem_cons_succ, List.getElem_cons_zero, Act.put, List.setIfInBounds_toArray, List.set_cons_zero, List.set_cons_succ]
  refine wpAnyH_take (i := 6) (v := .pointer (some ⟨b, 2, none⟩)) rfl (by kernel_rfl) (by kernel_rfl) (by kernel_rfl) (fun _ _ _ h => h) (Or.inl ⟨by rfl, by intro w9 _; go_simp⟩) HX ?_
  simp only [List.getElem_toArray, List.getElem_cons_succ, List.getElem_cons_zero, Act.put, List.setIfInBounds_toArray, List.set_cons_zero, List.set_cons_succ]
  refine wpAnyH_ready (rs := [7]) (by kernel_rfl) (by simp) (AllReadyH.cons (by simp only [List.getElem?_toArray, List.getElem?_cons_succ, List.getElem?_cons_zero]; rfl) (fun K hK => ?_) AllReadyH.nil)
  refine step_want (by rfl) ?_
  have c9 := (fcells hbx).2.2
  go_simp
  clear c9
  refine hK.out _ _ HX (fun _ => ?_)
  clear hK K
  try simp only [List.getElem_toArray, List.getElem_cons_succ, List.getElem_cons_zero, Act.put, List.setIfInBounds_toArray, List.set_cons_zero, List.set_cons_succ]
  refine wpAnyH_take (i := 8) (v := .int .u64 (n : Int)) rfl (by kernel_rfl) (by kernel_rfl) (by kernel_rfl) (fun _ _ _ h => h) (Or.inl ⟨by rfl, by intro w9 _; go_simp⟩) HX ?_
  simp only [List.getElem_toArray, List.getElem_cons_succ, List.getElem_cons_zero, Act.put, List.setIfInBounds_toArray, List.set_cons_zero, List.set_cons_succ]
  refine wpAnyH_take (i := 9) (v := .int .u64 (18446744073709551615 - (n : Int))) rfl (by kernel_rfl) (by kernel_rfl) (by kernel_rfl) (fun _ _ _ h => h) (Or.inl ⟨by rfl, by intro w9 _; go_simp; exact not_any n hl3⟩) HX ?_
  simp only [List.getElem_toArray, List.getElem_cons_succ, List.getElem_cons_zero, Act.put, List.setIfInBounds_toArray, List.set_cons_zero, List.set_cons_succ]
  refine wpAnyH_ready (rs := [10]) (by kernel_rfl) (by simp) (AllReadyH.cons (by simp only [List.getElem?_toArray, List.getElem?_cons_succ, List.getElem?_cons_zero]; rfl) (fun K hK => ?_) AllReadyH.nil)
  refine step_want (by rfl) ?_
  go_simp
  refine (HTZ.out _ (HS.out _ HX).2.1.d).mono ?_
  rintro e x1 ⟨rfl, rfl⟩
  refine hK.out _ _ HX (fun _ => ?_)
  clear hK K
  try simp only [List.getElem_toArray, List.getElem_cons_succ, List.getElem_cons_zero, Act.put, List.setIfInBounds_toArray, List.set_cons_zero, List.set_cons_succ]
  refine wpAnyH_ready (rs := [11]) (by kernel_rfl) (by simp) (AllReadyH.cons (by simp only [List.getElem?_toArray, List.getElem?_cons_succ, List.getElem?_cons_zero]; rfl) (fun K hK => ?_) AllReadyH.nil)
  refine step_want (by rfl) ?_
  go_simp
  refine (HPut.out _ hbx (HS.out _ HX).1 (HS.out _ HX).2.1.l).mono ?_
  rintro e x2 ⟨⟨v2, rfl⟩, ⟨xa, xc, hby, hQ, hxc, hOw⟩, bc⟩
  have hOw : OwnA B xa := fun ad ha => by
    obtain ⟨g, o, e, hg⟩ := hOw ad ha
    exact ⟨g, o, e, Nat.le_trans (Nat.le_trans hsb HX.size) hg⟩
  have HX := HX.trans bc
  clear bc hbx
  refine hK.out _ _ HX (fun _ => ?_)
  clear hK K
  try simp only [List.getElem_toArray, List.getElem_cons_succ, List.getElem_cons_zero, Act.put, List.setIfInBounds_toArray, List.set_cons_zero, List.set_cons_succ]
  refine wpAnyH_done (by kernel_rfl) ?_ _
  obtain ⟨d0, d1, d2⟩ := fcells hby
  have f9 : x2.frozen? ⟨b, 2, none⟩ = false := by rw [World.frozen?, hby]; rfl
  have HF : Hid (Fr (x2.setCell ⟨b, 2, none⟩ (.int .i64 ((n + 1 : Nat) : Int))) B b (n + 1) PL) := by
    refine HFr.out _ xa xc ?_ ?_ hxc hOw
    · exact heap_set_same (o := 2) (v := .int .i64 ((n + 1 : Nat) : Int)) hby
    · refine hQ.kept fun ad ha hpos => ?_
      subst ha
      exact Below.heap_setCell _ _ _ _ (hQ.wide hpos hby (by simp))
  have HX2 : Hid (But b w (x2.setCell ⟨b, 2, none⟩ (.int .i64 ((n + 1 : Nat) : Int)))) := (HB1.out.trans HX).setCell _
  clear HX hQ hby hOw
  go_wp2
  go_ret
  exact ⟨rfl, HF.out, HX2.out⟩
end Go.Proofs.YtnhfadjlajljlaaDoor
