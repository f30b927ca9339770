/- The document's own Take (layer 7). -/
import Derived.Test.YtbnfhhjgalphgaaYe
import Derived.Deep.DeepCutAuto
import Derived.Deep.RegionHeld3
namespace Go.Proofs.Ytbnfhhjgalphgaa
open Go.RowKit

set_option maxRecDepth 100000 in
set_option maxHeartbeats 4000000 in
set_option linter.unusedSimpArgs false in
theorem rtake_any {w : World} {v : Value} {l : List Rn} (n : Int) (h : RunsAt w v l) (hq : ∀ a n c, v = .slice a n c → n ≤ c) (hf : fitR l) (hl : l.length ≤ 100000) (hn0 : -9223372036854775808 ≤ n) (hn1 : n < 9223372036854775808) :
    Calls Try.prog 11 #[v, .int .i64 n] w fun e w' => TakeSays w w.heap.size (takeT l n) e w' := by
  obtain ⟨a, q, rfl, -⟩ := id h
  obtain ⟨w1, hw1⟩ : ∃ w1, w.alloc (.cells #[.int .i64 0, .int .i64 0] 24) = w1 := ⟨_, rfl⟩
  have hbx : w1.heap[w.heap.size]? = some (.cells #[.int .i64 0, .int .i64 0] 24 (0, 0)) := by rw [← hw1]; exact heap_alloc_last w _
  have hB1 : Below w.heap.size w w1 := by rw [← hw1]; exact (Below.refl _ _).alloc (Nat.le_refl _) _
  have hlt1 : w.heap.size < w1.heap.size := by rw [← hw1]; simp
  have h1 := h.below hB1
  have HBx : Hid (∀ w', Below w1.heap.size w1 w' → w'.heap[w.heap.size]? = some (.cells #[.int .i64 0, .int .i64 0] 24 (0, 0))) := fun w' hb => (hb.block _ hlt1).trans hbx
  have HBw : Hid (∀ w', Below w1.heap.size w1 w' → Below w.heap.size w w') := fun w' hb => hB1.trans (hb.mono hB1.size)
  have HCk : Hid (Calls Try.prog 18 #[.slice a l.length q] w1 fun e w' => e = .returned (.bool (chkB l)) ∧ Below w1.heap.size w1 w') := rcheck_any h1 hf (by omega)
  have HL : Hid _ := h.cells.2
  have hcap : l.length ≤ q := hq _ _ _ rfl
  have HRa : Hid (∀ w', Below w1.heap.size w1 w' → RunsAt w' (.slice a l.length q) l) := fun w' hb => h1.below hb
  clear h h1 hf hbx hB1 hq
  by_cases hc : chkB l = true ∧ 1 ≤ n
  rotate_left
  · have hT : Hid (takeT l n = none) := takeT_none' hc
    rw [hT.out]
    have hcase : chkB l = false ∨ (chkB l = true ∧ n < 1) := by
      cases hk : chkB l with
      | false => exact .inl rfl
      | true => exact .inr ⟨rfl, by by_cases h : n < 1; exact h; exact absurd ⟨hk, by omega⟩ hc⟩
    clear hc
    rcases hcase with hk | ⟨hk, hn⟩
    all_goals
      rw [hk] at HCk
      clear hk
      go_enter Try.func11, Try.ntmps11
      go_wp2_with fail
      refine HCk.out.mono ?_
      rintro e w2 ⟨rfl, b2⟩
      have hg2 := HBx.out _ b2
      have HB2 : Hid _ := HBw.out _ b2
      clear b2
      go_wp2_with (refine wpList_store_row rfl 24 (.tmp 4) _ rfl w.heap.size #[.int .i64 0, .int .i64 0] rfl rfl _ _ hg2 (run_size _ _) rfl (run_one _ _) ?_)
      exact bodyPost_ret (v := .tuple #[.agg #[.int .i64 0, .int .i64 0], .slice none 0 0, .bool false]) (results_box2 Try.results11 _ _ w.heap.size _ #[.int .i64 0, .int .i64 0] (0, 0) _ rfl (heap_setRow_same hg2) Try.underlying24 rfl (run_size _ _)) rfl ⟨rfl, below_setRow HB2.out (Nat.le_refl _) _⟩
  obtain ⟨hck, hn⟩ := hc
  have HT : Hid (takeT l n = takeL l n) := by show _ = _; unfold takeT; rw [if_pos ⟨hck, hn⟩]
  have HOne : Hid (∀ r ∈ l, oneB r = true) := chk_one hck
  have hn2 : ¬ n < 1 := by omega
  rw [hck] at HCk
  clear hck
  go_enter Try.func11, Try.ntmps11
  go_wp2_with fail
  refine HCk.out.mono ?_
  rintro e w2 ⟨rfl, b2⟩
  have HB2 : Hid (Below w1.heap.size w1 w2) := b2
  clear b2 HCk
  go_wp2
  go_loopw [7] (fun iv wr => ∃ m : Nat, m ≤ l.length ∧ iv = .int .i64 m ∧ (∀ r ∈ l.take m, r.c < n) ∧ Below w1.heap.size w1 wr) (fun iv _ => l.length - (intOf iv).toNat)
  case atStart => exact ⟨0, Nat.zero_le _, rfl, fun r hr => (by simp at hr), HB2.out⟩
  case round =>
    obtain ⟨m, hm, rfl, hno, hB⟩ := hrel
    by_cases hlt : m < l.length
    rotate_left
    · obtain rfl : m = l.length := by omega
      rw [List.take_of_length_le (Nat.le_refl _)] at hno
      have hT : Hid (takeT l n = none) := by show _ = _; rw [HT.out]; exact takeL_none.2 hno
      have hg2 := HBx.out _ hB
      have HBf : Hid _ := HBw.out _ hB
      have hlt2 : ¬ ((l.length : Nat) : Int) < (l.length : Int) := by omega
      clear hB hno
      go_wp2_with (refine wpList_store_row rfl 24 (.tmp 4) _ rfl w.heap.size #[.int .i64 0, .int .i64 0] rfl rfl _ _ hg2 (run_size _ _) rfl (run_one _ _) ?_)
      refine bodyPost_ret (v := .tuple #[.agg #[.int .i64 0, .int .i64 0], .slice none 0 0, .bool false]) (results_box2 Try.results11 _ _ w.heap.size _ #[.int .i64 0, .int .i64 0] (0, 0) _ rfl (heap_setRow_same hg2) Try.underlying24 rfl (run_size _ _)) rfl ?_
      rw [hT.out]
      exact ⟨rfl, below_setRow HBf.out (Nat.le_refl _) _⟩
    obtain ⟨r, hr⟩ : ∃ r, l[m]? = some r := ⟨_, List.getElem?_eq_getElem hlt⟩
    obtain ⟨b, o, rfl, k1⟩ := HL.out m r hr
    obtain ⟨c1, c2⟩ := k1 wr (HBw.out _ hB)
    have hlt2 : (m : Int) < (l.length : Int) := by omega
    have hr1 := oneB_iff.1 (HOne.out r (List.mem_of_getElem? hr))
    by_cases hrc : r.c < n
    · have HN : Hid (∀ r ∈ l.take (m + 1), r.c < n) := fun x hx => by
        rw [List.take_add_one, hr] at hx
        rcases List.mem_append.1 hx with h | h
        · exact hno x h
        · simp at h; rw [h]; exact hrc
      have HBf : Hid _ := hB
      clear hB hno hr k1
      go_wp2
      go_roundw
      case rel => exact ⟨m + 1, by omega, by go_num, HN.out, HBf.out⟩
      case measure => simp [intOf]; omega
    have hT : Hid (takeT l n = some (⟨r.s, n⟩, l.take m ++ ((if n < r.c then [⟨r.s + n, r.c - n⟩] else []) ++ l.drop (m + 1)))) := by
      show _ = _; rw [HT.out]; exact takeL_at hno hr (by omega)
    have HK : Hid (∀ w', Below w.heap.size w w' → w'.cell? ⟨b, o + m * 2, none⟩ = some (.int .i64 r.s) ∧ w'.cell? ⟨b, o + m * 2 + 1, none⟩ = some (.int .i64 r.c)) := k1
    have hmr : ∀ v l', (v, l') ∈ [(Value.slice (some ⟨b, o, none⟩) l.length q, l)] → RunsAt wr v l' := fun v l' hm => by
      obtain ⟨rfl, rfl⟩ := Prod.mk.inj (List.mem_singleton.1 hm)
      exact HRa.out _ hB
    have HMe := Mr.empty (w0 := w1) hB hmr
    have hN0 : RunsAt (wr.alloc (.cells #[] 24)) (.slice (some ⟨b, o, none⟩) l.length q) l := HMe.at_ (List.mem_singleton.2 rfl)
    have hN1 : RunsAt (wr.alloc (.cells #[] 24)) (.slice (some ⟨b, o, none⟩) m q) (l.take m) := hN0.take m (by omega)
    have htl : Hid ((l.take m).length = m) := by show _ = _; rw [List.length_take]; omega
    have hlS : Hid (l.length < 100001) := by show _ < _; omega
    have b0 : (m : Int) ≤ (l.length : Int) := by omega
    have b1 : (l.length : Int) ≤ (q : Int) := by omega
    have b2 : (m : Int) ≤ (q : Int) := by omega
    have b3 : (m : Int) + 1 ≤ (l.length : Int) := by omega
    have b4 : (m : Int) + 1 ≤ (q : Int) := by omega
    have b7 : m ≤ q := by omega
    have b8 : (0 : Int) ≤ (m : Int) + 1 := by omega
    have b9 : ¬ ((m : Int) + 1 < 0) := by omega
    have hwm : IntKind.i64.wrap ((m : Int) + 1) = (m : Int) + 1 := by rw [IntKind.wrap_i64]; omega
    have hws : IntKind.i64.wrap (r.s + n) = r.s + n := by rw [IntKind.wrap_i64]; omega
    have hwc : IntKind.i64.wrap (r.c - n) = r.c - n := by rw [IntKind.wrap_i64]; omega
    have hmem : ((Value.slice (some ⟨b, o, none⟩) l.length q, l) : Value × List Rn) ∈ [(Value.slice (some ⟨b, o, none⟩) l.length q, l)] := List.mem_singleton.2 rfl
    have hgle : w.heap.size < wr.heap.size := Nat.lt_of_lt_of_le hlt1 hB.size
    have HDl : Hid ((l.drop (m + 1)).length = l.length - (m + 1)) := by show _ = _; rw [List.length_drop]
    clear hno hr k1 hN0 hmr
    by_cases hgt : n < r.c
    · have hl1 : Hid ((l.take m ++ [(⟨r.s + n, r.c - n⟩ : Rn)]).length = m + 1) := by show _ = _; simp [htl.out]
      have hl2 : Hid (((l.take m ++ [(⟨r.s + n, r.c - n⟩ : Rn)]) ++ l.drop (m + 1)).length = m + 1 + (l.length - (m + 1))) := by show _ = _; rw [List.length_append, hl1.out, HDl.out]
      go_upto_region 9 with (first | (refine wpList_append_mr rfl (.tmp 30) (.tmp 33) rfl HMe _ (l.take m) (l.take m) m rfl rfl hN1 (.inl ⟨_, _, _, _, rfl⟩) rfl htl.out (by omega) ?_; intro xa xc w4 _ HM; obtain ⟨c1, c2⟩ := HK.out w4 (HBw.out _ HM.below); clear HMe hN1) | fail)
      refine wp_region_held (S := Below w.heap.size w) (by kernel_rfl) ?_
      change wpAnyH _ _ _ _ _ _ _ _ (World.drew _)
      have HM := HM.drew
      generalize World.drew _ = w5 at *
      have HX : Below w.heap.size w w5 := HBw.out _ HM.below
      refine wpAnyH_take (i := 0) (v := .slice xa m xc) rfl (by kernel_rfl) (by kernel_rfl) (by kernel_rfl) (fun _ _ _ h => h) (Or.inl ⟨by rfl, by intro w _; go_simp⟩) HX ?_
      simp only [List.getElem_toArray, List.getElem_cons_succ, List.getElem_cons_zero, Act.put, List.setIfInBounds_toArray, List.set_cons_zero, List.set_cons_succ]
      refine wpAnyH_take (i := 1) (v := .slice (some ⟨b, o, none⟩) l.length q) rfl (by kernel_rfl) (by kernel_rfl) (by kernel_rfl) (fun _ _ _ h => h) (Or.inl ⟨by rfl, by intro w _; go_simp⟩) HX ?_
      simp only [List.getElem_toArray, List.getElem_cons_succ, List.getElem_cons_zero, Act.put, List.setIfInBounds_toArray, List.set_cons_zero, List.set_cons_succ]
      refine wpAnyH_take (i := 2) (v := .int .i64 m) rfl (by kernel_rfl) (by kernel_rfl) (by kernel_rfl) (fun _ _ _ h => h) (Or.inl ⟨by rfl, by intro w _; go_simp⟩) HX ?_
      simp only [List.getElem_toArray, List.getElem_cons_succ, List.getElem_cons_zero, Act.put, List.setIfInBounds_toArray, List.set_cons_zero, List.set_cons_succ]
      refine wpAnyH_take (i := 3) (v := .pointer (some ⟨b, o + m * 2, none⟩)) rfl (by kernel_rfl) (by kernel_rfl) (by kernel_rfl) (fun _ _ _ h => h) (Or.inl ⟨by rfl, by intro w _; go_simp⟩) HX ?_
      simp only [List.getElem_toArray, List.getElem_cons_succ, List.getElem_cons_zero, Act.put, List.setIfInBounds_toArray, List.set_cons_zero, List.set_cons_succ]
      refine wpAnyH_take (i := 4) (v := .pointer (some ⟨b, o + m * 2, none⟩)) rfl (by kernel_rfl) (by kernel_rfl) (by kernel_rfl) (fun _ _ _ h => h) (Or.inl ⟨by rfl, by intro w _; go_simp⟩) HX ?_
      simp only [List.getElem_toArray, List.getElem_cons_succ, List.getElem_cons_zero, Act.put, List.setIfInBounds_toArray, List.set_cons_zero, List.set_cons_succ]
      refine wpAnyH_take (i := 5) (v := .int .i64 r.s) rfl (by kernel_rfl) (by kernel_rfl) (by kernel_rfl) (fun _ _ _ h => h) (Or.inl ⟨by rfl, by intro w hw; have hc := (HK.out w hw).1; go_simp⟩) HX ?_
      simp only [List.getElem_toArray, List.getElem_cons_succ, List.getElem_cons_zero, Act.put, List.setIfInBounds_toArray, List.set_cons_zero, List.set_cons_succ]
      refine wpAnyH_take (i := 6) (v := .int .i64 n) rfl (by kernel_rfl) (by kernel_rfl) (by kernel_rfl) (fun _ _ _ h => h) (Or.inl ⟨by rfl, by intro w _; go_simp⟩) HX ?_
      simp only [List.getElem_toArray, List.getElem_cons_succ, List.getElem_cons_zero, Act.put, List.setIfInBounds_toArray, List.set_cons_zero, List.set_cons_succ]
      refine wpAnyH_take (i := 7) (v := .int .i64 (r.s + n)) rfl (by kernel_rfl) (by kernel_rfl) (by kernel_rfl) (fun _ _ _ h => h) (Or.inl ⟨by rfl, by intro w _; go_simp⟩) HX ?_
      simp only [List.getElem_toArray, List.getElem_cons_succ, List.getElem_cons_zero, Act.put, List.setIfInBounds_toArray, List.set_cons_zero, List.set_cons_succ]
      refine wpAnyH_take (i := 8) (v := .slice (some ⟨b, o, none⟩) l.length q) rfl (by kernel_rfl) (by kernel_rfl) (by kernel_rfl) (fun _ _ _ h => h) (Or.inl ⟨by rfl, by intro w _; go_simp⟩) HX ?_
      simp only [List.getElem_toArray, List.getElem_cons_succ, List.getElem_cons_zero, Act.put, List.setIfInBounds_toArray, List.set_cons_zero, List.set_cons_succ]
      refine wpAnyH_take (i := 9) (v := .int .i64 m) rfl (by kernel_rfl) (by kernel_rfl) (by kernel_rfl) (fun _ _ _ h => h) (Or.inl ⟨by rfl, by intro w _; go_simp⟩) HX ?_
      simp only [List.getElem_toArray, List.getElem_cons_succ, List.getElem_cons_zero, Act.put, List.setIfInBounds_toArray, List.set_cons_zero, List.set_cons_succ]
      refine wpAnyH_take (i := 10) (v := .pointer (some ⟨b, o + m * 2, none⟩)) rfl (by kernel_rfl) (by kernel_rfl) (by kernel_rfl) (fun _ _ _ h => h) (Or.inl ⟨by rfl, by intro w _; go_simp⟩) HX ?_
      simp only [List.getElem_toArray, List.getElem_cons_succ, List.getElem_cons_zero, Act.put, List.setIfInBounds_toArray, List.set_cons_zero, List.set_cons_succ]
      refine wpAnyH_take (i := 11) (v := .pointer (some ⟨b, o + m * 2 + 1, none⟩)) rfl (by kernel_rfl) (by kernel_rfl) (by kernel_rfl) (fun _ _ _ h => h) (Or.inl ⟨by rfl, by intro w _; go_simp⟩) HX ?_
      simp only [List.getElem_toArray, List.getElem_cons_succ, List.getElem_cons_zero, Act.put, List.setIfInBounds_toArray, List.set_cons_zero, List.set_cons_succ]
      refine wpAnyH_take (i := 12) (v := .int .i64 r.c) rfl (by kernel_rfl) (by kernel_rfl) (by kernel_rfl) (fun _ _ _ h => h) (Or.inl ⟨by rfl, by intro w hw; have hc := (HK.out w hw).2; go_simp⟩) HX ?_
      simp only [List.getElem_toArray, List.getElem_cons_succ, List.getElem_cons_zero, Act.put, List.setIfInBounds_toArray, List.set_cons_zero, List.set_cons_succ]
      refine wpAnyH_take (i := 13) (v := .int .i64 n) rfl (by kernel_rfl) (by kernel_rfl) (by kernel_rfl) (fun _ _ _ h => h) (Or.inl ⟨by rfl, by intro w _; go_simp⟩) HX ?_
      simp only [List.getElem_toArray, List.getElem_cons_succ, List.getElem_cons_zero, Act.put, List.setIfInBounds_toArray, List.set_cons_zero, List.set_cons_succ]
      refine wpAnyH_take (i := 14) (v := .int .i64 (r.c - n)) rfl (by kernel_rfl) (by kernel_rfl) (by kernel_rfl) (fun _ _ _ h => h) (Or.inl ⟨by rfl, by intro w _; go_simp⟩) HX ?_
      simp only [List.getElem_toArray, List.getElem_cons_succ, List.getElem_cons_zero, Act.put, List.setIfInBounds_toArray, List.set_cons_zero, List.set_cons_succ]
      refine wpAnyH_take (i := 15) (v := .agg #[.int .i64 (r.s + n), .int .i64 (r.c - n)]) rfl (by kernel_rfl) (by kernel_rfl) (by kernel_rfl) (fun _ _ _ h => h) (Or.inl ⟨by rfl, by intro w _; go_simp⟩) HX ?_
      simp only [List.getElem_toArray, List.getElem_cons_succ, List.getElem_cons_zero, Act.put, List.setIfInBounds_toArray, List.set_cons_zero, List.set_cons_succ]
      refine wpAnyH_ready (rs := [16]) (by kernel_rfl) (by simp) (AllReadyH.cons (by simp only [List.getElem?_toArray, List.getElem?_cons_succ, List.getElem?_cons_zero]; rfl) (fun K hK => ?_) AllReadyH.nil)
      refine step_plain rfl ?_
      go_simp
      have HX := HX.alloc (Nat.le_trans HX.size (Nat.le_refl _)) (.cells #[.int .i64 (r.s + n), .int .i64 (r.c - n)] 24)
      refine hK.out _ _ HX (fun _ => ?_)
      clear hK K
      try simp only [List.getElem_toArray, List.getElem_cons_succ, List.getElem_cons_zero, Act.put, List.setIfInBounds_toArray, List.set_cons_zero, List.set_cons_succ]
      have HM := HM.alloc (.cells #[.int .i64 (r.s + n), .int .i64 (r.c - n)] 24)
      have hR := RunsAt.made w5 (r.s + n) (r.c - n)
      generalize w5.alloc (.cells #[.int .i64 (r.s + n), .int .i64 (r.c - n)] 24) = w6 at *
      generalize w5.heap.size = rg at *
      refine wpAnyH_ready (rs := [17]) (by kernel_rfl) (by simp) (AllReadyH.cons (by simp only [List.getElem?_toArray, List.getElem?_cons_succ, List.getElem?_cons_zero]; rfl) (fun K hK => ?_) AllReadyH.nil)
      refine step_plain rfl ?_
      refine wp_append_mr (.tmp 42) (.tmp 58) rfl HM (.slice (some ⟨rg, 0, none⟩) 1 1) [⟨r.s + n, r.c - n⟩] (l.take m ++ [⟨r.s + n, r.c - n⟩]) (m + 1) rfl rfl hR (Or.inl ⟨_, _, _, _, rfl⟩) rfl hl1.out (by omega) ?_
      clear HM HX
      intro ya yc w7 _ HM
      have HX : Below w.heap.size w w7 := HBw.out _ HM.below
      refine hK.out _ _ HX (fun _ => ?_)
      clear hK K
      try simp only [List.getElem_toArray, List.getElem_cons_succ, List.getElem_cons_zero, Act.put, List.setIfInBounds_toArray, List.set_cons_zero, List.set_cons_succ]
      refine wpAnyH_take (i := 18) (v := .slice ya (m + 1) yc) rfl (by kernel_rfl) (by kernel_rfl) (by kernel_rfl) (fun _ _ _ h => h) (Or.inl ⟨by rfl, by intro w _; go_simp⟩) HX ?_
      simp only [List.getElem_toArray, List.getElem_cons_succ, List.getElem_cons_zero, Act.put, List.setIfInBounds_toArray, List.set_cons_zero, List.set_cons_succ]
      refine wpAnyH_done (by kernel_rfl) ?_ _
      clear HX hR
      go_upto_region 10 with fail
      refine wp_region_held (S := Below w.heap.size w) (by kernel_rfl) ?_
      change wpAnyH _ _ _ _ _ _ _ _ (World.drew _)
      have HM := HM.drew
      generalize World.drew _ = w9 at *
      have HX : Below w.heap.size w w9 := HBw.out _ HM.below
      refine wpAnyH_take (i := 0) (v := .slice (some ⟨b, o, none⟩) l.length q) rfl (by kernel_rfl) (by kernel_rfl) (by kernel_rfl) (fun _ _ _ h => h) (Or.inl ⟨by rfl, by intro w _; go_simp⟩) HX ?_
      simp only [List.getElem_toArray, List.getElem_cons_succ, List.getElem_cons_zero, Act.put, List.setIfInBounds_toArray, List.set_cons_zero, List.set_cons_succ]
      refine wpAnyH_take (i := 1) (v := .int .i64 m) rfl (by kernel_rfl) (by kernel_rfl) (by kernel_rfl) (fun _ _ _ h => h) (Or.inl ⟨by rfl, by intro w _; go_simp⟩) HX ?_
      simp only [List.getElem_toArray, List.getElem_cons_succ, List.getElem_cons_zero, Act.put, List.setIfInBounds_toArray, List.set_cons_zero, List.set_cons_succ]
      refine wpAnyH_take (i := 2) (v := .pointer (some ⟨b, o + m * 2, none⟩)) rfl (by kernel_rfl) (by kernel_rfl) (by kernel_rfl) (fun _ _ _ h => h) (Or.inl ⟨by rfl, by intro w _; go_simp⟩) HX ?_
      simp only [List.getElem_toArray, List.getElem_cons_succ, List.getElem_cons_zero, Act.put, List.setIfInBounds_toArray, List.set_cons_zero, List.set_cons_succ]
      refine wpAnyH_take (i := 3) (v := .pointer (some ⟨b, o + m * 2, none⟩)) rfl (by kernel_rfl) (by kernel_rfl) (by kernel_rfl) (fun _ _ _ h => h) (Or.inl ⟨by rfl, by intro w _; go_simp⟩) HX ?_
      simp only [List.getElem_toArray, List.getElem_cons_succ, List.getElem_cons_zero, Act.put, List.setIfInBounds_toArray, List.set_cons_zero, List.set_cons_succ]
      refine wpAnyH_take (i := 4) (v := .int .i64 r.s) rfl (by kernel_rfl) (by kernel_rfl) (by kernel_rfl) (fun _ _ _ h => h) (Or.inl ⟨by rfl, by intro w hw; have hc := (HK.out w hw).1; go_simp⟩) HX ?_
      simp only [List.getElem_toArray, List.getElem_cons_succ, List.getElem_cons_zero, Act.put, List.setIfInBounds_toArray, List.set_cons_zero, List.set_cons_succ]
      refine wpAnyH_take (i := 5) (v := .int .i64 n) rfl (by kernel_rfl) (by kernel_rfl) (by kernel_rfl) (fun _ _ _ h => h) (Or.inl ⟨by rfl, by intro w _; go_simp⟩) HX ?_
      simp only [List.getElem_toArray, List.getElem_cons_succ, List.getElem_cons_zero, Act.put, List.setIfInBounds_toArray, List.set_cons_zero, List.set_cons_succ]
      refine wpAnyH_take (i := 6) (v := .agg #[.int .i64 r.s, .int .i64 n]) rfl (by kernel_rfl) (by kernel_rfl) (by kernel_rfl) (fun _ _ _ h => h) (Or.inl ⟨by rfl, by intro w _; go_simp⟩) HX ?_
      simp only [List.getElem_toArray, List.getElem_cons_succ, List.getElem_cons_zero, Act.put, List.setIfInBounds_toArray, List.set_cons_zero, List.set_cons_succ]
      refine wpAnyH_take (i := 7) (v := .slice ya (m + 1) yc) rfl (by kernel_rfl) (by kernel_rfl) (by kernel_rfl) (fun _ _ _ h => h) (Or.inl ⟨by rfl, by intro w _; go_simp⟩) HX ?_
      simp only [List.getElem_toArray, List.getElem_cons_succ, List.getElem_cons_zero, Act.put, List.setIfInBounds_toArray, List.set_cons_zero, List.set_cons_succ]
      refine wpAnyH_take (i := 8) (v := .slice (some ⟨b, o, none⟩) l.length q) rfl (by kernel_rfl) (by kernel_rfl) (by kernel_rfl) (fun _ _ _ h => h) (Or.inl ⟨by rfl, by intro w _; go_simp⟩) HX ?_
      simp only [List.getElem_toArray, List.getElem_cons_succ, List.getElem_cons_zero, Act.put, List.setIfInBounds_toArray, List.set_cons_zero, List.set_cons_succ]
      refine wpAnyH_take (i := 9) (v := .int .i64 m) rfl (by kernel_rfl) (by kernel_rfl) (by kernel_rfl) (fun _ _ _ h => h) (Or.inl ⟨by rfl, by intro w _; go_simp⟩) HX ?_
      simp only [List.getElem_toArray, List.getElem_cons_succ, List.getElem_cons_zero, Act.put, List.setIfInBounds_toArray, List.set_cons_zero, List.set_cons_succ]
      refine wpAnyH_take (i := 10) (v := .int .i64 ((m : Int) + 1)) rfl (by kernel_rfl) (by kernel_rfl) (by kernel_rfl) (fun _ _ _ h => h) (Or.inl ⟨by rfl, by intro w _; go_simp⟩) HX ?_
      simp only [List.getElem_toArray, List.getElem_cons_succ, List.getElem_cons_zero, Act.put, List.setIfInBounds_toArray, List.set_cons_zero, List.set_cons_succ]
      refine wpAnyH_take (i := 11) (v := .slice (if q = m + 1 then some ⟨b, o, none⟩ else some ⟨b, o + (m + 1) * 2, none⟩) (l.length - (m + 1)) (q - (m + 1))) rfl (by kernel_rfl) (by kernel_rfl) (by kernel_rfl) (fun _ _ _ h => h) (Or.inl ⟨by rfl, by intro w _; go_simp⟩) HX ?_
      simp only [List.getElem_toArray, List.getElem_cons_succ, List.getElem_cons_zero, Act.put, List.setIfInBounds_toArray, List.set_cons_zero, List.set_cons_succ]
      have hR := (HM.at_ hmem).rest (m + 1) (by omega) hcap
      refine wpAnyH_ready (rs := [12]) (by kernel_rfl) (by simp) (AllReadyH.cons (by simp only [List.getElem?_toArray, List.getElem?_cons_succ, List.getElem?_cons_zero]; rfl) (fun K hK => ?_) AllReadyH.nil)
      refine step_plain rfl ?_
      refine wp_append_mr (.tmp 67) (.tmp 71) rfl HM (.slice (if q = m + 1 then some ⟨b, o, none⟩ else some ⟨b, o + (m + 1) * 2, none⟩) (l.length - (m + 1)) (q - (m + 1))) (l.drop (m + 1)) ((l.take m ++ [(⟨r.s + n, r.c - n⟩ : Rn)]) ++ l.drop (m + 1)) (m + 1 + (l.length - (m + 1))) rfl rfl hR ?_ rfl hl2.out (by omega) ?_
      · split
        · exact .inl ⟨_, _, _, _, rfl⟩
        · exact .inl ⟨_, _, _, _, rfl⟩
      clear HM HX hR
      intro za zc w8 _ HM
      have HX : Below w.heap.size w w8 := HBw.out _ HM.below
      refine hK.out _ _ HX (fun _ => ?_)
      clear hK K
      try simp only [List.getElem_toArray, List.getElem_cons_succ, List.getElem_cons_zero, Act.put, List.setIfInBounds_toArray, List.set_cons_zero, List.set_cons_succ]
      have hg8 := HBx.out _ HM.below
      have HX2 := below_setRow HX (Nat.le_refl _) #[.int .i64 r.s, .int .i64 n]
      refine wpAnyH_ready (rs := [13]) (by kernel_rfl) (by simp) (AllReadyH.cons (by simp only [List.getElem?_toArray, List.getElem?_cons_succ, List.getElem?_cons_zero]; rfl) (fun K hK => ?_) AllReadyH.nil)
      refine step_plain rfl ?_
      refine wp_store_row 24 (.tmp 4) _ rfl w.heap.size #[.int .i64 r.s, .int .i64 n] rfl rfl _ _ hg8 (run_size _ _) rfl (run_one _ _) ?_
      refine hK.out _ _ HX2 (fun _ => ?_)
      clear hK K
      try simp only [List.getElem_toArray, List.getElem_cons_succ, List.getElem_cons_zero, Act.put, List.setIfInBounds_toArray, List.set_cons_zero, List.set_cons_succ]
      refine wpAnyH_take (i := 14) (v := .slice za (m + 1 + (l.length - (m + 1))) zc) rfl (by kernel_rfl) (by kernel_rfl) (by kernel_rfl) (fun _ _ _ h => h) (Or.inl ⟨by rfl, by intro w _; go_simp⟩) HX2 ?_
      simp only [List.getElem_toArray, List.getElem_cons_succ, List.getElem_cons_zero, Act.put, List.setIfInBounds_toArray, List.set_cons_zero, List.set_cons_succ]
      refine wpAnyH_take (i := 15) (v := .bool true) rfl (by kernel_rfl) (by kernel_rfl) (by kernel_rfl) (fun _ _ _ h => h) (Or.inl ⟨by rfl, by intro w _; go_simp⟩) HX2 ?_
      simp only [List.getElem_toArray, List.getElem_cons_succ, List.getElem_cons_zero, Act.put, List.setIfInBounds_toArray, List.set_cons_zero, List.set_cons_succ]
      refine wpAnyH_done (by kernel_rfl) ?_ _
      have HF : Hid (TakeSays w w.heap.size (some (⟨r.s, n⟩, (l.take m ++ [(⟨r.s + n, r.c - n⟩ : Rn)]) ++ l.drop (m + 1))) (.returned (.tuple #[.agg #[.int .i64 r.s, .int .i64 n], .slice za (m + 1 + (l.length - (m + 1))) zc, .bool true])) (w8.setRow w.heap.size #[.int .i64 r.s, .int .i64 n])) :=
        ⟨za, zc, by rw [hl2.out]; rfl, by rw [hl2.out]; have := HM.owns; rw [hl2.out] at this; exact owns_lower (owns_setRow this hgle) (by omega), HX2⟩
      have hg9 := heap_setRow_same (ds := #[.int .i64 r.s, .int .i64 n]) hg8
      clear HX HX2 HM hg8
      go_wp2
      all_goals
        refine bodyPost_ret (v := .tuple #[.agg #[.int .i64 r.s, .int .i64 n], .slice za (m + 1 + (l.length - (m + 1))) zc, .bool true]) (results_box2 Try.results11 _ _ w.heap.size _ #[.int .i64 r.s, .int .i64 n] (0, 0) _ rfl hg9 Try.underlying24 rfl (run_size _ _)) rfl ?_
        rw [hT.out, if_pos (by omega), ← List.append_assoc]
        exact HF.out
    · have hl2 : Hid ((l.take m ++ l.drop (m + 1)).length = m + (l.length - (m + 1))) := by show _ = _; rw [List.length_append, htl.out, HDl.out]
      go_upto_region 10 with (first | (refine wpList_append_mr rfl (.tmp 30) (.tmp 33) rfl HMe _ (l.take m) (l.take m) m rfl rfl hN1 (.inl ⟨_, _, _, _, rfl⟩) rfl htl.out (by omega) ?_; intro xa xc w4 _ HM; obtain ⟨c1, c2⟩ := HK.out w4 (HBw.out _ HM.below); clear HMe hN1) | fail)
      refine wp_region_held (S := Below w.heap.size w) (by kernel_rfl) ?_
      change wpAnyH _ _ _ _ _ _ _ _ (World.drew _)
      have HM := HM.drew
      generalize World.drew _ = w9 at *
      have HX : Below w.heap.size w w9 := HBw.out _ HM.below
      refine wpAnyH_take (i := 0) (v := .slice (some ⟨b, o, none⟩) l.length q) rfl (by kernel_rfl) (by kernel_rfl) (by kernel_rfl) (fun _ _ _ h => h) (Or.inl ⟨by rfl, by intro w _; go_simp⟩) HX ?_
      simp only [List.getElem_toArray, List.getElem_cons_succ, List.getElem_cons_zero, Act.put, List.setIfInBounds_toArray, List.set_cons_zero, List.set_cons_succ]
      refine wpAnyH_take (i := 1) (v := .int .i64 m) rfl (by kernel_rfl) (by kernel_rfl) (by kernel_rfl) (fun _ _ _ h => h) (Or.inl ⟨by rfl, by intro w _; go_simp⟩) HX ?_
      simp only [List.getElem_toArray, List.getElem_cons_succ, List.getElem_cons_zero, Act.put, List.setIfInBounds_toArray, List.set_cons_zero, List.set_cons_succ]
      refine wpAnyH_take (i := 2) (v := .pointer (some ⟨b, o + m * 2, none⟩)) rfl (by kernel_rfl) (by kernel_rfl) (by kernel_rfl) (fun _ _ _ h => h) (Or.inl ⟨by rfl, by intro w _; go_simp⟩) HX ?_
      simp only [List.getElem_toArray, List.getElem_cons_succ, List.getElem_cons_zero, Act.put, List.setIfInBounds_toArray, List.set_cons_zero, List.set_cons_succ]
      refine wpAnyH_take (i := 3) (v := .pointer (some ⟨b, o + m * 2, none⟩)) rfl (by kernel_rfl) (by kernel_rfl) (by kernel_rfl) (fun _ _ _ h => h) (Or.inl ⟨by rfl, by intro w _; go_simp⟩) HX ?_
      simp only [List.getElem_toArray, List.getElem_cons_succ, List.getElem_cons_zero, Act.put, List.setIfInBounds_toArray, List.set_cons_zero, List.set_cons_succ]
      refine wpAnyH_take (i := 4) (v := .int .i64 r.s) rfl (by kernel_rfl) (by kernel_rfl) (by kernel_rfl) (fun _ _ _ h => h) (Or.inl ⟨by rfl, by intro w hw; have hc := (HK.out w hw).1; go_simp⟩) HX ?_
      simp only [List.getElem_toArray, List.getElem_cons_succ, List.getElem_cons_zero, Act.put, List.setIfInBounds_toArray, List.set_cons_zero, List.set_cons_succ]
      refine wpAnyH_take (i := 5) (v := .int .i64 n) rfl (by kernel_rfl) (by kernel_rfl) (by kernel_rfl) (fun _ _ _ h => h) (Or.inl ⟨by rfl, by intro w _; go_simp⟩) HX ?_
      simp only [List.getElem_toArray, List.getElem_cons_succ, List.getElem_cons_zero, Act.put, List.setIfInBounds_toArray, List.set_cons_zero, List.set_cons_succ]
      refine wpAnyH_take (i := 6) (v := .agg #[.int .i64 r.s, .int .i64 n]) rfl (by kernel_rfl) (by kernel_rfl) (by kernel_rfl) (fun _ _ _ h => h) (Or.inl ⟨by rfl, by intro w _; go_simp⟩) HX ?_
      simp only [List.getElem_toArray, List.getElem_cons_succ, List.getElem_cons_zero, Act.put, List.setIfInBounds_toArray, List.set_cons_zero, List.set_cons_succ]
      refine wpAnyH_take (i := 7) (v := .slice xa m xc) rfl (by kernel_rfl) (by kernel_rfl) (by kernel_rfl) (fun _ _ _ h => h) (Or.inl ⟨by rfl, by intro w _; go_simp⟩) HX ?_
      simp only [List.getElem_toArray, List.getElem_cons_succ, List.getElem_cons_zero, Act.put, List.setIfInBounds_toArray, List.set_cons_zero, List.set_cons_succ]
      refine wpAnyH_take (i := 8) (v := .slice (some ⟨b, o, none⟩) l.length q) rfl (by kernel_rfl) (by kernel_rfl) (by kernel_rfl) (fun _ _ _ h => h) (Or.inl ⟨by rfl, by intro w _; go_simp⟩) HX ?_
      simp only [List.getElem_toArray, List.getElem_cons_succ, List.getElem_cons_zero, Act.put, List.setIfInBounds_toArray, List.set_cons_zero, List.set_cons_succ]
      refine wpAnyH_take (i := 9) (v := .int .i64 m) rfl (by kernel_rfl) (by kernel_rfl) (by kernel_rfl) (fun _ _ _ h => h) (Or.inl ⟨by rfl, by intro w _; go_simp⟩) HX ?_
      simp only [List.getElem_toArray, List.getElem_cons_succ, List.getElem_cons_zero, Act.put, List.setIfInBounds_toArray, List.set_cons_zero, List.set_cons_succ]
      refine wpAnyH_take (i := 10) (v := .int .i64 ((m : Int) + 1)) rfl (by kernel_rfl) (by kernel_rfl) (by kernel_rfl) (fun _ _ _ h => h) (Or.inl ⟨by rfl, by intro w _; go_simp⟩) HX ?_
      simp only [List.getElem_toArray, List.getElem_cons_succ, List.getElem_cons_zero, Act.put, List.setIfInBounds_toArray, List.set_cons_zero, List.set_cons_succ]
      refine wpAnyH_take (i := 11) (v := .slice (if q = m + 1 then some ⟨b, o, none⟩ else some ⟨b, o + (m + 1) * 2, none⟩) (l.length - (m + 1)) (q - (m + 1))) rfl (by kernel_rfl) (by kernel_rfl) (by kernel_rfl) (fun _ _ _ h => h) (Or.inl ⟨by rfl, by intro w _; go_simp⟩) HX ?_
      simp only [List.getElem_toArray, List.getElem_cons_succ, List.getElem_cons_zero, Act.put, List.setIfInBounds_toArray, List.set_cons_zero, List.set_cons_succ]
      have hR := (HM.at_ hmem).rest (m + 1) (by omega) hcap
      refine wpAnyH_ready (rs := [12]) (by kernel_rfl) (by simp) (AllReadyH.cons (by simp only [List.getElem?_toArray, List.getElem?_cons_succ, List.getElem?_cons_zero]; rfl) (fun K hK => ?_) AllReadyH.nil)
      refine step_plain rfl ?_
      refine wp_append_mr (.tmp 67) (.tmp 71) rfl HM (.slice (if q = m + 1 then some ⟨b, o, none⟩ else some ⟨b, o + (m + 1) * 2, none⟩) (l.length - (m + 1)) (q - (m + 1))) (l.drop (m + 1)) (l.take m ++ l.drop (m + 1)) (m + (l.length - (m + 1))) rfl rfl hR ?_ rfl hl2.out (by omega) ?_
      · split
        · exact .inl ⟨_, _, _, _, rfl⟩
        · exact .inl ⟨_, _, _, _, rfl⟩
      clear HM HX hR
      intro za zc w8 _ HM
      have HX : Below w.heap.size w w8 := HBw.out _ HM.below
      refine hK.out _ _ HX (fun _ => ?_)
      clear hK K
      try simp only [List.getElem_toArray, List.getElem_cons_succ, List.getElem_cons_zero, Act.put, List.setIfInBounds_toArray, List.set_cons_zero, List.set_cons_succ]
      have hg8 := HBx.out _ HM.below
      have HX2 := below_setRow HX (Nat.le_refl _) #[.int .i64 r.s, .int .i64 n]
      refine wpAnyH_ready (rs := [13]) (by kernel_rfl) (by simp) (AllReadyH.cons (by simp only [List.getElem?_toArray, List.getElem?_cons_succ, List.getElem?_cons_zero]; rfl) (fun K hK => ?_) AllReadyH.nil)
      refine step_plain rfl ?_
      refine wp_store_row 24 (.tmp 4) _ rfl w.heap.size #[.int .i64 r.s, .int .i64 n] rfl rfl _ _ hg8 (run_size _ _) rfl (run_one _ _) ?_
      refine hK.out _ _ HX2 (fun _ => ?_)
      clear hK K
      try simp only [List.getElem_toArray, List.getElem_cons_succ, List.getElem_cons_zero, Act.put, List.setIfInBounds_toArray, List.set_cons_zero, List.set_cons_succ]
      refine wpAnyH_take (i := 14) (v := .slice za (m + (l.length - (m + 1))) zc) rfl (by kernel_rfl) (by kernel_rfl) (by kernel_rfl) (fun _ _ _ h => h) (Or.inl ⟨by rfl, by intro w _; go_simp⟩) HX2 ?_
      simp only [List.getElem_toArray, List.getElem_cons_succ, List.getElem_cons_zero, Act.put, List.setIfInBounds_toArray, List.set_cons_zero, List.set_cons_succ]
      refine wpAnyH_take (i := 15) (v := .bool true) rfl (by kernel_rfl) (by kernel_rfl) (by kernel_rfl) (fun _ _ _ h => h) (Or.inl ⟨by rfl, by intro w _; go_simp⟩) HX2 ?_
      simp only [List.getElem_toArray, List.getElem_cons_succ, List.getElem_cons_zero, Act.put, List.setIfInBounds_toArray, List.set_cons_zero, List.set_cons_succ]
      refine wpAnyH_done (by kernel_rfl) ?_ _
      have HF : Hid (TakeSays w w.heap.size (some (⟨r.s, n⟩, l.take m ++ l.drop (m + 1))) (.returned (.tuple #[.agg #[.int .i64 r.s, .int .i64 n], .slice za (m + (l.length - (m + 1))) zc, .bool true])) (w8.setRow w.heap.size #[.int .i64 r.s, .int .i64 n])) :=
        ⟨za, zc, by rw [hl2.out]; rfl, by rw [hl2.out]; have := HM.owns; rw [hl2.out] at this; exact owns_lower (owns_setRow this hgle) (by omega), HX2⟩
      have hg9 := heap_setRow_same (ds := #[.int .i64 r.s, .int .i64 n]) hg8
      clear HX HX2 HM hg8
      go_wp2
      all_goals
        refine bodyPost_ret (v := .tuple #[.agg #[.int .i64 r.s, .int .i64 n], .slice za (m + (l.length - (m + 1))) zc, .bool true]) (results_box2 Try.results11 _ _ w.heap.size _ #[.int .i64 r.s, .int .i64 n] (0, 0) _ rfl hg9 Try.underlying24 rfl (run_size _ _)) rfl ?_
        rw [hT.out, if_neg (by omega), List.nil_append]
        exact HF.out
end Go.Proofs.Ytbnfhhjgalphgaa
