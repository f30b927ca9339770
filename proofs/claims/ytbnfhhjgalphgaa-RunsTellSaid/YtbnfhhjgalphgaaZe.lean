/- The program's Take (layer 7). -/
import Derived.Test.YtbnfhhjgalphgaaZb
import Derived.Test.YtbnfhhjgalphgaaZd
namespace Go.Proofs.Ytbnfhhjgalphgaa
open Go.RowKit

/-- The box of n, and what is old. -/
structure TkB (w : World) (n : Int) (w' : World) : Prop where
  below : Below w.heap.size w w'
  cn : w'.heap[w.heap.size]? = some (.cells #[.int .i64 n] 3 (0, 0))
theorem TkB.n0 {w w' : World} {n : Int} (h : TkB w n w') : w'.cell? ⟨w.heap.size, 0, none⟩ = some (.int .i64 n) := by rw [cell_of_row _ _ _ _ _ _ h.cn]; rfl
/-- The boxes of n and of the result. -/
structure TkS (w : World) (rb : Nat) (n : Int) (y z : Value) (w' : World) : Prop where
  below : Below w.heap.size w w'
  cn : w'.heap[w.heap.size]? = some (.cells #[.int .i64 n] 3 (0, 0))
  cr : w'.heap[rb]? = some (.cells #[y, z] 24 (0, 0))
  ne : w.heap.size < rb
section
variable {w w' w'' : World} {rb lb : Nat} {n rs rc : Int} {y z : Value}
theorem TkS.base (h : TkS w rb n y z w') : TkB w n w' := ⟨h.below, h.cn⟩
theorem TkS.lt (h : TkS w rb n y z w') : rb < w'.heap.size := (Array.getElem?_eq_some_iff.1 h.cr).1
theorem TkS.n0 (h : TkS w rb n y z w') : w'.cell? ⟨w.heap.size, 0, none⟩ = some (.int .i64 n) := h.base.n0
theorem TkS.r0 (h : TkS w rb n y z w') : w'.cell? ⟨rb, 0, none⟩ = some y := by rw [cell_of_row _ _ _ _ _ _ h.cr]; rfl
theorem TkS.r1 (h : TkS w rb n y z w') : w'.cell? ⟨rb, 1, none⟩ = some z := by rw [cell_of_row _ _ _ _ _ _ h.cr]; rfl
theorem TkS.next (h : TkS w rb n y z w') (hb : Below w'.heap.size w' w'') : TkS w rb n y z w'' :=
  ⟨h.below.trans (hb.mono h.below.size), (hb.block _ (Nat.lt_trans h.ne h.lt)).trans h.cn, (hb.block _ h.lt).trans h.cr, h.ne⟩
theorem TkS.drew (h : TkS w rb n y z w') : TkS w rb n y z w'.drew := h.next (Below.refl _ _).drew
theorem TkS.alloc (h : TkS w rb n y z w') (o : Obj) : TkS w rb n y z (w'.alloc o) := h.next ((Below.refl _ _).alloc (Nat.le_refl _) _)
theorem TkS.turn (h : TkS w rb n y z w') (y' z' : Value) : TkS w rb n y' z' (w'.setRow rb #[y', z']) :=
  ⟨below_setRow h.below (Nat.le_of_lt h.ne) _, by rw [heap_setRow_ne (Nat.ne_of_lt h.ne)]; exact h.cn, heap_setRow_same h.cr, h.ne⟩
theorem TkS.far (h : TkS w rb n y z w') {k : Nat} (hk : rb < k) (ds : Array Value) : TkS w rb n y z (w'.setRow k ds) :=
  ⟨below_setRow h.below (Nat.le_of_lt (Nat.lt_trans h.ne hk)) _, by rw [heap_setRow_ne (Nat.ne_of_lt (Nat.lt_trans h.ne hk))]; exact h.cn, by rw [heap_setRow_ne (Nat.ne_of_lt hk)]; exact h.cr, h.ne⟩
/-- The box of what is left, too. -/
structure TkL (w : World) (rb lb : Nat) (n rs rc : Int) (w' : World) : Prop where
  tk : TkS w rb n (.int .i64 rs) (.int .i64 n) w'
  cl : w'.heap[lb]? = some (.cells #[.int .i64 (rs + n), .int .i64 (rc - n)] 24 (0, 0))
  lt : rb < lb
theorem TkL.l0 (h : TkL w rb lb n rs rc w') : w'.cell? ⟨lb, 0, none⟩ = some (.int .i64 (rs + n)) := by rw [cell_of_row _ _ _ _ _ _ h.cl]; rfl
theorem TkL.l1 (h : TkL w rb lb n rs rc w') : w'.cell? ⟨lb, 1, none⟩ = some (.int .i64 (rc - n)) := by rw [cell_of_row _ _ _ _ _ _ h.cl]; rfl
theorem TkL.next (h : TkL w rb lb n rs rc w') (hb : Below w'.heap.size w' w'') : TkL w rb lb n rs rc w'' :=
  ⟨h.tk.next hb, (hb.block _ (Array.getElem?_eq_some_iff.1 h.cl).1).trans h.cl, h.lt⟩
theorem TkL.drew (h : TkL w rb lb n rs rc w') : TkL w rb lb n rs rc w'.drew := h.next (Below.refl _ _).drew
theorem TkL.alloc (h : TkL w rb lb n rs rc w') (o : Obj) : TkL w rb lb n rs rc (w'.alloc o) := h.next ((Below.refl _ _).alloc (Nat.le_refl _) _)
theorem TkL.turn (h : TkL w rb lb n rs rc w') (y z : Value) (hy : y = .int .i64 rs := by rfl) (hz : z = .int .i64 n := by rfl) : TkL w rb lb n rs rc (w'.setRow rb #[y, z]) := by
  subst hy hz
  exact ⟨h.tk.turn _ _, by rw [heap_setRow_ne (Nat.ne_of_gt h.lt)]; exact h.cl, h.lt⟩
end
set_option maxRecDepth 100000 in
set_option maxHeartbeats 4000000 in
set_option linter.unusedSimpArgs false in
theorem take_any {w : World} {v : Value} {l : List Rn} (n : Int) (h : RunsAt w v l) (hq : ∀ a n c, v = .slice a n c → n ≤ c) (hf : fitR l) (hl : l.length ≤ 100000) (hn0 : -9223372036854775808 ≤ n) (hn1 : n < 9223372036854775808) :
    Calls Try.prog 10 #[v, .int .i64 n] w fun e w' => TakeSays w w.heap.size (takeT l n) e w' := by
  obtain ⟨a, q, rfl, -⟩ := id h
  obtain ⟨w0, hw0⟩ : ∃ w0, w.alloc (.cells #[.int .i64 n] 3) = w0 := ⟨_, rfl⟩
  obtain ⟨w1, hw1⟩ : ∃ w1, w0.alloc (.cells #[.int .i64 0, .int .i64 0] 24) = w1 := ⟨_, rfl⟩
  obtain ⟨rb, hrb⟩ : ∃ rb, w0.heap.size = rb := ⟨_, rfl⟩
  have hTk : TkS w rb n (.int .i64 0) (.int .i64 0) w1 := by
    rw [← hw1, ← hrb, ← hw0]
    refine ⟨((Below.refl _ _).alloc (Nat.le_refl _) _).alloc (by simp) _, ?_, heap_alloc_last _ _, by simp⟩
    exact (((Below.refl (w.alloc _).heap.size _).alloc (Nat.le_refl _) _).block _ (by simp)).trans (heap_alloc_last w _)
  have HTk : Hid _ := hTk
  have c0 := hTk.n0
  have HCk : Hid (Calls Try.prog 17 #[.slice a l.length q] w1 fun e w' => e = .returned (.bool (chkB l)) ∧ Below w1.heap.size w1 w') := check_any (h.below hTk.below) hf (by omega)
  have HL : Hid _ := h.cells.2
  have hcap : l.length ≤ q := hq _ _ _ rfl
  have HRa : Hid (∀ w', Below w.heap.size w w' → RunsAt w' (.slice a l.length q) l) := fun w' hb => h.below hb
  clear h hf hTk hq
  by_cases hc : chkB l = true ∧ 1 ≤ n
  rotate_left
  · have hT : Hid (takeT l n = none) := takeT_none' hc
    rw [hT.out]
    have hcase : n < 1 ∨ (1 ≤ n ∧ chkB l = false) := by
      by_cases h : n < 1
      · exact .inl h
      · cases hk : chkB l with
        | false => exact .inr ⟨by omega, rfl⟩
        | true => exact absurd ⟨hk, by omega⟩ hc
    clear hc
    rcases hcase with hn | ⟨hn, hk⟩
    · have hg2 := HTk.out.cr
      have HB2 : Hid _ := HTk.out.below
      have hge : w.heap.size ≤ rb := Nat.le_of_lt HTk.out.ne
      go_enter Try.func10, Try.ntmps10
      go_wp2_with (refine wpList_store_row rfl 24 (.tmp 4) _ rfl rb #[.int .i64 0, .int .i64 0] rfl rfl _ _ hg2 (run_size _ _) rfl (run_one _ _) ?_)
      exact bodyPost_ret (v := .tuple #[.agg #[.int .i64 0, .int .i64 0], .slice none 0 0, .bool false]) (results_box2 Try.results10 _ _ rb _ #[.int .i64 0, .int .i64 0] (0, 0) _ rfl (heap_setRow_same hg2) Try.underlying24 rfl (run_size _ _)) rfl ⟨rfl, below_setRow HB2.out hge _⟩
    · have hn2 : ¬ n < 1 := by omega
      rw [hk] at HCk
      clear hk
      go_enter Try.func10, Try.ntmps10
      go_wp2_with fail
      refine HCk.out.mono ?_
      rintro e w2 ⟨rfl, b2⟩
      have hX := HTk.out.next b2
      have hg2 := hX.cr
      have HB2 : Hid _ := hX.below
      have hge : w.heap.size ≤ rb := Nat.le_of_lt hX.ne
      clear b2 hX
      go_wp2_with (refine wpList_store_row rfl 24 (.tmp 4) _ rfl rb #[.int .i64 0, .int .i64 0] rfl rfl _ _ hg2 (run_size _ _) rfl (run_one _ _) ?_)
      exact bodyPost_ret (v := .tuple #[.agg #[.int .i64 0, .int .i64 0], .slice none 0 0, .bool false]) (results_box2 Try.results10 _ _ rb _ #[.int .i64 0, .int .i64 0] (0, 0) _ rfl (heap_setRow_same hg2) Try.underlying24 rfl (run_size _ _)) rfl ⟨rfl, below_setRow HB2.out hge _⟩
  obtain ⟨hck, hn⟩ := hc
  have HT : Hid (takeT l n = takeL l n) := by show _ = _; unfold takeT; rw [if_pos ⟨hck, hn⟩]
  have HOne : Hid (∀ r ∈ l, oneB r = true) := chk_one hck
  have hn2 : ¬ n < 1 := by omega
  rw [hck] at HCk
  clear hck
  go_enter Try.func10, Try.ntmps10
  go_wp2_with fail
  refine HCk.out.mono ?_
  rintro e w2 ⟨rfl, b2⟩
  have HX : TkS w rb n (.int .i64 0) (.int .i64 0) w2 := HTk.out.next b2
  have HFi : Hid (Calls Try.prog 25 #[.slice a l.length q, .func (.func 26) #[] #[.pointer (some ⟨w.heap.size, 0, none⟩)]] w2 fun e w' => e = .returned (.int .i64 (findN (fun r => decide (n ≤ r.c)) l)) ∧ Below w2.heap.size w2 w') :=
    find_any (HRa.out _ HX.below) (by omega) (fun r hr => by have := oneB_iff.1 (HOne.out r hr); omega) (take1_any HX.n0)
  have HX : Hid _ := HX
  clear b2 HCk hw0 hw1 hrb HTk c0
  go_wp2_with fail
  refine HFi.out.mono ?_
  rintro e w3 ⟨rfl, b3⟩
  have HX : TkS w rb n (.int .i64 0) (.int .i64 0) w3 := HX.out.next b3
  have hbef := findN_before (fun r => decide (n ≤ r.c)) l
  have hle := findN_le (fun r => decide (n ≤ r.c)) l
  have hsu := findN_such (fun r => decide (n ≤ r.c)) l
  clear b3 HFi
  generalize findN (fun r => decide (n ≤ r.c)) l = m at *
  have hno : ∀ r ∈ l.take m, r.c < n := fun r hr => by
    have := hbef r hr
    simpa using this
  clear hbef
  by_cases hlt : m < l.length
  rotate_left
  · obtain rfl : m = l.length := by omega
    rw [List.take_of_length_le (Nat.le_refl _)] at hno
    have hT : Hid (takeT l n = none) := by show _ = _; rw [HT.out]; exact takeL_none.2 hno
    have hg2 := HX.cr
    have HB2 : Hid _ := HX.below
    have hge : w.heap.size ≤ rb := Nat.le_of_lt HX.ne
    clear HX hno hsu
    go_wp2_with (refine wpList_store_row rfl 24 (.tmp 4) _ rfl rb #[.int .i64 0, .int .i64 0] rfl rfl _ _ hg2 (run_size _ _) rfl (run_one _ _) ?_)
    refine bodyPost_ret (v := .tuple #[.agg #[.int .i64 0, .int .i64 0], .slice none 0 0, .bool false]) (results_box2 Try.results10 _ _ rb _ #[.int .i64 0, .int .i64 0] (0, 0) _ rfl (heap_setRow_same hg2) Try.underlying24 rfl (run_size _ _)) rfl ?_
    rw [hT.out]
    exact ⟨rfl, below_setRow HB2.out hge _⟩
  obtain ⟨r, hr⟩ : ∃ r, l[m]? = some r := ⟨_, List.getElem?_eq_getElem hlt⟩
  have hnr : n ≤ r.c := by simpa using hsu r hr
  obtain ⟨b, o, rfl, k1⟩ := HL.out m r hr
  have HK : Hid (∀ w', Below w.heap.size w w' → w'.cell? ⟨b, o + m * 2, none⟩ = some (.int .i64 r.s) ∧ w'.cell? ⟨b, o + m * 2 + 1, none⟩ = some (.int .i64 r.c)) := k1
  have hr1 := oneB_iff.1 (HOne.out r (List.mem_of_getElem? hr))
  have hT : Hid (takeT l n = some (⟨r.s, n⟩, l.take m ++ ((if n < r.c then [⟨r.s + n, r.c - n⟩] else []) ++ l.drop (m + 1)))) := by
    show _ = _; rw [HT.out]; exact takeL_at hno hr hnr
  have hlt2 : (m : Int) < (l.length : Int) := by omega
  have hne : ¬ (m : Int) = (l.length : Int) := by omega
  have b0 : (m : Int) ≤ (l.length : Int) := by omega
  have b1 : (l.length : Int) ≤ (q : Int) := by omega
  have b2 : (m : Int) ≤ (q : Int) := by omega
  have b3 : (m : Int) + 1 ≤ (l.length : Int) := by omega
  have b4 : (m : Int) + 1 ≤ (q : Int) := by omega
  have b7 : m ≤ q := by omega
  have b8 : (0 : Int) ≤ (m : Int) + 1 := by omega
  have b9 : ¬ ((m : Int) + 1 < 0) := by omega
  have hwm : IntKind.i64.wrap ((m : Int) + 1) = (m : Int) + 1 := by rw [IntKind.wrap_i64]; omega
  have hws : IntKind.i64.wrap (r.s + n) = r.s + n := by rw [IntKind.wrap_i64]; omega
  have hwc : IntKind.i64.wrap (r.c - n) = r.c - n := by rw [IntKind.wrap_i64]; omega
  clear hno hr k1 hsu hle
  go_upto_region 6 with fail
  refine wp_region_held (S := TkB w n) (by kernel_rfl) ?_
  change wpAnyH _ _ _ _ _ _ _ _ (World.drew _)
  have HX := HX.drew
  generalize World.drew _ = w5 at *
  refine wpAnyH_take (i := 0) (v := .slice (some ⟨b, o, none⟩) l.length q) rfl (by kernel_rfl) (by kernel_rfl) (by kernel_rfl) (fun _ _ _ h => h) (Or.inl ⟨by rfl, by intro w _; go_simp⟩) HX.base ?_
  simp only [List.getElem_toArray, List.getElem_cons_succ, List.getElem_cons_zero, Act.put, List.setIfInBounds_toArray, List.set_cons_zero, List.set_cons_succ]
  refine wpAnyH_take (i := 1) (v := .int .i64 m) rfl (by kernel_rfl) (by kernel_rfl) (by kernel_rfl) (fun _ _ _ h => h) (Or.inl ⟨by rfl, by intro w _; go_simp⟩) HX.base ?_
  simp only [List.getElem_toArray, List.getElem_cons_succ, List.getElem_cons_zero, Act.put, List.setIfInBounds_toArray, List.set_cons_zero, List.set_cons_succ]
  refine wpAnyH_take (i := 2) (v := .pointer (some ⟨b, o + m * 2, none⟩)) rfl (by kernel_rfl) (by kernel_rfl) (by kernel_rfl) (fun _ _ _ h => h) (Or.inl ⟨by rfl, by intro w _; go_simp⟩) HX.base ?_
  simp only [List.getElem_toArray, List.getElem_cons_succ, List.getElem_cons_zero, Act.put, List.setIfInBounds_toArray, List.set_cons_zero, List.set_cons_succ]
  refine wpAnyH_take (i := 3) (v := .pointer (some ⟨b, o + m * 2, none⟩)) rfl (by kernel_rfl) (by kernel_rfl) (by kernel_rfl) (fun _ _ _ h => h) (Or.inl ⟨by rfl, by intro w _; go_simp⟩) HX.base ?_
  simp only [List.getElem_toArray, List.getElem_cons_succ, List.getElem_cons_zero, Act.put, List.setIfInBounds_toArray, List.set_cons_zero, List.set_cons_succ]
  refine wpAnyH_take (i := 4) (v := .int .i64 r.s) rfl (by kernel_rfl) (by kernel_rfl) (by kernel_rfl) (fun _ _ _ h => h) (Or.inl ⟨by rfl, by intro w4 hw; have hc := (HK.out _ hw.below).1; go_simp⟩) HX.base ?_
  simp only [List.getElem_toArray, List.getElem_cons_succ, List.getElem_cons_zero, Act.put, List.setIfInBounds_toArray, List.set_cons_zero, List.set_cons_succ]
  refine wpAnyH_take (i := 5) (v := .int .i64 n) rfl (by kernel_rfl) (by kernel_rfl) (by kernel_rfl) (fun _ _ _ h => h) (Or.inl ⟨by rfl, by intro w4 hw; have hc := hw.n0; go_simp⟩) HX.base ?_
  simp only [List.getElem_toArray, List.getElem_cons_succ, List.getElem_cons_zero, Act.put, List.setIfInBounds_toArray, List.set_cons_zero, List.set_cons_succ]
  refine wpAnyH_take (i := 6) (v := .agg #[.int .i64 r.s, .int .i64 n]) rfl (by kernel_rfl) (by kernel_rfl) (by kernel_rfl) (fun _ _ _ h => h) (Or.inl ⟨by rfl, by intro w _; go_simp⟩) HX.base ?_
  simp only [List.getElem_toArray, List.getElem_cons_succ, List.getElem_cons_zero, Act.put, List.setIfInBounds_toArray, List.set_cons_zero, List.set_cons_succ]
  have hg5 := HX.cr
  have HX := HX.turn (.int .i64 r.s) (.int .i64 n)
  refine wpAnyH_ready (rs := [7]) (by kernel_rfl) (by simp) (AllReadyH.cons (by simp only [List.getElem?_toArray, List.getElem?_cons_succ, List.getElem?_cons_zero]; rfl) (fun K hK => ?_) AllReadyH.nil)
  refine step_plain rfl ?_
  refine wp_store_row 24 (.tmp 4) _ rfl rb #[.int .i64 r.s, .int .i64 n] rfl rfl _ _ hg5 (run_size _ _) rfl (run_one _ _) ?_
  refine hK.out _ _ HX.base (fun _ => ?_)
  clear hK K
  try simp only [List.getElem_toArray, List.getElem_cons_succ, List.getElem_cons_zero, Act.put, List.setIfInBounds_toArray, List.set_cons_zero, List.set_cons_succ]
  refine wpAnyH_done (by kernel_rfl) ?_ _
  generalize w5.setRow rb #[.int .i64 r.s, .int .i64 n] = w6 at *
  clear hg5
  go_upto_region 7 with fail
  refine wp_region_held (S := TkS w rb n (.int .i64 r.s) (.int .i64 n)) (by kernel_rfl) ?_
  change wpAnyH _ _ _ _ _ _ _ _ (World.drew _)
  have HX := HX.drew
  generalize World.drew _ = w7 at *
  refine wpAnyH_take (i := 0) (v := .pointer (some ⟨rb, 0, none⟩)) rfl (by kernel_rfl) (by kernel_rfl) (by kernel_rfl) (fun _ _ _ h => h) (Or.inl ⟨by rfl, by intro w _; go_simp⟩) HX ?_
  simp only [List.getElem_toArray, List.getElem_cons_succ, List.getElem_cons_zero, Act.put, List.setIfInBounds_toArray, List.set_cons_zero, List.set_cons_succ]
  refine wpAnyH_take (i := 1) (v := .int .i64 r.s) rfl (by kernel_rfl) (by kernel_rfl) (by kernel_rfl) (fun _ _ _ h => h) (Or.inl ⟨by rfl, by intro w4 hw; have hc := hw.r0; go_simp⟩) HX ?_
  simp only [List.getElem_toArray, List.getElem_cons_succ, List.getElem_cons_zero, Act.put, List.setIfInBounds_toArray, List.set_cons_zero, List.set_cons_succ]
  refine wpAnyH_take (i := 2) (v := .int .i64 n) rfl (by kernel_rfl) (by kernel_rfl) (by kernel_rfl) (fun _ _ _ h => h) (Or.inl ⟨by rfl, by intro w4 hw; have hc := hw.n0; go_simp⟩) HX ?_
  simp only [List.getElem_toArray, List.getElem_cons_succ, List.getElem_cons_zero, Act.put, List.setIfInBounds_toArray, List.set_cons_zero, List.set_cons_succ]
  refine wpAnyH_take (i := 3) (v := .int .i64 (r.s + n)) rfl (by kernel_rfl) (by kernel_rfl) (by kernel_rfl) (fun _ _ _ h => h) (Or.inl ⟨by rfl, by intro w _; go_simp⟩) HX ?_
  simp only [List.getElem_toArray, List.getElem_cons_succ, List.getElem_cons_zero, Act.put, List.setIfInBounds_toArray, List.set_cons_zero, List.set_cons_succ]
  refine wpAnyH_take (i := 4) (v := .slice (some ⟨b, o, none⟩) l.length q) rfl (by kernel_rfl) (by kernel_rfl) (by kernel_rfl) (fun _ _ _ h => h) (Or.inl ⟨by rfl, by intro w _; go_simp⟩) HX ?_
  simp only [List.getElem_toArray, List.getElem_cons_succ, List.getElem_cons_zero, Act.put, List.setIfInBounds_toArray, List.set_cons_zero, List.set_cons_succ]
  refine wpAnyH_take (i := 5) (v := .int .i64 m) rfl (by kernel_rfl) (by kernel_rfl) (by kernel_rfl) (fun _ _ _ h => h) (Or.inl ⟨by rfl, by intro w _; go_simp⟩) HX ?_
  simp only [List.getElem_toArray, List.getElem_cons_succ, List.getElem_cons_zero, Act.put, List.setIfInBounds_toArray, List.set_cons_zero, List.set_cons_succ]
  refine wpAnyH_take (i := 6) (v := .pointer (some ⟨b, o + m * 2, none⟩)) rfl (by kernel_rfl) (by kernel_rfl) (by kernel_rfl) (fun _ _ _ h => h) (Or.inl ⟨by rfl, by intro w _; go_simp⟩) HX ?_
  simp only [List.getElem_toArray, List.getElem_cons_succ, List.getElem_cons_zero, Act.put, List.setIfInBounds_toArray, List.set_cons_zero, List.set_cons_succ]
  refine wpAnyH_take (i := 7) (v := .pointer (some ⟨b, o + m * 2 + 1, none⟩)) rfl (by kernel_rfl) (by kernel_rfl) (by kernel_rfl) (fun _ _ _ h => h) (Or.inl ⟨by rfl, by intro w _; go_simp⟩) HX ?_
  simp only [List.getElem_toArray, List.getElem_cons_succ, List.getElem_cons_zero, Act.put, List.setIfInBounds_toArray, List.set_cons_zero, List.set_cons_succ]
  refine wpAnyH_take (i := 8) (v := .int .i64 r.c) rfl (by kernel_rfl) (by kernel_rfl) (by kernel_rfl) (fun _ _ _ h => h) (Or.inl ⟨by rfl, by intro w4 hw; have hc := (HK.out _ hw.below).2; go_simp⟩) HX ?_
  simp only [List.getElem_toArray, List.getElem_cons_succ, List.getElem_cons_zero, Act.put, List.setIfInBounds_toArray, List.set_cons_zero, List.set_cons_succ]
  refine wpAnyH_take (i := 9) (v := .int .i64 n) rfl (by kernel_rfl) (by kernel_rfl) (by kernel_rfl) (fun _ _ _ h => h) (Or.inl ⟨by rfl, by intro w4 hw; have hc := hw.n0; go_simp⟩) HX ?_
  simp only [List.getElem_toArray, List.getElem_cons_succ, List.getElem_cons_zero, Act.put, List.setIfInBounds_toArray, List.set_cons_zero, List.set_cons_succ]
  refine wpAnyH_take (i := 10) (v := .int .i64 (r.c - n)) rfl (by kernel_rfl) (by kernel_rfl) (by kernel_rfl) (fun _ _ _ h => h) (Or.inl ⟨by rfl, by intro w _; go_simp⟩) HX ?_
  simp only [List.getElem_toArray, List.getElem_cons_succ, List.getElem_cons_zero, Act.put, List.setIfInBounds_toArray, List.set_cons_zero, List.set_cons_succ]
  refine wpAnyH_take (i := 11) (v := .agg #[.int .i64 (r.s + n), .int .i64 (r.c - n)]) rfl (by kernel_rfl) (by kernel_rfl) (by kernel_rfl) (fun _ _ _ h => h) (Or.inl ⟨by rfl, by intro w _; go_simp⟩) HX ?_
  simp only [List.getElem_toArray, List.getElem_cons_succ, List.getElem_cons_zero, Act.put, List.setIfInBounds_toArray, List.set_cons_zero, List.set_cons_succ]
  refine wpAnyH_ready (rs := [12]) (by kernel_rfl) (by simp) (AllReadyH.cons (by simp only [List.getElem?_toArray, List.getElem?_cons_succ, List.getElem?_cons_zero]; rfl) (fun K hK => ?_) AllReadyH.nil)
  refine step_plain rfl ?_
  go_simp
  have hg7 := heap_alloc_last w7 (.cells #[.int .i64 0, .int .i64 0] 24)
  have hlr := HX.lt
  have HX := HX.alloc (.cells #[.int .i64 0, .int .i64 0] 24)
  refine hK.out _ _ HX (fun _ => ?_)
  clear hK K
  try simp only [List.getElem_toArray, List.getElem_cons_succ, List.getElem_cons_zero, Act.put, List.setIfInBounds_toArray, List.set_cons_zero, List.set_cons_succ]
  generalize w7.alloc (.cells #[.int .i64 0, .int .i64 0] 24) = w8 at *
  generalize w7.heap.size = lb at *
  refine wpAnyH_ready (rs := [13]) (by kernel_rfl) (by simp) (AllReadyH.cons (by simp only [List.getElem?_toArray, List.getElem?_cons_succ, List.getElem?_cons_zero]; rfl) (fun K hK => ?_) AllReadyH.nil)
  refine step_plain rfl ?_
  have hg8 := heap_setRow_same (ds := #[.int .i64 (r.s + n), .int .i64 (r.c - n)]) hg7
  have HX := HX.far hlr #[.int .i64 (r.s + n), .int .i64 (r.c - n)]
  refine wp_store_row 24 (.tmp 8) _ rfl lb #[.int .i64 (r.s + n), .int .i64 (r.c - n)] rfl rfl _ _ hg7 (run_size _ _) rfl (run_one _ _) ?_
  refine hK.out _ _ HX (fun _ => ?_)
  clear hK K
  try simp only [List.getElem_toArray, List.getElem_cons_succ, List.getElem_cons_zero, Act.put, List.setIfInBounds_toArray, List.set_cons_zero, List.set_cons_succ]
  refine wpAnyH_done (by kernel_rfl) ?_ _
  generalize w8.setRow lb #[.int .i64 (r.s + n), .int .i64 (r.c - n)] = w9 at *
  clear hg7
  have hlc : w9.cell? ⟨lb, 1, none⟩ = some (.int .i64 (r.c - n)) := by rw [cell_of_row _ _ _ _ _ _ hg8]; rfl
  by_cases hgt : n < r.c
  · have hz : ¬ (r.c - n = 0) := by omega
    go_upto_region 10 with fail
    refine wp_region_held (S := TkL w rb lb n r.s r.c) (by kernel_rfl) ?_
    change wpAnyH _ _ _ _ _ _ _ _ (World.drew _)
    have HY : TkL w rb lb n r.s r.c w9 := ⟨HX, hg8, hlr⟩
    have HY := HY.drew
    generalize World.drew _ = wA at *
    clear HX hg8 hlc
    refine wpAnyH_take (i := 0) (v := .agg #[.int .i64 r.s, .int .i64 n]) rfl (by kernel_rfl) (by kernel_rfl) (by kernel_rfl) (fun _ _ _ h => h) (Or.inl ⟨by rfl, by intro w4 hw; have hc := hw.tk.r0; have hd := hw.tk.r1; go_simp⟩) HY ?_
    simp only [List.getElem_toArray, List.getElem_cons_succ, List.getElem_cons_zero, Act.put, List.setIfInBounds_toArray, List.set_cons_zero, List.set_cons_succ]
    refine wpAnyH_take (i := 1) (v := .slice (some ⟨b, o, none⟩) l.length q) rfl (by kernel_rfl) (by kernel_rfl) (by kernel_rfl) (fun _ _ _ h => h) (Or.inl ⟨by rfl, by intro w _; go_simp⟩) HY ?_
    simp only [List.getElem_toArray, List.getElem_cons_succ, List.getElem_cons_zero, Act.put, List.setIfInBounds_toArray, List.set_cons_zero, List.set_cons_succ]
    refine wpAnyH_take (i := 2) (v := .int .i64 m) rfl (by kernel_rfl) (by kernel_rfl) (by kernel_rfl) (fun _ _ _ h => h) (Or.inl ⟨by rfl, by intro w _; go_simp⟩) HY ?_
    simp only [List.getElem_toArray, List.getElem_cons_succ, List.getElem_cons_zero, Act.put, List.setIfInBounds_toArray, List.set_cons_zero, List.set_cons_succ]
    refine wpAnyH_take (i := 3) (v := .slice (some ⟨b, o, none⟩) m q) rfl (by kernel_rfl) (by kernel_rfl) (by kernel_rfl) (fun _ _ _ h => h) (Or.inl ⟨by rfl, by intro w _; go_simp⟩) HY ?_
    simp only [List.getElem_toArray, List.getElem_cons_succ, List.getElem_cons_zero, Act.put, List.setIfInBounds_toArray, List.set_cons_zero, List.set_cons_succ]
    refine wpAnyH_take (i := 4) (v := .agg #[.int .i64 (r.s + n), .int .i64 (r.c - n)]) rfl (by kernel_rfl) (by kernel_rfl) (by kernel_rfl) (fun _ _ _ h => h) (Or.inl ⟨by rfl, by intro w4 hw; have hc := hw.l0; have hd := hw.l1; go_simp⟩) HY ?_
    simp only [List.getElem_toArray, List.getElem_cons_succ, List.getElem_cons_zero, Act.put, List.setIfInBounds_toArray, List.set_cons_zero, List.set_cons_succ]
    refine wpAnyH_take (i := 6) (v := .slice (some ⟨b, o, none⟩) l.length q) rfl (by kernel_rfl) (by kernel_rfl) (by kernel_rfl) (fun _ _ _ h => h) (Or.inl ⟨by rfl, by intro w _; go_simp⟩) HY ?_
    simp only [List.getElem_toArray, List.getElem_cons_succ, List.getElem_cons_zero, Act.put, List.setIfInBounds_toArray, List.set_cons_zero, List.set_cons_succ]
    refine wpAnyH_take (i := 7) (v := .int .i64 m) rfl (by kernel_rfl) (by kernel_rfl) (by kernel_rfl) (fun _ _ _ h => h) (Or.inl ⟨by rfl, by intro w _; go_simp⟩) HY ?_
    simp only [List.getElem_toArray, List.getElem_cons_succ, List.getElem_cons_zero, Act.put, List.setIfInBounds_toArray, List.set_cons_zero, List.set_cons_succ]
    refine wpAnyH_take (i := 8) (v := .int .i64 ((m : Int) + 1)) rfl (by kernel_rfl) (by kernel_rfl) (by kernel_rfl) (fun _ _ _ h => h) (Or.inl ⟨by rfl, by intro w _; go_simp⟩) HY ?_
    simp only [List.getElem_toArray, List.getElem_cons_succ, List.getElem_cons_zero, Act.put, List.setIfInBounds_toArray, List.set_cons_zero, List.set_cons_succ]
    refine wpAnyH_take (i := 9) (v := .slice (if q = m + 1 then some ⟨b, o, none⟩ else some ⟨b, o + (m + 1) * 2, none⟩) (l.length - (m + 1)) (q - (m + 1))) rfl (by kernel_rfl) (by kernel_rfl) (by kernel_rfl) (fun _ _ _ h => h) (Or.inl ⟨by rfl, by intro w _; go_simp⟩) HY ?_
    simp only [List.getElem_toArray, List.getElem_cons_succ, List.getElem_cons_zero, Act.put, List.setIfInBounds_toArray, List.set_cons_zero, List.set_cons_succ]
    refine wpAnyH_ready (rs := [5]) (by kernel_rfl) (by simp) (AllReadyH.cons (by simp only [List.getElem?_toArray, List.getElem?_cons_succ, List.getElem?_cons_zero]; rfl) (fun K hK => ?_) AllReadyH.nil)
    refine step_plain rfl ?_
    go_simp
    have hmd := RunsAt.made wA (r.s + n) (r.c - n)
    have HY := HY.alloc (.cells #[.int .i64 (r.s + n), .int .i64 (r.c - n)] 24)
    refine hK.out _ _ HY (fun _ => ?_)
    clear hK K
    try simp only [List.getElem_toArray, List.getElem_cons_succ, List.getElem_cons_zero, Act.put, List.setIfInBounds_toArray, List.set_cons_zero, List.set_cons_succ]
    generalize wA.alloc (.cells #[.int .i64 (r.s + n), .int .i64 (r.c - n)] 24) = wB at *
    generalize wA.heap.size = rg at *
    refine wpAnyH_ready (rs := [10]) (by kernel_rfl) (by simp) (AllReadyH.cons (by simp only [List.getElem?_toArray, List.getElem?_cons_succ, List.getElem?_cons_zero]; rfl) (fun K hK => ?_) AllReadyH.nil)
    refine step_plain rfl ?_
    go_simp
    have hgB := heap_alloc_last wB (.cells #[.slice (some ⟨b, o, none⟩) m q, .slice (some ⟨rg, 0, none⟩) 1 1, .slice (if q = m + 1 then some ⟨b, o, none⟩ else some ⟨b, o + (m + 1) * 2, none⟩) (l.length - (m + 1)) (q - (m + 1))] 22)
    have HY := HY.alloc (.cells #[.slice (some ⟨b, o, none⟩) m q, .slice (some ⟨rg, 0, none⟩) 1 1, .slice (if q = m + 1 then some ⟨b, o, none⟩ else some ⟨b, o + (m + 1) * 2, none⟩) (l.length - (m + 1)) (q - (m + 1))] 22)
    have hmd := hmd.below ((Below.refl _ _).alloc (Nat.le_refl _) (.cells #[.slice (some ⟨b, o, none⟩) m q, .slice (some ⟨rg, 0, none⟩) 1 1, .slice (if q = m + 1 then some ⟨b, o, none⟩ else some ⟨b, o + (m + 1) * 2, none⟩) (l.length - (m + 1)) (q - (m + 1))] 22))
    refine hK.out _ _ HY (fun _ => ?_)
    clear hK K
    try simp only [List.getElem_toArray, List.getElem_cons_succ, List.getElem_cons_zero, Act.put, List.setIfInBounds_toArray, List.set_cons_zero, List.set_cons_succ]
    generalize wB.alloc (.cells #[.slice (some ⟨b, o, none⟩) m q, .slice (some ⟨rg, 0, none⟩) 1 1, .slice (if q = m + 1 then some ⟨b, o, none⟩ else some ⟨b, o + (m + 1) * 2, none⟩) (l.length - (m + 1)) (q - (m + 1))] 22) = wC at *
    generalize wB.heap.size = bb at *
    have hR1 : RunsAt wC (.slice (some ⟨b, o, none⟩) m q) (l.take m) := (HRa.out _ HY.tk.below).take m (by omega)
    have hR2 : RunsAt wC (.slice (if q = m + 1 then some ⟨b, o, none⟩ else some ⟨b, o + (m + 1) * 2, none⟩) (l.length - (m + 1)) (q - (m + 1))) (l.drop (m + 1)) := (HRa.out _ HY.tk.below).rest (m + 1) (by omega) hcap
    have hAll : allR ([((.slice (some ⟨b, o, none⟩) m q : Value), (l.take m : List Rn)), ((.slice (some ⟨rg, 0, none⟩) 1 1 : Value), ([⟨r.s + n, r.c - n⟩] : List Rn)), ((.slice (if q = m + 1 then some ⟨b, o, none⟩ else some ⟨b, o + (m + 1) * 2, none⟩) (l.length - (m + 1)) (q - (m + 1)) : Value), (l.drop (m + 1) : List Rn))] : List (Value × List Rn)) = l.take m ++ ([(⟨r.s + n, r.c - n⟩ : Rn)] ++ l.drop (m + 1)) := by simp [allR]
    have hCc : Calls Try.prog 27 #[.slice (some ⟨bb, 0, none⟩) 3 3] wC fun e w' => ∃ a c, e = .returned (.slice a (l.take m ++ ([(⟨r.s + n, r.c - n⟩ : Rn)] ++ l.drop (m + 1))).length c) ∧ w'.ownsRow wC.heap.size 24 2 (.slice a (l.take m ++ ([(⟨r.s + n, r.c - n⟩ : Rn)] ++ l.drop (m + 1))).length c) (l.take m ++ ([(⟨r.s + n, r.c - n⟩ : Rn)] ++ l.drop (m + 1))).length (rsv (l.take m ++ ([(⟨r.s + n, r.c - n⟩ : Rn)] ++ l.drop (m + 1)))) ∧ Below wC.heap.size wC w' := by
      have := concat_any (w := wC) (b := bb) (c := 3) (ts := [((.slice (some ⟨b, o, none⟩) m q : Value), (l.take m : List Rn)), ((.slice (some ⟨rg, 0, none⟩) 1 1 : Value), ([⟨r.s + n, r.c - n⟩] : List Rn)), ((.slice (if q = m + 1 then some ⟨b, o, none⟩ else some ⟨b, o + (m + 1) * 2, none⟩) (l.length - (m + 1)) (q - (m + 1)) : Value), (l.drop (m + 1) : List Rn))]) (fun i v' l' hi => ?_) (by simp) (by rw [hAll]; simp only [List.length_append, List.length_take, List.length_drop, List.length_cons, List.length_nil]; omega)
      · rw [hAll] at this; exact this
      · rw [cell_of_row _ _ _ _ _ _ hgB]
        match i, hi with
        | 0, hi => obtain ⟨rfl, rfl⟩ := Prod.mk.inj (Option.some.inj hi); exact ⟨rfl, hR1⟩
        | 1, hi => obtain ⟨rfl, rfl⟩ := Prod.mk.inj (Option.some.inj hi); exact ⟨rfl, hmd⟩
        | 2, hi => obtain ⟨rfl, rfl⟩ := Prod.mk.inj (Option.some.inj hi); exact ⟨rfl, hR2⟩
        | i + 3, hi => simp at hi
    clear hR1 hR2 hgB hmd hAll
    have hlen : (l.take m ++ ([(⟨r.s + n, r.c - n⟩ : Rn)] ++ l.drop (m + 1))).length ≤ 1000000 := by simp only [List.length_append, List.length_take, List.length_drop, List.length_cons, List.length_nil]; omega
    generalize hRes : (l.take m ++ ([(⟨r.s + n, r.c - n⟩ : Rn)] ++ l.drop (m + 1)) : List Rn) = R at *
    refine wpAnyH_ready (rs := [11]) (by kernel_rfl) (by simp) (AllReadyH.cons (by simp only [List.getElem?_toArray, List.getElem?_cons_succ, List.getElem?_cons_zero]; rfl) (fun K hK => ?_) AllReadyH.nil)
    refine step_plain rfl ?_
    go_simp
    refine hCc.mono ?_
    rintro e wD ⟨za, zc, rfl, ho, bD⟩
    have hrC := HY.tk.lt
    have hwC : w.heap.size ≤ wC.heap.size := HY.tk.below.size
    have HY := HY.next bD
    clear hCc bD
    refine hK.out _ _ HY (fun _ => ?_)
    clear hK K
    try simp only [List.getElem_toArray, List.getElem_cons_succ, List.getElem_cons_zero, Act.put, List.setIfInBounds_toArray, List.set_cons_zero, List.set_cons_succ]
    have hgD := HY.tk.cr
    have HZ := HY.turn (.int .i64 r.s) (.int .i64 n)
    refine wpAnyH_ready (rs := [12]) (by kernel_rfl) (by simp) (AllReadyH.cons (by simp only [List.getElem?_toArray, List.getElem?_cons_succ, List.getElem?_cons_zero]; rfl) (fun K hK => ?_) AllReadyH.nil)
    refine step_plain rfl ?_
    refine wp_store_row 24 (.tmp 4) _ rfl rb #[.int .i64 r.s, .int .i64 n] rfl rfl _ _ hgD (run_size _ _) rfl (run_one _ _) ?_
    refine hK.out _ _ HZ (fun _ => ?_)
    clear hK K
    try simp only [List.getElem_toArray, List.getElem_cons_succ, List.getElem_cons_zero, Act.put, List.setIfInBounds_toArray, List.set_cons_zero, List.set_cons_succ]
    refine wpAnyH_take (i := 13) (v := .slice za R.length zc) rfl (by kernel_rfl) (by kernel_rfl) (by kernel_rfl) (fun _ _ _ h => h) (Or.inl ⟨by rfl, by intro w _; go_simp⟩) HZ ?_
    simp only [List.getElem_toArray, List.getElem_cons_succ, List.getElem_cons_zero, Act.put, List.setIfInBounds_toArray, List.set_cons_zero, List.set_cons_succ]
    refine wpAnyH_take (i := 14) (v := .bool true) rfl (by kernel_rfl) (by kernel_rfl) (by kernel_rfl) (fun _ _ _ h => h) (Or.inl ⟨by rfl, by intro w _; go_simp⟩) HZ ?_
    simp only [List.getElem_toArray, List.getElem_cons_succ, List.getElem_cons_zero, Act.put, List.setIfInBounds_toArray, List.set_cons_zero, List.set_cons_succ]
    refine wpAnyH_done (by kernel_rfl) ?_ _
    have HF : Hid (TakeSays w w.heap.size (some (⟨r.s, n⟩, R)) (.returned (.tuple #[.agg #[.int .i64 r.s, .int .i64 n], .slice za R.length zc, .bool true])) (wD.setRow rb #[.int .i64 r.s, .int .i64 n])) :=
      ⟨za, zc, rfl, owns_lower (owns_setRow ho hrC) hwC, HZ.tk.below⟩
    have hg9 := HZ.tk.cr
    have hT2 : Hid (takeT l n = some (⟨r.s, n⟩, R)) := by show _ = _; rw [hT.out, if_pos (by omega), hRes]
    clear HY HZ hgD ho hRes
    go_wp2
    all_goals
      refine bodyPost_ret (v := .tuple #[.agg #[.int .i64 r.s, .int .i64 n], .slice za R.length zc, .bool true]) (results_box2 Try.results10 _ _ rb _ #[.int .i64 r.s, .int .i64 n] (0, 0) _ rfl hg9 Try.underlying24 rfl (run_size _ _)) rfl ?_
      rw [hT2.out]
      exact HF.out
  · have hz : r.c - n = 0 := by omega
    have hlz : w9.cell? ⟨lb, 1, none⟩ = some (.int .i64 0) := by rw [hlc, hz]
    clear hlc
    go_upto_region 9 with fail
    refine wp_region_held (S := TkL w rb lb n r.s r.c) (by kernel_rfl) ?_
    change wpAnyH _ _ _ _ _ _ _ _ (World.drew _)
    have HY : TkL w rb lb n r.s r.c w9 := ⟨HX, hg8, hlr⟩
    have HY := HY.drew
    generalize World.drew _ = wA at *
    clear HX hg8 hlz
    refine wpAnyH_take (i := 0) (v := .agg #[.int .i64 r.s, .int .i64 n]) rfl (by kernel_rfl) (by kernel_rfl) (by kernel_rfl) (fun _ _ _ h => h) (Or.inl ⟨by rfl, by intro w4 hw; have hc := hw.tk.r0; have hd := hw.tk.r1; go_simp⟩) HY ?_
    simp only [List.getElem_toArray, List.getElem_cons_succ, List.getElem_cons_zero, Act.put, List.setIfInBounds_toArray, List.set_cons_zero, List.set_cons_succ]
    refine wpAnyH_take (i := 1) (v := .slice (some ⟨b, o, none⟩) l.length q) rfl (by kernel_rfl) (by kernel_rfl) (by kernel_rfl) (fun _ _ _ h => h) (Or.inl ⟨by rfl, by intro w _; go_simp⟩) HY ?_
    simp only [List.getElem_toArray, List.getElem_cons_succ, List.getElem_cons_zero, Act.put, List.setIfInBounds_toArray, List.set_cons_zero, List.set_cons_succ]
    refine wpAnyH_take (i := 2) (v := .int .i64 m) rfl (by kernel_rfl) (by kernel_rfl) (by kernel_rfl) (fun _ _ _ h => h) (Or.inl ⟨by rfl, by intro w _; go_simp⟩) HY ?_
    simp only [List.getElem_toArray, List.getElem_cons_succ, List.getElem_cons_zero, Act.put, List.setIfInBounds_toArray, List.set_cons_zero, List.set_cons_succ]
    refine wpAnyH_take (i := 3) (v := .slice (some ⟨b, o, none⟩) m q) rfl (by kernel_rfl) (by kernel_rfl) (by kernel_rfl) (fun _ _ _ h => h) (Or.inl ⟨by rfl, by intro w _; go_simp⟩) HY ?_
    simp only [List.getElem_toArray, List.getElem_cons_succ, List.getElem_cons_zero, Act.put, List.setIfInBounds_toArray, List.set_cons_zero, List.set_cons_succ]
    refine wpAnyH_take (i := 4) (v := .slice (some ⟨b, o, none⟩) l.length q) rfl (by kernel_rfl) (by kernel_rfl) (by kernel_rfl) (fun _ _ _ h => h) (Or.inl ⟨by rfl, by intro w _; go_simp⟩) HY ?_
    simp only [List.getElem_toArray, List.getElem_cons_succ, List.getElem_cons_zero, Act.put, List.setIfInBounds_toArray, List.set_cons_zero, List.set_cons_succ]
    refine wpAnyH_take (i := 5) (v := .int .i64 m) rfl (by kernel_rfl) (by kernel_rfl) (by kernel_rfl) (fun _ _ _ h => h) (Or.inl ⟨by rfl, by intro w _; go_simp⟩) HY ?_
    simp only [List.getElem_toArray, List.getElem_cons_succ, List.getElem_cons_zero, Act.put, List.setIfInBounds_toArray, List.set_cons_zero, List.set_cons_succ]
    refine wpAnyH_take (i := 6) (v := .int .i64 ((m : Int) + 1)) rfl (by kernel_rfl) (by kernel_rfl) (by kernel_rfl) (fun _ _ _ h => h) (Or.inl ⟨by rfl, by intro w _; go_simp⟩) HY ?_
    simp only [List.getElem_toArray, List.getElem_cons_succ, List.getElem_cons_zero, Act.put, List.setIfInBounds_toArray, List.set_cons_zero, List.set_cons_succ]
    refine wpAnyH_take (i := 7) (v := .slice (if q = m + 1 then some ⟨b, o, none⟩ else some ⟨b, o + (m + 1) * 2, none⟩) (l.length - (m + 1)) (q - (m + 1))) rfl (by kernel_rfl) (by kernel_rfl) (by kernel_rfl) (fun _ _ _ h => h) (Or.inl ⟨by rfl, by intro w _; go_simp⟩) HY ?_
    simp only [List.getElem_toArray, List.getElem_cons_succ, List.getElem_cons_zero, Act.put, List.setIfInBounds_toArray, List.set_cons_zero, List.set_cons_succ]
    refine wpAnyH_ready (rs := [8]) (by kernel_rfl) (by simp) (AllReadyH.cons (by simp only [List.getElem?_toArray, List.getElem?_cons_succ, List.getElem?_cons_zero]; rfl) (fun K hK => ?_) AllReadyH.nil)
    refine step_plain rfl ?_
    go_simp
    have hgB := heap_alloc_last wA (.cells #[.slice (some ⟨b, o, none⟩) m q, .slice (if q = m + 1 then some ⟨b, o, none⟩ else some ⟨b, o + (m + 1) * 2, none⟩) (l.length - (m + 1)) (q - (m + 1))] 22)
    have HY := HY.alloc (.cells #[.slice (some ⟨b, o, none⟩) m q, .slice (if q = m + 1 then some ⟨b, o, none⟩ else some ⟨b, o + (m + 1) * 2, none⟩) (l.length - (m + 1)) (q - (m + 1))] 22)
    refine hK.out _ _ HY (fun _ => ?_)
    clear hK K
    try simp only [List.getElem_toArray, List.getElem_cons_succ, List.getElem_cons_zero, Act.put, List.setIfInBounds_toArray, List.set_cons_zero, List.set_cons_succ]
    generalize wA.alloc (.cells #[.slice (some ⟨b, o, none⟩) m q, .slice (if q = m + 1 then some ⟨b, o, none⟩ else some ⟨b, o + (m + 1) * 2, none⟩) (l.length - (m + 1)) (q - (m + 1))] 22) = wC at *
    generalize wA.heap.size = bb at *
    have hR1 : RunsAt wC (.slice (some ⟨b, o, none⟩) m q) (l.take m) := (HRa.out _ HY.tk.below).take m (by omega)
    have hR2 : RunsAt wC (.slice (if q = m + 1 then some ⟨b, o, none⟩ else some ⟨b, o + (m + 1) * 2, none⟩) (l.length - (m + 1)) (q - (m + 1))) (l.drop (m + 1)) := (HRa.out _ HY.tk.below).rest (m + 1) (by omega) hcap
    have hAll : allR ([((.slice (some ⟨b, o, none⟩) m q : Value), (l.take m : List Rn)), ((.slice (if q = m + 1 then some ⟨b, o, none⟩ else some ⟨b, o + (m + 1) * 2, none⟩) (l.length - (m + 1)) (q - (m + 1)) : Value), (l.drop (m + 1) : List Rn))] : List (Value × List Rn)) = l.take m ++ l.drop (m + 1) := by simp [allR]
    have hCc : Calls Try.prog 27 #[.slice (some ⟨bb, 0, none⟩) 2 2] wC fun e w' => ∃ a c, e = .returned (.slice a (l.take m ++ l.drop (m + 1)).length c) ∧ w'.ownsRow wC.heap.size 24 2 (.slice a (l.take m ++ l.drop (m + 1)).length c) (l.take m ++ l.drop (m + 1)).length (rsv (l.take m ++ l.drop (m + 1))) ∧ Below wC.heap.size wC w' := by
      have := concat_any (w := wC) (b := bb) (c := 2) (ts := [((.slice (some ⟨b, o, none⟩) m q : Value), (l.take m : List Rn)), ((.slice (if q = m + 1 then some ⟨b, o, none⟩ else some ⟨b, o + (m + 1) * 2, none⟩) (l.length - (m + 1)) (q - (m + 1)) : Value), (l.drop (m + 1) : List Rn))]) (fun i v' l' hi => ?_) (by simp) (by rw [hAll]; simp only [List.length_append, List.length_take, List.length_drop, List.length_cons, List.length_nil]; omega)
      · rw [hAll] at this; exact this
      · rw [cell_of_row _ _ _ _ _ _ hgB]
        match i, hi with
        | 0, hi => obtain ⟨rfl, rfl⟩ := Prod.mk.inj (Option.some.inj hi); exact ⟨rfl, hR1⟩
        | 1, hi => obtain ⟨rfl, rfl⟩ := Prod.mk.inj (Option.some.inj hi); exact ⟨rfl, hR2⟩
        | i + 2, hi => simp at hi
    clear hR1 hR2 hgB hAll
    have hlen : (l.take m ++ l.drop (m + 1)).length ≤ 1000000 := by simp only [List.length_append, List.length_take, List.length_drop, List.length_cons, List.length_nil]; omega
    generalize hRes : (l.take m ++ l.drop (m + 1) : List Rn) = R at *
    refine wpAnyH_ready (rs := [9]) (by kernel_rfl) (by simp) (AllReadyH.cons (by simp only [List.getElem?_toArray, List.getElem?_cons_succ, List.getElem?_cons_zero]; rfl) (fun K hK => ?_) AllReadyH.nil)
    refine step_plain rfl ?_
    go_simp
    refine hCc.mono ?_
    rintro e wD ⟨za, zc, rfl, ho, bD⟩
    have hrC := HY.tk.lt
    have hwC : w.heap.size ≤ wC.heap.size := HY.tk.below.size
    have HY := HY.next bD
    clear hCc bD
    refine hK.out _ _ HY (fun _ => ?_)
    clear hK K
    try simp only [List.getElem_toArray, List.getElem_cons_succ, List.getElem_cons_zero, Act.put, List.setIfInBounds_toArray, List.set_cons_zero, List.set_cons_succ]
    have hgD := HY.tk.cr
    have HZ := HY.turn (.int .i64 r.s) (.int .i64 n)
    refine wpAnyH_ready (rs := [10]) (by kernel_rfl) (by simp) (AllReadyH.cons (by simp only [List.getElem?_toArray, List.getElem?_cons_succ, List.getElem?_cons_zero]; rfl) (fun K hK => ?_) AllReadyH.nil)
    refine step_plain rfl ?_
    refine wp_store_row 24 (.tmp 4) _ rfl rb #[.int .i64 r.s, .int .i64 n] rfl rfl _ _ hgD (run_size _ _) rfl (run_one _ _) ?_
    refine hK.out _ _ HZ (fun _ => ?_)
    clear hK K
    try simp only [List.getElem_toArray, List.getElem_cons_succ, List.getElem_cons_zero, Act.put, List.setIfInBounds_toArray, List.set_cons_zero, List.set_cons_succ]
    refine wpAnyH_take (i := 11) (v := .slice za R.length zc) rfl (by kernel_rfl) (by kernel_rfl) (by kernel_rfl) (fun _ _ _ h => h) (Or.inl ⟨by rfl, by intro w _; go_simp⟩) HZ ?_
    simp only [List.getElem_toArray, List.getElem_cons_succ, List.getElem_cons_zero, Act.put, List.setIfInBounds_toArray, List.set_cons_zero, List.set_cons_succ]
    refine wpAnyH_take (i := 12) (v := .bool true) rfl (by kernel_rfl) (by kernel_rfl) (by kernel_rfl) (fun _ _ _ h => h) (Or.inl ⟨by rfl, by intro w _; go_simp⟩) HZ ?_
    simp only [List.getElem_toArray, List.getElem_cons_succ, List.getElem_cons_zero, Act.put, List.setIfInBounds_toArray, List.set_cons_zero, List.set_cons_succ]
    refine wpAnyH_done (by kernel_rfl) ?_ _
    have HF : Hid (TakeSays w w.heap.size (some (⟨r.s, n⟩, R)) (.returned (.tuple #[.agg #[.int .i64 r.s, .int .i64 n], .slice za R.length zc, .bool true])) (wD.setRow rb #[.int .i64 r.s, .int .i64 n])) :=
      ⟨za, zc, rfl, owns_lower (owns_setRow ho hrC) hwC, HZ.tk.below⟩
    have hg9 := HZ.tk.cr
    have hT2 : Hid (takeT l n = some (⟨r.s, n⟩, R)) := by show _ = _; rw [hT.out, if_neg (by omega), List.nil_append, hRes]
    clear HY HZ hgD ho hRes
    go_wp2
    all_goals
      refine bodyPost_ret (v := .tuple #[.agg #[.int .i64 r.s, .int .i64 n], .slice za R.length zc, .bool true]) (results_box2 Try.results10 _ _ rb _ #[.int .i64 r.s, .int .i64 n] (0, 0) _ rfl hg9 Try.underlying24 rfl (run_size _ _)) rfl ?_
      rw [hT2.out]
      exact HF.out
end Go.Proofs.Ytbnfhhjgalphgaa
