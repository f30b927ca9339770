/- The document's own Give (layer 7). -/
import Derived.Test.YtbnfhhjgalphgaaYh
import Derived.Deep.DeepCutAuto
import Derived.Deep.RegionHeld3
namespace Go.Proofs.Ytbnfhhjgalphgaa
open Go.RowKit

theorem ahead_next {l : List Rn} {m : Nat} {x r : Rn} (hx : l[m]? = some x) : aheadL (l.take (m + 1)) r = if x.e < r.s then aheadL (l.take m) r ++ [x] else aheadL (l.take m) r := by
  unfold aheadL
  rw [List.take_add_one, hx, List.filter_append]
  split
  · rename_i h; simp [h]
  · rename_i h; simp [h]
theorem behind_next {l : List Rn} {m : Nat} {x r : Rn} (hx : l[m]? = some x) : behindL (l.take (m + 1)) r = if r.e < x.s then behindL (l.take m) r ++ [x] else behindL (l.take m) r := by
  unfold behindL
  rw [List.take_add_one, hx, List.filter_append]
  split
  · rename_i h; simp [h]
  · rename_i h; simp [h]
theorem ahead_len (l : List Rn) (m : Nat) (r : Rn) : (aheadL (l.take m) r).length ≤ l.length := Nat.le_trans (List.length_filter_le _ _) (by rw [List.length_take]; omega)
theorem behind_len (l : List Rn) (m : Nat) (r : Rn) : (behindL (l.take m) r).length ≤ l.length := Nat.le_trans (List.length_filter_le _ _) (by rw [List.length_take]; omega)
theorem stepX_c {r x a : Rn} (ha : 0 ≤ a.c ∧ a.c ≤ 1099511627776) (hx : 0 ≤ x.c) : 0 ≤ (stepX r x a).c ∧ (stepX r x a).c ≤ x.c + 2199023255552 := by
  unfold stepX
  by_cases h1 : a.e = r.s <;> by_cases h2 : a.s = r.e
  · rw [if_pos h1, if_pos h2]; dsimp only; omega
  · rw [if_pos h1, if_neg h2]; dsimp only; omega
  · rw [if_neg h1, if_pos h2]; dsimp only; omega
  · rw [if_neg h1, if_neg h2]; omega
theorem fold_c {r : Rn} : ∀ {l : List Rn} {x : Rn}, (∀ a ∈ l, 0 ≤ a.c ∧ a.c ≤ 1099511627776) → 0 ≤ x.c → 0 ≤ (l.foldl (stepX r) x).c ∧ (l.foldl (stepX r) x).c ≤ x.c + 2199023255552 * l.length
  | [], x, _, hx => ⟨hx, by simp⟩
  | a :: l, x, h, hx => by
    obtain ⟨i1, i2⟩ := stepX_c (r := r) (h a (by simp)) hx
    obtain ⟨j1, j2⟩ := fold_c (r := r) (l := l) (x := stepX r x a) (fun b hb => h b (List.mem_cons_of_mem _ hb)) i1
    rw [List.foldl_cons]
    refine ⟨j1, ?_⟩
    simp only [List.length_cons]
    omega
theorem fold_next {l : List Rn} {m : Nat} {x r : Rn} (hx : l[m]? = some x) : (l.take (m + 1)).foldl (stepX r) r = stepX r ((l.take m).foldl (stepX r) r) x := by
  rw [List.take_add_one, hx, List.foldl_append]; rfl
set_option maxRecDepth 100000 in
set_option maxHeartbeats 4000000 in
set_option linter.unusedSimpArgs false in
theorem rgive_any {w : World} {v : Value} {l : List Rn} (r : Rn) (h : RunsAt w v l) (hf : fitR l) (hl : l.length ≤ 100000) (hr1 : -9223372036854775808 ≤ r.s ∧ r.s < 9223372036854775808) (hr2 : -9223372036854775808 ≤ r.c ∧ r.c < 9223372036854775808) :
    Calls Try.prog 13 #[v, .agg #[.int .i64 r.s, .int .i64 r.c]] w fun e w' => GiveSays w w.heap.size (giveT l r) e w' := by
  obtain ⟨a, q, rfl, -⟩ := id h
  obtain ⟨w1, hw1⟩ : ∃ w1, w.alloc (.cells #[.int .i64 r.s, .int .i64 r.c] 24) = w1 := ⟨_, rfl⟩
  have hbx : w1.heap[w.heap.size]? = some (.cells #[.int .i64 r.s, .int .i64 r.c] 24 (0, 0)) := by rw [← hw1]; exact heap_alloc_last w _
  have hB1 : Below w.heap.size w w1 := by rw [← hw1]; exact (Below.refl _ _).alloc (Nat.le_refl _) _
  have hlt1 : w.heap.size < w1.heap.size := by rw [← hw1]; simp
  have h1 := h.below hB1
  have HBx : Hid (∀ w', Below w1.heap.size w1 w' → w'.heap[w.heap.size]? = some (.cells #[.int .i64 r.s, .int .i64 r.c] 24 (0, 0))) := fun w' hb => (hb.block _ hlt1).trans hbx
  have HBc : Hid (∀ w', Below w1.heap.size w1 w' → w'.cell? ⟨w.heap.size, 0, none⟩ = some (.int .i64 r.s) ∧ w'.cell? ⟨w.heap.size, 1, none⟩ = some (.int .i64 r.c)) := fun w' hb => by
    have := (hb.block _ hlt1).trans hbx
    constructor <;> rw [cell_of_row _ _ _ _ _ _ this] <;> rfl
  have HBw : Hid (∀ w', Below w1.heap.size w1 w' → Below w.heap.size w w') := fun w' hb => hB1.trans (hb.mono hB1.size)
  have HCk : Hid (Calls Try.prog 18 #[.slice a l.length q] w1 fun e w' => e = .returned (.bool (chkB l)) ∧ Below w1.heap.size w1 w') := rcheck_any h1 hf (by omega)
  have HOn : Hid (∀ w2, Calls Try.prog 31 #[.agg #[.int .i64 r.s, .int .i64 r.c]] w2 fun e w' => e = .returned (.bool (oneB r)) ∧ Below w2.heap.size w2 w') := fun w2 => rone_any r w2 hr1 hr2
  have HL : Hid _ := h.cells.2
  have HRa : Hid (∀ w', Below w1.heap.size w1 w' → RunsAt w' (.slice a l.length q) l) := fun w' hb => h1.below hb
  clear h h1 hf hbx hB1 hr1 hr2
  cases hck : chkB l with
  | false =>
    have hT : Hid (giveT l r = none) := by show _ = _; unfold giveT; rw [hck]; rfl
    rw [hT.out]
    rw [hck] at HCk
    clear hck
    go_enter Try.func13, Try.ntmps13
    go_wp2_with fail
    refine HCk.out.mono ?_
    rintro e w2 ⟨rfl, b2⟩
    have HB2 : Hid _ := HBw.out _ b2
    clear b2
    go_wp2
    go_ret2
    exact ⟨rfl, HB2.out⟩
  | true =>
  rw [hck] at HCk
  cases hon : oneB r with
  | false =>
    have hT : Hid (giveT l r = none) := by show _ = _; unfold giveT; rw [hon, if_neg (by simp)]
    rw [hT.out]
    rw [hon] at HOn
    clear hck hon
    go_enter Try.func13, Try.ntmps13
    go_wp2_with fail
    refine HCk.out.mono ?_
    rintro e w2 ⟨rfl, b2⟩
    have hg2 := HBx.out _ b2
    have HB2 : Hid _ := b2
    clear b2
    go_wp2_with (first | (refine load_box rfl (.tmp 3) rfl w.heap.size r.s r.c (0, 0) rfl hg2 ?_) | fail)
    refine (HOn.out _).mono ?_
    rintro e w3 ⟨rfl, b3⟩
    have HB3 : Hid _ := HBw.out _ (HB2.out.trans (b3.mono HB2.out.size))
    clear b3
    go_wp2
    go_ret2
    exact ⟨rfl, HB3.out⟩
  | true =>
  rw [hon] at HOn
  have HOne : Hid (∀ x ∈ l, oneB x = true) := chk_one hck
  have hr1 := oneB_iff.1 hon
  have HG : Hid (∀ x, l.any (fun a => meetB a r) = x → giveT l r = if x then none else some (giveR l r)) := fun x hx => by unfold giveT; rw [if_pos ⟨hck, hon⟩, hx]
  have HI : Hid ((∀ a ∈ l, meetB a r = false) → giveR l r = aheadL l r ++ (l.foldl (stepX r) r :: behindL l r)) := fun h => giveR_is hck hon h
  clear hck hon
  have he : r.e = r.s + r.c := rfl
  go_enter Try.func13, Try.ntmps13
  go_wp2_with fail
  refine HCk.out.mono ?_
  rintro e w2 ⟨rfl, b2⟩
  have hg2 := HBx.out _ b2
  have HB2 : Hid _ := b2
  clear b2
  go_wp2_with (first | (refine load_box rfl (.tmp 3) rfl w.heap.size r.s r.c (0, 0) rfl hg2 ?_) | fail)
  refine (HOn.out _).mono ?_
  rintro e w3 ⟨rfl, b3⟩
  have HB3 : Hid (Below w1.heap.size w1 w3) := HB2.out.trans (b3.mono HB2.out.size)
  clear b3 HB2 HCk HOn hg2
  have HM0 : Hid (Mr w1 w3.heap.size [(.slice a l.length q, l)] (.slice none 0 0) [] w3) := Mr.start HB3.out (fun v l' hm => by
    obtain ⟨rfl, rfl⟩ := Prod.mk.inj (List.mem_singleton.1 hm)
    exact HRa.out _ HB3.out)
  go_wp2
  obtain ⟨B3, hB3⟩ : ∃ B, w3.heap.size = B := ⟨_, rfl⟩
  rw [hB3] at HM0
  have HB3l : Hid (w1.heap.size ≤ B3) := by show _ ≤ _; rw [← hB3]; exact HB3.out.size
  clear hB3
  go_loopw [6, 7] (fun v iv wr => ∃ m : Nat, m ≤ l.length ∧ iv = .int .i64 m ∧ ∃ xa xc, v = .slice xa (aheadL (l.take m) r).length xc ∧ Mr w1 B3 [(.slice a l.length q, l)] (.slice xa (aheadL (l.take m) r).length xc) (aheadL (l.take m) r) wr) (fun _ iv _ => l.length - (intOf iv).toNat)
  case atStart => exact ⟨0, Nat.zero_le _, rfl, none, 0, rfl, HM0.out⟩
  case round =>
    obtain ⟨m, hm, rfl, xa, xc, rfl, hM⟩ := hrel
    by_cases hlt : m < l.length
    · obtain ⟨x, hx⟩ : ∃ x, l[m]? = some x := ⟨_, List.getElem?_eq_getElem hlt⟩
      obtain ⟨b, o, rfl, k1⟩ := HL.out m x hx
      obtain ⟨c1, c2⟩ := k1 wr (HBw.out _ hM.below)
      obtain ⟨d1, d2⟩ := HBc.out wr hM.below
      have hlt2 : (m : Int) < (l.length : Int) := by omega
      have hx1 := oneB_iff.1 (HOne.out x (List.mem_of_getElem? hx))
      have hxe : x.e = x.s + x.c := rfl
      have hwx : IntKind.i64.wrap (x.s + x.c) = x.s + x.c := by rw [IntKind.wrap_i64]; omega
      have hnx := ahead_next (r := r) hx
      have hln := ahead_len l m r
      have HK : Hid (∀ w', Below w.heap.size w w' → w'.cell? ⟨b, o + m * 2, none⟩ = some (.int .i64 x.s) ∧ w'.cell? ⟨b, o + m * 2 + 1, none⟩ = some (.int .i64 x.c)) := k1
      by_cases hc : x.e < r.s
      · rw [if_pos hc] at hnx
        have HN : Hid _ := hnx
        have hc2 : x.s + x.c < r.s := by omega
        have HM : Hid _ := hM
        clear hnx hx k1 hM
        go_wp2
        go_quiet (fail)
        have hM := HM.out.drewN nq
        generalize wr.drewN nq = wx at *
        obtain ⟨c1, c2⟩ := HK.out wx (HBw.out _ hM.below)
        have HM2 := hM.alloc (.cells #[.int .i64 x.s, .int .i64 x.c] 24)
        have hR := RunsAt.made wx x.s x.c
        have HLn : Hid ((aheadL (l.take m) r ++ [x]).length = (aheadL (l.take m) r).length + 1) := by show _ = _; simp
        clear HM hM
        go_wp2_with (first
          | (refine load_at rfl (.tmp 43) rfl b (o + m * 2) x.s x.c rfl c1 c2 ?_)
          | (refine wpList_append_mr rfl (.tmp 40) (.tmp 45) rfl HM2 (.slice (some ⟨wx.heap.size, 0, none⟩) 1 1) [x] (aheadL (l.take m) r ++ [x]) ((aheadL (l.take m) r).length + 1) rfl rfl hR (Or.inl ⟨_, _, _, _, rfl⟩) rfl HLn.out (by omega) ?_; intro ya yc w5 _ HM5; have HMh : Hid _ := HM5; clear HM5 HM2 hR)
          | fail)
        go_roundw
        case rel => exact ⟨m + 1, by omega, by go_num, ya, yc, by rw [HN.out, HLn.out], by rw [HN.out, HLn.out]; exact HMh.out⟩
        case measure => simp [intOf]; omega
      · rw [if_neg hc] at hnx
        have HN : Hid _ := hnx
        have hc2 : ¬ x.s + x.c < r.s := by omega
        have HM : Hid _ := hM
        clear hnx hx k1 hM
        go_wp2
        go_quiet (fail)
        have HMq : Hid _ := HM.out.drewN nq
        generalize wr.drewN nq = wx at *
        go_wp2
        go_roundw
        case rel => exact ⟨m + 1, by omega, by go_num, xa, xc, by rw [HN.out], by rw [HN.out]; exact HMq.out⟩
        case measure => simp [intOf]; omega
    obtain rfl : m = l.length := by omega
    rw [List.take_of_length_le (Nat.le_refl _)] at hM ⊢
    have HIm : Hid (l.length ≤ l.length) := Nat.le_refl _
    have hAl := ahead_len l l.length r
    rw [List.take_of_length_le (Nat.le_refl _)] at hAl
    generalize aheadL l r = A at *
    have HM : Hid _ := hM
    have hlt2 : ¬ ((l.length : Nat) : Int) < (l.length : Int) := by omega
    clear hM hlt hm
    go_wp2
    obtain ⟨wa, hwa⟩ : ∃ wa, wr = wa := ⟨_, rfl⟩
    rw [hwa] at HM ⊢
    clear hwa
    go_loopw [8] (fun iv wr => ∃ m : Nat, m ≤ l.length ∧ iv = .int .i64 m ∧ (∀ x ∈ l.take m, meetB x r = false) ∧ Mr w1 B3 [(.slice a l.length q, l)] (.slice xa A.length xc) A wr) (fun iv _ => l.length - (intOf iv).toNat)
    case atStart => exact ⟨0, Nat.zero_le _, rfl, fun x hx => (by simp at hx), HM.out⟩
    case round =>
      clear HM
      obtain ⟨m, hm, rfl, hno, hM⟩ := hrel
      by_cases hlt : m < l.length
      · obtain ⟨x, hx⟩ : ∃ x, l[m]? = some x := ⟨_, List.getElem?_eq_getElem hlt⟩
        obtain ⟨b, o, rfl, k1⟩ := HL.out m x hx
        obtain ⟨c1, c2⟩ := k1 wr (HBw.out _ hM.below)
        obtain ⟨d1, d2⟩ := HBc.out wr hM.below
        have hlt3 : (m : Int) < (l.length : Int) := by omega
        have hxm := List.mem_of_getElem? hx
        have hx1 := oneB_iff.1 (HOne.out x hxm)
        have hxe : x.e = x.s + x.c := rfl
        have hwx : IntKind.i64.wrap (x.s + x.c) = x.s + x.c := by rw [IntKind.wrap_i64]; omega
        have hwr : IntKind.i64.wrap (r.s + r.c) = r.s + r.c := by rw [IntKind.wrap_i64]; omega
        have HM : Hid _ := hM
        have hcase : (x.s < r.s + r.c ∧ r.s < x.s + x.c) ∨ (x.s < r.s + r.c ∧ ¬ r.s < x.s + x.c) ∨ ¬ x.s < r.s + r.c := by omega
        rcases hcase with ⟨h1, h2⟩ | hcase
        · have hT : Hid (giveT l r = none) := HG.out true (List.any_eq_true.2 ⟨x, hxm, meetB_iff.2 ⟨by omega, by omega⟩⟩)
          clear hno hx hxm k1 hM
          go_wp2
          go_quiet (fail)
          have HBq : Hid _ := HBw.out _ (HM.out.drewN nq).below
          generalize wr.drewN nq = wx at *
          go_wp2
          go_ret2
          rw [hT.out]
          exact ⟨rfl, HBq.out⟩
        have HN : Hid (∀ y ∈ l.take (m + 1), meetB y r = false) := fun y hy => by
          rw [List.take_add_one, hx] at hy
          rcases List.mem_append.1 hy with h | h
          · exact hno y h
          · simp at h
            cases hh : meetB y r with
            | false => rfl
            | true => have := meetB_iff.1 hh; rw [h] at this; omega
        clear hno hx hxm k1 hM
        rcases hcase with ⟨h1, h2⟩ | h1
        rotate_left
        have h1' : decide (x.s < r.s + r.c) = false := decide_eq_false h1
        all_goals
          go_wp2
          go_quiet (fail)
          have HMq : Hid _ := HM.out.drewN nq
          generalize wr.drewN nq = wx at *
          go_wp2
          go_roundw
          case rel => exact ⟨m + 1, by omega, by go_num, HN.out, HMq.out⟩
          case measure => simp [intOf]; omega
      obtain rfl : m = l.length := by omega
      rw [List.take_of_length_le (Nat.le_refl _)] at hno
      have HT : Hid (giveT l r = some (A ++ (l.foldl (stepX r) r :: behindL l r))) := by
        show _ = _
        rw [HG.out false (by
          cases hh : l.any (fun a => meetB a r) with
          | false => rfl
          | true => obtain ⟨y, hy, hm⟩ := List.any_eq_true.1 hh; rw [hno y hy] at hm; cases hm), HI.out hno]
        rfl
      have hg0 := HBx.out _ hM.below
      have hob := (runs_of_owns hM.owns).2
      have HMx := hM.alloc (.cells #[.int .i64 r.s, .int .i64 r.c] 24)
      have hgx := heap_alloc_last wr (.cells #[.int .i64 r.s, .int .i64 r.c] 24)
      have hgB := hM.size
      have hlt2 : ¬ ((l.length : Nat) : Int) < (l.length : Int) := by omega
      have hz2 : (Try.prog.info? 24).map (·.size) = some 2 := by kernel_rfl
      clear hno hM hlt hm HG HI
      go_wp2_with (first
        | (refine load_box rfl (.tmp 3) rfl w.heap.size r.s r.c (0, 0) rfl hg0 ?_)
        | (refine store_last rfl 24 (.tmp 9) (.tmp 80) rfl 2 _ _ #[.int .i64 r.s, .int .i64 r.c] rfl rfl hz2 rfl rfl (run_one _ _) ?_)
        | fail)
      obtain ⟨g, hg⟩ : ∃ g, wr.heap.size = g := ⟨_, rfl⟩
      obtain ⟨wb, hwb⟩ : ∃ wb, wr.alloc (.cells #[.int .i64 r.s, .int .i64 r.c] 24) = wb := ⟨_, rfl⟩
      try rw [hwb] at HMx hgx ⊢
      try rw [hg] at hgx hgB hob ⊢
      have HOb : Hid (∀ i, (Value.slice xa A.length xc).ownBlock = some i → i < g) := fun i hi => (hob i hi).2
      have HGx : Hid _ := hgx
      have HMb : Hid _ := HMx
      have HgB : Hid (B3 ≤ g) := hgB
      clear hob hgx HMx hgB hg hwb hg0
      have HIr : Hid (0 ≤ r.c ∧ r.c ≤ 1099511627776) := by show _ ∧ _; omega
      have HLc : Hid (∀ x ∈ l, 0 ≤ x.c ∧ x.c ≤ 1099511627776) := fun x hx => by have := oneB_iff.1 (HOne.out x hx); omega
      go_wp2
      go_loopw [10] (fun iv wr => ∃ m : Nat, m ≤ l.length ∧ iv = .int .i64 m ∧ ∃ X : Rn, (l.take m).foldl (stepX r) r = X ∧ wr.heap[g]? = some (.cells #[.int .i64 X.s, .int .i64 X.c] 24 (0, 0)) ∧ Mr w1 B3 [(.slice a l.length q, l)] (.slice xa A.length xc) A wr) (fun iv _ => l.length - (intOf iv).toNat)
      case atStart => exact ⟨0, Nat.zero_le _, rfl, r, rfl, HGx.out, HMb.out⟩
      case round =>
        clear HMb HGx
        obtain ⟨m, hm, rfl, X, hX, hgx, hM⟩ := hrel
        by_cases hlt : m < l.length
        · obtain ⟨x, hx⟩ : ∃ x, l[m]? = some x := ⟨_, List.getElem?_eq_getElem hlt⟩
          obtain ⟨b, o, rfl, k1⟩ := HL.out m x hx
          obtain ⟨c1, c2⟩ := k1 wr (HBw.out _ hM.below)
          obtain ⟨d1, d2⟩ := HBc.out wr hM.below
          have HK : Hid (∀ w', Below w.heap.size w w' → w'.cell? ⟨b, o + m * 2, none⟩ = some (.int .i64 x.s) ∧ w'.cell? ⟨b, o + m * 2 + 1, none⟩ = some (.int .i64 x.c)) := k1
          have hlt3 : (m : Int) < (l.length : Int) := by omega
          have hxm := List.mem_of_getElem? hx
          have hx1 := oneB_iff.1 (HOne.out x hxm)
          have hxe : x.e = x.s + x.c := rfl
          have hwx : IntKind.i64.wrap (x.s + x.c) = x.s + x.c := by rw [IntKind.wrap_i64]; omega
          have hwr : IntKind.i64.wrap (r.s + r.c) = r.s + r.c := by rw [IntKind.wrap_i64]; omega
          have hXc : 0 ≤ X.c ∧ X.c ≤ r.c + 2199023255552 * 100000 := by
            have := fold_c (r := r) (l := l.take m) (x := r) (fun y hy => HLc.out y (List.mem_of_mem_take hy)) HIr.out.1
            rw [hX, List.length_take] at this
            have h5 : min m l.length ≤ 100000 := by omega
            omega
          have hw1 : IntKind.i64.wrap (x.c + X.c) = x.c + X.c := by rw [IntKind.wrap_i64]; omega
          have hw2 : IntKind.i64.wrap (X.c + x.c) = X.c + x.c := by rw [IntKind.wrap_i64]; omega
          have HN : Hid ((l.take (m + 1)).foldl (stepX r) r = stepX r X x) := by show _ = _; rw [fold_next hx, hX]
          have HM : Hid _ := hM
          have HXg : Hid (wr.heap[g]? = some (.cells #[.int .i64 X.s, .int .i64 X.c] 24 (0, 0))) := hgx
          clear hx hxm k1 hM hX hgx
          by_cases hc1 : x.e = r.s
          · have hc2 : x.s + x.c = r.s := by omega
            have hc3 : ¬ x.s = r.s + r.c := by omega
            have HS : Hid (stepX r X x = ⟨x.s, x.c + X.c⟩) := by show _ = _; unfold stepX; rw [if_pos hc1, if_neg (by omega)]
            go_wp2
            go_quiet (fail)
            have HMq : Hid _ := HM.out.drewN nq
            have HXq : Hid ((wr.drewN nq).heap[g]? = some (.cells #[.int .i64 X.s, .int .i64 X.c] 24 (0, 0))) := HXg.out
            clear HM HXg c1 c2 d1 d2
            generalize wr.drewN nq = wx at *
            go_upto_region 19 with fail
            refine wp_region_held (S := Below w.heap.size w) (by kernel_rfl) ?_
            change wpAnyH _ _ _ _ _ _ _ _ (World.drew _)
            have HM := HMq.out.drew
            have hgx : wx.drew.heap[g]? = some (.cells #[.int .i64 X.s, .int .i64 X.c] 24 (0, 0)) := HXq.out
            clear HMq HXq
            generalize World.drew _ = wy at *
            have HX : Below w.heap.size w wy := HBw.out _ HM.below
            refine wpAnyH_take (i := 0) (v := .slice (some ⟨b, o, none⟩) l.length q) rfl (by kernel_rfl) (by kernel_rfl) (by kernel_rfl) (fun _ _ _ h => h) (Or.inl ⟨by rfl, by intro w _; go_simp⟩) HX ?_
            simp only [List.getElem_toArray, List.getElem_cons_succ, List.getElem_cons_zero, Act.put, List.setIfInBounds_toArray, List.set_cons_zero, List.set_cons_succ]
            refine wpAnyH_take (i := 1) (v := .int .i64 m) rfl (by kernel_rfl) (by kernel_rfl) (by kernel_rfl) (fun _ _ _ h => h) (Or.inl ⟨by rfl, by intro w _; go_simp⟩) HX ?_
            simp only [List.getElem_toArray, List.getElem_cons_succ, List.getElem_cons_zero, Act.put, List.setIfInBounds_toArray, List.set_cons_zero, List.set_cons_succ]
            refine wpAnyH_take (i := 2) (v := .pointer (some ⟨b, o + m * 2, none⟩)) rfl (by kernel_rfl) (by kernel_rfl) (by kernel_rfl) (fun _ _ _ h => h) (Or.inl ⟨by rfl, by intro w _; go_simp⟩) HX ?_
            simp only [List.getElem_toArray, List.getElem_cons_succ, List.getElem_cons_zero, Act.put, List.setIfInBounds_toArray, List.set_cons_zero, List.set_cons_succ]
            refine wpAnyH_take (i := 3) (v := .pointer (some ⟨b, o + m * 2, none⟩)) rfl (by kernel_rfl) (by kernel_rfl) (by kernel_rfl) (fun _ _ _ h => h) (Or.inl ⟨by rfl, by intro w _; go_simp⟩) HX ?_
            simp only [List.getElem_toArray, List.getElem_cons_succ, List.getElem_cons_zero, Act.put, List.setIfInBounds_toArray, List.set_cons_zero, List.set_cons_succ]
            refine wpAnyH_take (i := 4) (v := .int .i64 x.s) rfl (by kernel_rfl) (by kernel_rfl) (by kernel_rfl) (fun _ _ _ h => h) (Or.inl ⟨by rfl, by intro w hw; have hc := (HK.out w hw).1; go_simp⟩) HX ?_
            simp only [List.getElem_toArray, List.getElem_cons_succ, List.getElem_cons_zero, Act.put, List.setIfInBounds_toArray, List.set_cons_zero, List.set_cons_succ]
            refine wpAnyH_take (i := 5) (v := .slice (some ⟨b, o, none⟩) l.length q) rfl (by kernel_rfl) (by kernel_rfl) (by kernel_rfl) (fun _ _ _ h => h) (Or.inl ⟨by rfl, by intro w _; go_simp⟩) HX ?_
            simp only [List.getElem_toArray, List.getElem_cons_succ, List.getElem_cons_zero, Act.put, List.setIfInBounds_toArray, List.set_cons_zero, List.set_cons_succ]
            refine wpAnyH_take (i := 6) (v := .int .i64 m) rfl (by kernel_rfl) (by kernel_rfl) (by kernel_rfl) (fun _ _ _ h => h) (Or.inl ⟨by rfl, by intro w _; go_simp⟩) HX ?_
            simp only [List.getElem_toArray, List.getElem_cons_succ, List.getElem_cons_zero, Act.put, List.setIfInBounds_toArray, List.set_cons_zero, List.set_cons_succ]
            refine wpAnyH_take (i := 7) (v := .pointer (some ⟨b, o + m * 2, none⟩)) rfl (by kernel_rfl) (by kernel_rfl) (by kernel_rfl) (fun _ _ _ h => h) (Or.inl ⟨by rfl, by intro w _; go_simp⟩) HX ?_
            simp only [List.getElem_toArray, List.getElem_cons_succ, List.getElem_cons_zero, Act.put, List.setIfInBounds_toArray, List.set_cons_zero, List.set_cons_succ]
            refine wpAnyH_take (i := 8) (v := .pointer (some ⟨b, o + m * 2 + 1, none⟩)) rfl (by kernel_rfl) (by kernel_rfl) (by kernel_rfl) (fun _ _ _ h => h) (Or.inl ⟨by rfl, by intro w _; go_simp⟩) HX ?_
            simp only [List.getElem_toArray, List.getElem_cons_succ, List.getElem_cons_zero, Act.put, List.setIfInBounds_toArray, List.set_cons_zero, List.set_cons_succ]
            refine wpAnyH_take (i := 9) (v := .int .i64 x.c) rfl (by kernel_rfl) (by kernel_rfl) (by kernel_rfl) (fun _ _ _ h => h) (Or.inl ⟨by rfl, by intro w hw; have hc := (HK.out w hw).2; go_simp⟩) HX ?_
            simp only [List.getElem_toArray, List.getElem_cons_succ, List.getElem_cons_zero, Act.put, List.setIfInBounds_toArray, List.set_cons_zero, List.set_cons_succ]
            refine wpAnyH_take (i := 10) (v := .pointer (some ⟨g, 1, none⟩)) rfl (by kernel_rfl) (by kernel_rfl) (by kernel_rfl) (fun _ _ _ h => h) (Or.inl ⟨by rfl, by intro w _; go_simp⟩) HX ?_
            simp only [List.getElem_toArray, List.getElem_cons_succ, List.getElem_cons_zero, Act.put, List.setIfInBounds_toArray, List.set_cons_zero, List.set_cons_succ]
            have e1 : wy.cell? ⟨g, 1, none⟩ = some (.int .i64 X.c) := by rw [cell_of_row _ _ _ _ _ _ hgx]; rfl
            refine wpAnyH_ready (rs := [11]) (by kernel_rfl) (by simp) (AllReadyH.cons (by simp only [List.getElem?_toArray, List.getElem?_cons_succ, List.getElem?_cons_zero]; rfl) (fun K hK => ?_) AllReadyH.nil)
            refine step_plain rfl ?_
            go_simp
            refine hK.out _ _ HX (fun _ => ?_)
            clear hK K
            try simp only [List.getElem_toArray, List.getElem_cons_succ, List.getElem_cons_zero, Act.put, List.setIfInBounds_toArray, List.set_cons_zero, List.set_cons_succ]
            refine wpAnyH_take (i := 12) (v := .int .i64 (x.c + X.c)) rfl (by kernel_rfl) (by kernel_rfl) (by kernel_rfl) (fun _ _ _ h => h) (Or.inl ⟨by rfl, by intro w _; go_simp⟩) HX ?_
            simp only [List.getElem_toArray, List.getElem_cons_succ, List.getElem_cons_zero, Act.put, List.setIfInBounds_toArray, List.set_cons_zero, List.set_cons_succ]
            refine wpAnyH_take (i := 13) (v := .agg #[.int .i64 x.s, .int .i64 (x.c + X.c)]) rfl (by kernel_rfl) (by kernel_rfl) (by kernel_rfl) (fun _ _ _ h => h) (Or.inl ⟨by rfl, by intro w _; go_simp⟩) HX ?_
            simp only [List.getElem_toArray, List.getElem_cons_succ, List.getElem_cons_zero, Act.put, List.setIfInBounds_toArray, List.set_cons_zero, List.set_cons_succ]
            have HX2 := below_setRow HX (Nat.le_trans (Nat.le_of_lt hlt1) (Nat.le_trans HB3l.out HgB.out)) #[.int .i64 x.s, .int .i64 (x.c + X.c)]
            refine wpAnyH_ready (rs := [14]) (by kernel_rfl) (by simp) (AllReadyH.cons (by simp only [List.getElem?_toArray, List.getElem?_cons_succ, List.getElem?_cons_zero]; rfl) (fun K hK => ?_) AllReadyH.nil)
            refine step_plain rfl ?_
            refine wp_store_row 24 (.tmp 9) _ rfl g #[.int .i64 x.s, .int .i64 (x.c + X.c)] rfl rfl _ _ hgx (run_size _ _) rfl (run_one _ _) ?_
            refine hK.out _ _ HX2 (fun _ => ?_)
            clear hK K
            try simp only [List.getElem_toArray, List.getElem_cons_succ, List.getElem_cons_zero, Act.put, List.setIfInBounds_toArray, List.set_cons_zero, List.set_cons_succ]
            refine wpAnyH_done (by kernel_rfl) ?_ _
            have HM6 := HM.turnRow HgB.out HOb.out #[.int .i64 x.s, .int .i64 (x.c + X.c)]
            have hgx := heap_setRow_same (ds := #[.int .i64 x.s, .int .i64 (x.c + X.c)]) hgx
            clear HX HX2 HM e1
            have HMq : Hid _ := HM6
            have HXq : Hid _ := hgx
            obtain ⟨c1, c2⟩ := HK.out _ (HBw.out _ HM6.below)
            obtain ⟨d1, d2⟩ := HBc.out _ HM6.below
            clear HM6 hgx
            generalize wy.setRow g _ = wz at *
            go_wp2
            go_quiet (fail)
            have HMr : Hid _ := HMq.out.drewN nq
            have HXr : Hid ((wz.drewN nq).heap[g]? = _) := HXq.out
            generalize wz.drewN nq = wv at *
            go_wp2
            go_roundw
            case rel => exact ⟨m + 1, by omega, by go_num, ⟨x.s, x.c + X.c⟩, by rw [HN.out, HS.out], HXr.out, HMr.out⟩
            case measure => simp [intOf]; omega
          · by_cases hc4 : x.s = r.e
            · have hc2 : ¬ x.s + x.c = r.s := by omega
              have hc3 : x.s = r.s + r.c := by omega
              have HS : Hid (stepX r X x = ⟨X.s, X.c + x.c⟩) := by show _ = _; unfold stepX; rw [if_neg hc1, if_pos hc4]
              go_wp2
              go_quiet (fail)
              have HMq : Hid _ := HM.out.drewN nq
              have HXq : Hid ((wr.drewN nq).heap[g]? = some (.cells #[.int .i64 X.s, .int .i64 X.c] 24 (0, 0))) := HXg.out
              clear HM HXg c1 c2 d1 d2
              generalize wr.drewN nq = wx at *
              obtain ⟨c1, c2⟩ := HK.out _ (HBw.out _ HMq.out.below)
              obtain ⟨d1, d2⟩ := HBc.out _ HMq.out.below
              go_wp2
              go_quiet (fail)
              have HMr : Hid _ := HMq.out.drewN nq
              have HXr : Hid ((wx.drewN nq).heap[g]? = some (.cells #[.int .i64 X.s, .int .i64 X.c] 24 (0, 0))) := HXq.out
              clear c1 c2 d1 d2 HMq HXq
              generalize wx.drewN nq = wv at *
              go_upto_region 21 with fail
              refine wp_region_held (S := Below w.heap.size w) (by kernel_rfl) ?_
              change wpAnyH _ _ _ _ _ _ _ _ (World.drew _)
              have HM := HMr.out.drew
              have hgx : wv.drew.heap[g]? = some (.cells #[.int .i64 X.s, .int .i64 X.c] 24 (0, 0)) := HXr.out
              clear HMr HXr
              generalize World.drew _ = wy at *
              have HX : Below w.heap.size w wy := HBw.out _ HM.below
              refine wpAnyH_take (i := 0) (v := .pointer (some ⟨g, 1, none⟩)) rfl (by kernel_rfl) (by kernel_rfl) (by kernel_rfl) (fun _ _ _ h => h) (Or.inl ⟨by rfl, by intro w _; go_simp⟩) HX ?_
              simp only [List.getElem_toArray, List.getElem_cons_succ, List.getElem_cons_zero, Act.put, List.setIfInBounds_toArray, List.set_cons_zero, List.set_cons_succ]
              refine wpAnyH_take (i := 2) (v := .slice (some ⟨b, o, none⟩) l.length q) rfl (by kernel_rfl) (by kernel_rfl) (by kernel_rfl) (fun _ _ _ h => h) (Or.inl ⟨by rfl, by intro w _; go_simp⟩) HX ?_
              simp only [List.getElem_toArray, List.getElem_cons_succ, List.getElem_cons_zero, Act.put, List.setIfInBounds_toArray, List.set_cons_zero, List.set_cons_succ]
              refine wpAnyH_take (i := 3) (v := .int .i64 m) rfl (by kernel_rfl) (by kernel_rfl) (by kernel_rfl) (fun _ _ _ h => h) (Or.inl ⟨by rfl, by intro w _; go_simp⟩) HX ?_
              simp only [List.getElem_toArray, List.getElem_cons_succ, List.getElem_cons_zero, Act.put, List.setIfInBounds_toArray, List.set_cons_zero, List.set_cons_succ]
              refine wpAnyH_take (i := 4) (v := .pointer (some ⟨b, o + m * 2, none⟩)) rfl (by kernel_rfl) (by kernel_rfl) (by kernel_rfl) (fun _ _ _ h => h) (Or.inl ⟨by rfl, by intro w _; go_simp⟩) HX ?_
              simp only [List.getElem_toArray, List.getElem_cons_succ, List.getElem_cons_zero, Act.put, List.setIfInBounds_toArray, List.set_cons_zero, List.set_cons_succ]
              refine wpAnyH_take (i := 5) (v := .pointer (some ⟨b, o + m * 2 + 1, none⟩)) rfl (by kernel_rfl) (by kernel_rfl) (by kernel_rfl) (fun _ _ _ h => h) (Or.inl ⟨by rfl, by intro w _; go_simp⟩) HX ?_
              simp only [List.getElem_toArray, List.getElem_cons_succ, List.getElem_cons_zero, Act.put, List.setIfInBounds_toArray, List.set_cons_zero, List.set_cons_succ]
              refine wpAnyH_take (i := 6) (v := .int .i64 x.c) rfl (by kernel_rfl) (by kernel_rfl) (by kernel_rfl) (fun _ _ _ h => h) (Or.inl ⟨by rfl, by intro w hw; have hc := (HK.out w hw).2; go_simp⟩) HX ?_
              simp only [List.getElem_toArray, List.getElem_cons_succ, List.getElem_cons_zero, Act.put, List.setIfInBounds_toArray, List.set_cons_zero, List.set_cons_succ]
              have e1 : wy.cell? ⟨g, 1, none⟩ = some (.int .i64 X.c) := by rw [cell_of_row _ _ _ _ _ _ hgx]; rfl
              have e2 := frozen_of_row wy g 1 _ _ hgx
              refine wpAnyH_ready (rs := [1]) (by kernel_rfl) (by simp) (AllReadyH.cons (by simp only [List.getElem?_toArray, List.getElem?_cons_succ, List.getElem?_cons_zero]; rfl) (fun K hK => ?_) AllReadyH.nil)
              refine step_plain rfl ?_
              go_simp
              refine hK.out _ _ HX (fun _ => ?_)
              clear hK K
              try simp only [List.getElem_toArray, List.getElem_cons_succ, List.getElem_cons_zero, Act.put, List.setIfInBounds_toArray, List.set_cons_zero, List.set_cons_succ]
              refine wpAnyH_take (i := 7) (v := .int .i64 (X.c + x.c)) rfl (by kernel_rfl) (by kernel_rfl) (by kernel_rfl) (fun _ _ _ h => h) (Or.inl ⟨by rfl, by intro w _; go_simp⟩) HX ?_
              simp only [List.getElem_toArray, List.getElem_cons_succ, List.getElem_cons_zero, Act.put, List.setIfInBounds_toArray, List.set_cons_zero, List.set_cons_succ]
              refine wpAnyH_take (i := 8) (v := .pointer (some ⟨g, 1, none⟩)) rfl (by kernel_rfl) (by kernel_rfl) (by kernel_rfl) (fun _ _ _ h => h) (Or.inl ⟨by rfl, by intro w _; go_simp⟩) HX ?_
              simp only [List.getElem_toArray, List.getElem_cons_succ, List.getElem_cons_zero, Act.put, List.setIfInBounds_toArray, List.set_cons_zero, List.set_cons_succ]
              have HX2 : Below w.heap.size w (wy.setCell ⟨g, 1, none⟩ (.int .i64 (X.c + x.c))) := HX.setCell (Nat.le_trans (Nat.le_of_lt hlt1) (Nat.le_trans HB3l.out HgB.out)) _
              refine wpAnyH_ready (rs := [9]) (by kernel_rfl) (by simp) (AllReadyH.cons (by simp only [List.getElem?_toArray, List.getElem?_cons_succ, List.getElem?_cons_zero]; rfl) (fun K hK => ?_) AllReadyH.nil)
              refine step_plain rfl ?_
              go_simp
              refine hK.out _ _ HX2 (fun _ => ?_)
              clear hK K
              try simp only [List.getElem_toArray, List.getElem_cons_succ, List.getElem_cons_zero, Act.put, List.setIfInBounds_toArray, List.set_cons_zero, List.set_cons_succ]
              refine wpAnyH_done (by kernel_rfl) ?_ _
              have HMv : Hid _ := HM.turnCell HgB.out HOb.out 1 (.int .i64 (X.c + x.c))
              have HXv : Hid _ := heap_set_same (o := 1) (v := .int .i64 (X.c + x.c)) hgx
              clear HX HX2 HM e1 e2 hgx
              go_wp2
              go_roundw
              case rel => exact ⟨m + 1, by omega, by go_num, ⟨X.s, X.c + x.c⟩, by rw [HN.out, HS.out], by simpa using HXv.out, HMv.out⟩
              case measure => simp [intOf]; omega
            · have hc2 : ¬ x.s + x.c = r.s := by omega
              have hc3 : ¬ x.s = r.s + r.c := by omega
              have HS : Hid (stepX r X x = X) := by show _ = _; unfold stepX; rw [if_neg hc1, if_neg hc4]
              go_wp2
              go_quiet (fail)
              have HMq : Hid _ := HM.out.drewN nq
              have HXq : Hid ((wr.drewN nq).heap[g]? = some (.cells #[.int .i64 X.s, .int .i64 X.c] 24 (0, 0))) := HXg.out
              clear HM HXg c1 c2 d1 d2
              generalize wr.drewN nq = wx at *
              obtain ⟨c1, c2⟩ := HK.out _ (HBw.out _ HMq.out.below)
              obtain ⟨d1, d2⟩ := HBc.out _ HMq.out.below
              go_wp2
              go_quiet (fail)
              have HMr : Hid _ := HMq.out.drewN nq
              have HXr : Hid ((wx.drewN nq).heap[g]? = some (.cells #[.int .i64 X.s, .int .i64 X.c] 24 (0, 0))) := HXq.out
              clear c1 c2 d1 d2 HMq HXq
              generalize wx.drewN nq = wv at *
              go_wp2
              go_roundw
              case rel => exact ⟨m + 1, by omega, by go_num, X, by rw [HN.out, HS.out], HXr.out, HMr.out⟩
              case measure => simp [intOf]; omega
        obtain rfl : m = l.length := by omega
        rw [List.take_of_length_le (Nat.le_refl _)] at hX
        have HT2 : Hid (giveT l r = some (A ++ [X] ++ behindL l r)) := by show _ = _; rw [HT.out, hX, List.append_assoc]; rfl
        have HM2 := hM.alloc (.cells #[.int .i64 X.s, .int .i64 X.c] 24)
        have hR := RunsAt.made wr X.s X.c
        have HLn : Hid ((A ++ [X]).length = A.length + 1) := by show _ = _; simp
        have hlt2 : ¬ ((l.length : Nat) : Int) < (l.length : Int) := by omega
        clear hX hM hlt hm HOb HT
        go_wp2_with (first
          | (refine load_box rfl (.tmp 9) rfl g X.s X.c (0, 0) rfl hgx ?_)
          | (refine wpList_append_mr rfl (.tmp 135) (.tmp 137) rfl HM2 (.slice (some ⟨wr.heap.size, 0, none⟩) 1 1) [X] (A ++ [X]) (A.length + 1) rfl rfl hR (Or.inl ⟨_, _, _, _, rfl⟩) rfl HLn.out (by omega) ?_; intro ya yc w5 _ HM5; have HMh : Hid _ := HM5; clear HM5 HM2 hR)
          | fail)
        have HM0 : Hid (Mr w1 B3 [(.slice a l.length q, l)] (.slice ya (A.length + 1 + (behindL (l.take 0) r).length) yc) (A ++ [X] ++ behindL (l.take 0) r) w5) := by
          have hb0 : behindL (l.take 0) r = [] := rfl
          show Mr _ _ _ _ _ _
          rw [hb0, List.append_nil]
          exact HMh.out
        clear HMh hgx HgB
        go_loopw [6, 11] (fun v iv wr => ∃ m : Nat, m ≤ l.length ∧ iv = .int .i64 m ∧ ∃ xa xc, v = .slice xa (A.length + 1 + (behindL (l.take m) r).length) xc ∧ Mr w1 B3 [(.slice a l.length q, l)] (.slice xa (A.length + 1 + (behindL (l.take m) r).length) xc) (A ++ [X] ++ behindL (l.take m) r) wr) (fun _ iv _ => l.length - (intOf iv).toNat)
        case atStart => exact ⟨0, Nat.zero_le _, rfl, ya, yc, rfl, HM0.out⟩
        case round =>
          clear HM0
          obtain ⟨m, hm, rfl, za, zc, rfl, hM⟩ := hrel
          by_cases hlt : m < l.length
          · obtain ⟨x, hx⟩ : ∃ x, l[m]? = some x := ⟨_, List.getElem?_eq_getElem hlt⟩
            obtain ⟨b, o, rfl, k1⟩ := HL.out m x hx
            obtain ⟨c1, c2⟩ := k1 wr (HBw.out _ hM.below)
            obtain ⟨d1, d2⟩ := HBc.out wr hM.below
            have hlt3 : (m : Int) < (l.length : Int) := by omega
            have hwr : IntKind.i64.wrap (r.s + r.c) = r.s + r.c := by rw [IntKind.wrap_i64]; omega
            have hnx := behind_next (r := r) hx
            have hln := behind_len l m r
            have HK : Hid (∀ w', Below w.heap.size w w' → w'.cell? ⟨b, o + m * 2, none⟩ = some (.int .i64 x.s) ∧ w'.cell? ⟨b, o + m * 2 + 1, none⟩ = some (.int .i64 x.c)) := k1
            by_cases hc : r.e < x.s
            · rw [if_pos hc] at hnx
              have HN : Hid _ := hnx
              have HN2 : Hid ((behindL (l.take (m + 1)) r).length = (behindL (l.take m) r).length + 1) := by show _ = _; rw [hnx]; simp
              have hc2 : x.s > r.s + r.c := by omega
              have HM : Hid _ := hM
              clear hnx hx k1 hM
              go_wp2
              go_quiet (fail)
              have hM := HM.out.drewN nq
              generalize wr.drewN nq = wx at *
              obtain ⟨c1, c2⟩ := HK.out wx (HBw.out _ hM.below)
              have HM2 := hM.alloc (.cells #[.int .i64 x.s, .int .i64 x.c] 24)
              have hR := RunsAt.made wx x.s x.c
              have HLn : Hid ((A ++ [X] ++ behindL (l.take m) r ++ [x]).length = A.length + 1 + (behindL (l.take m) r).length + 1) := by show _ = _; rw [List.length_append, List.length_append, List.length_append]; rfl
              clear HM hM
              go_wp2_with (first
                | (refine load_at rfl (.tmp 159) rfl b (o + m * 2) x.s x.c rfl c1 c2 ?_)
                | (refine wpList_append_mr rfl (.tmp 156) (.tmp 161) rfl HM2 (.slice (some ⟨wx.heap.size, 0, none⟩) 1 1) [x] (A ++ [X] ++ behindL (l.take m) r ++ [x]) (A.length + 1 + (behindL (l.take m) r).length + 1) rfl rfl hR (Or.inl ⟨_, _, _, _, rfl⟩) rfl HLn.out (by omega) ?_; intro ya yc w5 _ HM5; have HMh : Hid _ := HM5; clear HM5 HM2 hR)
                | fail)
              go_roundw
              case rel => exact ⟨m + 1, by omega, by go_num, ya, yc, by simp only [HN2.out, Nat.add_assoc], by rw [HN2.out, HN.out, ← List.append_assoc]; exact HMh.out⟩
              case measure => simp [intOf]; omega
            · rw [if_neg hc] at hnx
              have HN : Hid _ := hnx
              have hc2 : ¬ x.s > r.s + r.c := by omega
              have HM : Hid _ := hM
              clear hnx hx k1 hM
              go_wp2
              go_quiet (fail)
              have HMq : Hid _ := HM.out.drewN nq
              generalize wr.drewN nq = wx at *
              go_wp2
              go_roundw
              case rel => exact ⟨m + 1, by omega, by go_num, za, zc, by rw [HN.out], by rw [HN.out]; exact HMq.out⟩
              case measure => simp [intOf]; omega
          obtain rfl : m = l.length := by omega
          rw [List.take_of_length_le (Nat.le_refl _)] at hM ⊢
          have HM : Hid _ := hM
          have HLf : Hid ((A ++ [X] ++ behindL l r).length = A.length + 1 + (behindL l r).length) := by show _ = _; rw [List.length_append, List.length_append]; rfl
          have HBf : Hid _ := HBw.out _ hM.below
          have hlt2 : ¬ ((l.length : Nat) : Int) < (l.length : Int) := by omega
          have HBB : Hid (w.heap.size ≤ B3) := Nat.le_trans (Nat.le_of_lt hlt1) HB3l.out
          clear hM hlt hm
          go_wp2
          go_ret2
          rw [HT2.out]
          exact ⟨za, zc, by rw [HLf.out]; rfl, by have := HM.out.owns; rw [HLf.out] at this ⊢; exact owns_lower this HBB.out, HBf.out⟩
end Go.Proofs.Ytbnfhhjgalphgaa
