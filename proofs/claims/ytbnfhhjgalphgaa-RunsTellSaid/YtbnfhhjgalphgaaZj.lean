/- The law's does: the chapter's examples (layer 7). -/
import Derived.Test.YtbnfhhjgalphgaaZe
import Derived.Test.YtbnfhhjgalphgaaZg
import Derived.Test.YtbnfhhjgalphgaaZi
namespace Go.Proofs.Ytbnfhhjgalphgaa
open Go.RowKit

theorem RunsAt.lit2 (w : World) (a b c d : Int) : RunsAt (w.alloc (.cells #[.int .i64 a, .int .i64 b, .int .i64 c, .int .i64 d] 24)) (.slice (some ⟨w.heap.size, 0, none⟩) 2 2) [⟨a, b⟩, ⟨c, d⟩] := by
  refine ⟨_, _, rfl, fun i r hi => ?_⟩
  have hl := (List.getElem?_eq_some_iff.1 hi).1
  refine ⟨_, _, rfl, ?_⟩
  rw [cell_of_row _ _ _ _ _ _ (heap_alloc_last w _), cell_of_row _ _ _ _ _ _ (heap_alloc_last w _)]
  match i, hi with
  | 0, hi => obtain rfl := Option.some.inj hi; exact ⟨rfl, rfl⟩
  | 1, hi => obtain rfl := Option.some.inj hi; exact ⟨rfl, rfl⟩
  | i + 2, hi => simp at hi
theorem fit2 {a b c d : Int} (h : (-9223372036854775808 ≤ a ∧ a < 9223372036854775808) ∧ (-9223372036854775808 ≤ b ∧ b < 9223372036854775808) ∧ (-9223372036854775808 ≤ c ∧ c < 9223372036854775808) ∧ (-9223372036854775808 ≤ d ∧ d < 9223372036854775808)) : fitR [⟨a, b⟩, ⟨c, d⟩] := fun r hr => by
  rcases List.mem_cons.1 hr with rfl | hr
  · exact ⟨h.1, h.2.1⟩
  · obtain rfl := List.mem_singleton.1 hr
    exact ⟨h.2.2.1, h.2.2.2⟩
theorem NumsAt.lit4 (w : World) (a b c d : Int) : NumsAt (w.alloc (.cells #[.int .i64 a, .int .i64 b, .int .i64 c, .int .i64 d] 3)) (.slice (some ⟨w.heap.size, 0, none⟩) 4 4) [a, b, c, d] := by
  refine ⟨_, _, rfl, fun i r hi => ?_⟩
  have hl := (List.getElem?_eq_some_iff.1 hi).1
  refine ⟨_, _, rfl, ?_⟩
  rw [cell_of_row _ _ _ _ _ _ (heap_alloc_last w _)]
  match i, hi with
  | 0, hi => obtain rfl := Option.some.inj hi; rfl
  | 1, hi => obtain rfl := Option.some.inj hi; rfl
  | 2, hi => obtain rfl := Option.some.inj hi; rfl
  | 3, hi => obtain rfl := Option.some.inj hi; rfl
  | i + 4, hi => simp at hi
theorem ex_free : freeL [0, 0, 1, 0] = [⟨0, 2⟩, ⟨3, 1⟩] := by rfl
theorem ex_take : takeT [⟨0, 2⟩, ⟨3, 4⟩] 3 = some (⟨3, 3⟩, [⟨0, 2⟩, ⟨6, 1⟩]) := by rfl
theorem ex_give : giveT [⟨0, 2⟩, ⟨5, 1⟩] ⟨2, 3⟩ = some [⟨0, 6⟩] := by rfl
theorem ex_no : giveT [⟨0, 2⟩, ⟨5, 1⟩] ⟨1, 1⟩ = none := by rfl
theorem ex_total : totL [⟨0, 6⟩] = 6 := by rfl
theorem ex_check : chkB [⟨0, 2⟩, ⟨3, 1⟩] = true := by rfl
theorem owned {w : World} {B : Nat} {a : Option Addr} {c : Nat} {l : List Rn} (h : w.ownsRow B 24 2 (.slice a l.length c) l.length (rsv l)) : RunsAt w (.slice a l.length c) l := (runs_of_owns h).1
set_option maxRecDepth 100000 in
set_option maxHeartbeats 4000000 in
theorem does_any (w : World) : Calls Try.prog 20 #[] w fun e w' => e = .returned (.bool true) ∧ Below w.heap.size w w' := by
  have hF : Calls Try.prog 21 #[.slice (some ⟨w.heap.size, 0, none⟩) 4 4] (w.alloc (.cells #[.int .i64 0, .int .i64 0, .int .i64 1, .int .i64 0] 3)) fun e w' => ∃ a c, e = .returned (.slice a 2 c) ∧ RunsAt w' (.slice a 2 c) [⟨0, 2⟩, ⟨3, 1⟩] ∧ Below w.heap.size w w' := by
    refine (free_any (NumsAt.lit4 w 0 0 1 0) (fun a n c h => by cases h; exact Nat.le_refl _) (by simp)).mono ?_
    rintro e w' ⟨a, c, rfl, hM⟩
    rw [ex_free] at hM
    exact ⟨a, c, rfl, hM.own, ((Below.refl _ _).alloc (Nat.le_refl _) _).trans (hM.below.mono (by simp))⟩
  have HTk : Hid (∀ w1 : World, Calls Try.prog 10 #[.slice (some ⟨w1.heap.size, 0, none⟩) 2 2, .int .i64 3] (w1.alloc (.cells #[.int .i64 0, .int .i64 2, .int .i64 3, .int .i64 4] 24)) fun e w' => ∃ a c, e = .returned (.tuple #[.agg #[.int .i64 3, .int .i64 3], .slice a 2 c, .bool true]) ∧ RunsAt w' (.slice a 2 c) [⟨0, 2⟩, ⟨6, 1⟩] ∧ Below w1.heap.size w1 w') := fun w1 => by
    refine (take_any 3 (RunsAt.lit2 w1 0 2 3 4) (fun a n c h => by cases h; exact Nat.le_refl _) (fit2 (by omega)) (by simp) (by omega) (by omega)).mono ?_
    intro e w' h
    rw [ex_take] at h
    obtain ⟨a, c, rfl, ho, hb⟩ := h
    exact ⟨a, c, rfl, owned ho, ((Below.refl _ _).alloc (Nat.le_refl _) _).trans (hb.mono (by simp))⟩
  have HGv : Hid (∀ w1 : World, Calls Try.prog 12 #[.slice (some ⟨w1.heap.size, 0, none⟩) 2 2, .agg #[.int .i64 2, .int .i64 3]] (w1.alloc (.cells #[.int .i64 0, .int .i64 2, .int .i64 5, .int .i64 1] 24)) fun e w' => ∃ a c, e = .returned (.tuple #[.slice a 1 c, .bool true]) ∧ RunsAt w' (.slice a 1 c) [⟨0, 6⟩] ∧ Below w1.heap.size w1 w') := fun w1 => by
    refine (give_any ⟨2, 3⟩ (RunsAt.lit2 w1 0 2 5 1) (.inr ⟨_, _, _, _, rfl, Nat.le_refl _⟩) (fit2 (by omega)) (by simp) (by simp) (by simp)).mono ?_
    intro e w' h
    rw [ex_give] at h
    obtain ⟨a, c, rfl, ho, hb⟩ := h
    exact ⟨a, c, rfl, owned ho, ((Below.refl _ _).alloc (Nat.le_refl _) _).trans (hb.mono (by simp))⟩
  have HNo : Hid (∀ w1 : World, Calls Try.prog 12 #[.slice (some ⟨w1.heap.size, 0, none⟩) 2 2, .agg #[.int .i64 1, .int .i64 1]] (w1.alloc (.cells #[.int .i64 0, .int .i64 2, .int .i64 5, .int .i64 1] 24)) fun e w' => e = .returned (.tuple #[.slice none 0 0, .bool false]) ∧ Below w1.heap.size w1 w') := fun w1 => by
    refine (give_any ⟨1, 1⟩ (RunsAt.lit2 w1 0 2 5 1) (.inr ⟨_, _, _, _, rfl, Nat.le_refl _⟩) (fit2 (by omega)) (by simp) (by simp) (by simp)).mono ?_
    intro e w' h
    rw [ex_no] at h
    obtain ⟨rfl, hb⟩ := h
    exact ⟨rfl, ((Below.refl _ _).alloc (Nat.le_refl _) _).trans (hb.mono (by simp))⟩
  have HS2 : Hid (∀ (w1 : World) (v : Value) (l : List Rn) (a b c d : Int), RunsAt w1 v l → l = [⟨a, b⟩, ⟨c, d⟩] → Calls Try.prog 14 #[v, .slice (some ⟨w1.heap.size, 0, none⟩) 2 2] (w1.alloc (.cells #[.int .i64 a, .int .i64 b, .int .i64 c, .int .i64 d] 24)) fun e w' => e = .returned (.bool true) ∧ Below w1.heap.size w1 w') := fun w1 v l a b c d h hl => by
    refine (same_any (h.below ((Below.refl _ _).alloc (Nat.le_refl _) _)) (RunsAt.lit2 w1 a b c d) (by rw [hl]; simp)).mono ?_
    rintro e w' ⟨rfl, hb⟩
    exact ⟨by rw [sameB_iff.2 hl], ((Below.refl _ _).alloc (Nat.le_refl _) _).trans (hb.mono (by simp))⟩
  have HS1 : Hid (∀ (w1 : World) (v : Value) (l : List Rn) (a b : Int), RunsAt w1 v l → l = [⟨a, b⟩] → Calls Try.prog 14 #[v, .slice (some ⟨w1.heap.size, 0, none⟩) 1 1] (w1.alloc (.cells #[.int .i64 a, .int .i64 b] 24)) fun e w' => e = .returned (.bool true) ∧ Below w1.heap.size w1 w') := fun w1 v l a b h hl => by
    refine (same_any (h.below ((Below.refl _ _).alloc (Nat.le_refl _) _)) (RunsAt.made w1 a b) (by rw [hl]; simp)).mono ?_
    rintro e w' ⟨rfl, hb⟩
    exact ⟨by rw [sameB_iff.2 hl], ((Below.refl _ _).alloc (Nat.le_refl _) _).trans (hb.mono (by simp))⟩
  go_enter Try.func20, Try.ntmps20
  go_wp2_with fail
  refine hF.mono ?_
  rintro e w1 ⟨la, lc, rfl, hl1, b1⟩
  have HL1 : Hid (∀ w', Below w1.heap.size w1 w' → RunsAt w' (.slice la 2 lc) [⟨0, 2⟩, ⟨3, 1⟩]) := fun w' hb => hl1.below hb
  have HB1 : Hid (∀ w', Below w1.heap.size w1 w' → Below w.heap.size w w') := fun w' hb => b1.trans (hb.mono b1.size)
  clear hF hl1 b1
  go_wp2_with fail
  refine (HTk.out w1).mono ?_
  rintro e w2 ⟨ra, rc, rfl, hr2, b2⟩
  obtain ⟨w2', hw2⟩ : ∃ w2', w2.alloc (.cells #[.int .i64 3, .int .i64 3] 24) = w2' := ⟨_, rfl⟩
  have k2 : Below w2.heap.size w2 w2' := by rw [← hw2]; exact (Below.refl _ _).alloc (Nat.le_refl _) _
  have b2' : Below w1.heap.size w1 w2' := b2.trans (k2.mono b2.size)
  have hg2 : w2'.heap[w2.heap.size]? = some (.cells #[.int .i64 3, .int .i64 3] 24 (0, 0)) := by rw [← hw2]; exact heap_alloc_last w2 _
  have hlt2 : w2.heap.size < w2'.heap.size := by rw [← hw2]; simp
  have HR2 : Hid (∀ w', Below w2'.heap.size w2' w' → RunsAt w' (.slice ra 2 rc) [⟨0, 2⟩, ⟨6, 1⟩]) := fun w' hb => (hr2.below k2).below hb
  have HB2 : Hid (∀ w', Below w2'.heap.size w2' w' → Below w1.heap.size w1 w') := fun w' hb => b2'.trans (hb.mono b2'.size)
  have HG2 : Hid (∀ w', Below w2'.heap.size w2' w' → w'.heap[w2.heap.size]? = some (.cells #[.int .i64 3, .int .i64 3] 24 (0, 0))) := fun w' hb => (hb.block _ hlt2).trans hg2
  clear hr2 b2 k2 b2' hg2 hlt2 HTk
  obtain ⟨rb, hrb⟩ : ∃ rb, w2.heap.size = rb := ⟨_, rfl⟩
  rw [hrb] at HG2
  go_wp2_with fail
  clear hrb hw2
  refine (HGv.out w2').mono ?_
  rintro e w3 ⟨ma, mc, rfl, hm3, b3⟩
  have HM3 : Hid (∀ w', Below w3.heap.size w3 w' → RunsAt w' (.slice ma 1 mc) [⟨0, 6⟩]) := fun w' hb => hm3.below hb
  have HB3 : Hid (∀ w', Below w3.heap.size w3 w' → Below w2'.heap.size w2' w') := fun w' hb => b3.trans (hb.mono b3.size)
  clear hm3 b3 HGv
  go_wp2_with fail
  refine (HNo.out w3).mono ?_
  rintro e w4 ⟨rfl, b4⟩
  have HB4 : Hid (∀ w', Below w4.heap.size w4 w' → Below w3.heap.size w3 w') := fun w' hb => b4.trans (hb.mono b4.size)
  clear b4 HNo
  have E3 : Hid (∀ w', Below w4.heap.size w4 w' → Below w3.heap.size w3 w') := HB4
  have E2 : Hid (∀ w', Below w4.heap.size w4 w' → Below w2'.heap.size w2' w') := fun w' hb => HB3.out _ (E3.out _ hb)
  have E1 : Hid (∀ w', Below w4.heap.size w4 w' → Below w1.heap.size w1 w') := fun w' hb => HB2.out _ (E2.out _ hb)
  have E0 : Hid (∀ w', Below w4.heap.size w4 w' → Below w.heap.size w w') := fun w' hb => HB1.out _ (E1.out _ hb)
  have F1 : Hid (∀ w', Below w4.heap.size w4 w' → RunsAt w' (.slice la 2 lc) [⟨0, 2⟩, ⟨3, 1⟩]) := fun w' hb => HL1.out _ (E1.out _ hb)
  have F2 : Hid (∀ w', Below w4.heap.size w4 w' → RunsAt w' (.slice ra 2 rc) [⟨0, 2⟩, ⟨6, 1⟩]) := fun w' hb => HR2.out _ (E2.out _ hb)
  have F3 : Hid (∀ w', Below w4.heap.size w4 w' → RunsAt w' (.slice ma 1 mc) [⟨0, 6⟩]) := fun w' hb => HM3.out _ (E3.out _ hb)
  have FG : Hid (∀ w', Below w4.heap.size w4 w' → w'.heap[rb]? = some (.cells #[.int .i64 3, .int .i64 3] 24 (0, 0))) := fun w' hb => HG2.out _ (E2.out _ hb)
  clear HL1 HB1 HR2 HB2 HG2 HM3 HB3 HB4 E1 E2 E3
  go_wp2_with fail
  refine (HS2.out w4 _ _ 0 2 3 1 (F1.out _ (Below.refl _ _)) rfl).mono ?_
  rintro e w5 ⟨rfl, b5⟩
  have B5 : Hid (Below w4.heap.size w4 w5) := b5
  have hg5 := FG.out _ b5
  clear b5
  go_wp2_with (first | (refine load_box rfl (.tmp 2) rfl rb 3 3 (0, 0) rfl hg5 ?_) | fail)
  refine (HS2.out w5 _ _ 0 2 6 1 (F2.out _ B5.out) rfl).mono ?_
  rintro e w6 ⟨rfl, b6⟩
  have B6 : Hid (Below w4.heap.size w4 w6) := B5.out.trans (b6.mono B5.out.size)
  clear b6 B5 hg5
  go_wp2_with fail
  refine (HS1.out w6 _ _ 0 6 (F3.out _ B6.out) rfl).mono ?_
  rintro e w7 ⟨rfl, b7⟩
  have B7 : Hid (Below w4.heap.size w4 w7) := B6.out.trans (b7.mono B6.out.size)
  clear b7 B6
  go_wp2_with fail
  refine (total_any (F3.out _ B7.out) (fun r hr => by obtain rfl := List.mem_singleton.1 hr; simp) (by simp)).mono ?_
  rintro e w8 ⟨rfl, b8⟩
  have B8 : Hid (Below w4.heap.size w4 w8) := B7.out.trans (b8.mono B7.out.size)
  clear b8 B7
  rw [ex_total]
  go_wp2_with fail
  refine (check_any (F1.out _ B8.out) (fit2 (by omega)) (by simp)).mono ?_
  rintro e w9 ⟨rfl, b9⟩
  have B9 : Hid (Below w4.heap.size w4 w9) := B8.out.trans (b9.mono B8.out.size)
  clear b9 B8
  rw [ex_check]
  go_wp2
  go_ret
  exact ⟨rfl, E0.out _ B9.out⟩
end Go.Proofs.Ytbnfhhjgalphgaa
