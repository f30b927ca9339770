/- Lists of runs in memory; two of them compared (the law's Same). -/
import Derived.Test.YtbnfhhjgalphgaaYo
import Derived.Test.YtbnfhhjgalphgaaLx
import Derived.Test.YtbnfhhjgalphgaaChecked
import Derived.WalkSpells
import Derived.Deep.OwnRows
import Derived.Deep.MidRow
import Derived.WalkLawsBesides
import Derived.BigQuiet
import Derived.Deep.QuietTactic
import Derived.Laws.AppendOwn
namespace Go.Proofs.Ytbnfhhjgalphgaa
open Go.RowKit

/-- A run as the program's value. -/
def rnV (r : Rn) : Value := .agg #[.int .i64 r.s, .int .i64 r.c]
/-- Runs that a slice holds. -/
def RunsAt (w : World) (v : Value) (l : List Rn) : Prop := ∃ a c, v = .slice a l.length c ∧ ∀ i r, l[i]? = some r → ∃ b o, a = some ⟨b, o, none⟩ ∧ w.cell? ⟨b, o + i * 2, none⟩ = some (.int .i64 r.s) ∧ w.cell? ⟨b, o + i * 2 + 1, none⟩ = some (.int .i64 r.c)
theorem cell_stays {w w' : World} {b o : Nat} {v : Value} (h : w.cell? ⟨b, o, none⟩ = some v) (hb : Below w.heap.size w w') : w'.cell? ⟨b, o, none⟩ = some v := by
  rw [World.cell?_of_block (hb.block b (World.block_lt_of_cell? w _ h))]; exact h
theorem RunsAt.below {w w' : World} {v : Value} {l : List Rn} (h : RunsAt w v l) (hb : Below w.heap.size w w') : RunsAt w' v l := by
  obtain ⟨a, c, e, hh⟩ := h
  refine ⟨a, c, e, fun i r hi => ?_⟩
  obtain ⟨b, o, ea, h1, h2⟩ := hh i r hi
  exact ⟨b, o, ea, cell_stays h1 hb, cell_stays h2 hb⟩
theorem RunsAt.cells {w : World} {a : Option Addr} {n c : Nat} {l : List Rn} (h : RunsAt w (.slice a n c) l) : n = l.length ∧ ∀ i r, l[i]? = some r → ∃ b o, a = some ⟨b, o, none⟩ ∧ ∀ w', Below w.heap.size w w' → w'.cell? ⟨b, o + i * 2, none⟩ = some (.int .i64 r.s) ∧ w'.cell? ⟨b, o + i * 2 + 1, none⟩ = some (.int .i64 r.c) := by
  obtain ⟨a', c', e, h⟩ := h
  simp at e
  obtain ⟨rfl, rfl, rfl⟩ := e
  refine ⟨rfl, fun i r hi => ?_⟩
  obtain ⟨b, o, rfl, h1, h2⟩ := h i r hi
  exact ⟨b, o, rfl, fun w' hb => ⟨cell_stays h1 hb, cell_stays h2 hb⟩⟩
theorem ret_same {a b : Bool} (h : a = b) : Ending.returned (.bool a) = .returned (.bool b) := by rw [h]
set_option maxRecDepth 100000 in
set_option maxHeartbeats 1000000 in
/-- Two lists of runs compared. -/
theorem same_any {w : World} {v1 v2 : Value} {l1 l2 : List Rn} (h1 : RunsAt w v1 l1) (h2 : RunsAt w v2 l2) (hl : l1.length ≤ 1000000) : Calls Try.prog 14 #[v1, v2] w fun e w' => e = .returned (.bool (sameB l1 l2)) ∧ Below w.heap.size w w' := by
  obtain ⟨a1, q1, rfl, -⟩ := id h1
  obtain ⟨a2, q2, rfl, -⟩ := id h2
  have H1 : Hid _ := h1.cells.2
  have H2 : Hid _ := h2.cells.2
  clear h1 h2
  by_cases hlen : l1.length = l2.length
  rotate_left
  · have hne : ((l1.length : Int) != (l2.length : Int)) = true := by simp; omega
    have hF : Hid (sameB l1 l2 = false) := by
      show _ = _
      exact sameB_no (fun e => hlen (by rw [e]))
    clear hlen
    go_enter Try.func14, Try.ntmps14
    go_wp2
    go_ret
    exact ⟨ret_same hF.out.symm, Below.refl _ _⟩
  have hne : ((l1.length : Int) != (l2.length : Int)) = false := by simp; omega
  go_enter Try.func14, Try.ntmps14
  go_wp2
  go_loopw [5] (fun i wr => ∃ k : Nat, k ≤ l1.length ∧ i = .int .i64 k ∧ l1.take k = l2.take k ∧ Below w.heap.size w wr) (fun i _ => l1.length - (intOf i).toNat)
  case atStart => exact ⟨0, Nat.zero_le _, rfl, rfl, Below.refl _ _⟩
  case round =>
    obtain ⟨k, hk, rfl, hsame, hB⟩ := hrel
    by_cases hlt : k < l1.length
    · obtain ⟨x, hx⟩ : ∃ x, l1[k]? = some x := ⟨_, List.getElem?_eq_getElem hlt⟩
      obtain ⟨y, hy⟩ : ∃ y, l2[k]? = some y := ⟨_, List.getElem?_eq_getElem (by omega)⟩
      obtain ⟨b1, o1, rfl, k1⟩ := H1.out k x hx
      obtain ⟨b2, o2, rfl, k2⟩ := H2.out k y hy
      obtain ⟨c1, c2⟩ := k1 wr hB
      obtain ⟨d1, d2⟩ := k2 wr hB
      have hlt2 : (k : Int) < (l1.length : Int) := by omega
      have hlt3 : (k : Int) < (l2.length : Int) := by omega
      have HB : Hid (Below w.heap.size w wr) := hB
      obtain ⟨xs, xc⟩ := x
      obtain ⟨ys, yc⟩ := y
      by_cases hxy : xs = ys ∧ xc = yc
      · obtain ⟨rfl, rfl⟩ := hxy
        have HN : Hid (l1.take (k + 1) = l2.take (k + 1)) := by show _ = _; rw [List.take_add_one, List.take_add_one, hsame, hx, hy]
        clear hx hy hB k1 k2 hsame
        simp only at c1 c2 d1 d2
        go_wp2
        go_quiet (fail)
        have HBq : Hid (Below w.heap.size w (wr.drewN nq)) := below_drewN HB.out _
        generalize wr.drewN nq = wx at *
        go_wp2
        go_roundw
        case rel => exact ⟨k + 1, by omega, by go_num, HN.out, HBq.out⟩
        case measure => simp [intOf]; omega
      · have hF : Hid (sameB l1 l2 = false) := by
          show _ = _
          exact sameB_no (fun e => hxy (by
            rw [e, hy] at hx
            have := Option.some.inj hx
            exact ⟨(congrArg Rn.s this).symm, (congrArg Rn.c this).symm⟩))
        have hcase : (¬ xs = ys) ∨ (xs = ys ∧ ¬ xc = yc) := by
          by_cases h : xs = ys
          · exact .inr ⟨h, fun e => hxy ⟨h, e⟩⟩
          · exact .inl h
        clear hx hy hB k1 k2 hsame hxy
        simp only at c1 c2 d1 d2
        rcases hcase with hc | ⟨rfl, hc⟩
        all_goals
          go_wp2
          go_quiet (fail)
          have HBq : Hid (Below w.heap.size w (wr.drewN nq)) := below_drewN HB.out _
          generalize wr.drewN nq = wx at *
          go_wp2
          go_ret
          exact ⟨ret_same hF.out.symm, HBq.out⟩
    · obtain rfl : k = l1.length := by omega
      have hF : Hid (sameB l1 l2 = true) := by
        show _ = _
        rw [List.take_of_length_le (Nat.le_refl _), List.take_of_length_le (by omega)] at hsame
        exact sameB_iff.2 hsame
      have HB : Hid _ := hB
      have hlt2 : ¬ ((l1.length : Nat) : Int) < (l1.length : Int) := by omega
      clear hB hsame
      go_wp2
      go_ret
      exact ⟨ret_same hF.out.symm, HB.out⟩
end Go.Proofs.Ytbnfhhjgalphgaa
