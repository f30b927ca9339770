/- Contracts of a device's Erase, Crash, Start. -/
import Derived.Test.YthlaackalmgfnaaDj
namespace Go.Proofs.Ythlaackalmgfnaa
open Go.RowKit

/-- What an Erase tells, and makes. -/
def eraseD (d : Dv) (i : Int) : Int × Dv :=
  if d.up = false then (43, d)
  else if ¬ (0 ≤ i ∧ i < d.sure.length) then (2, d)
  else if stAtD d i = 0 then (41, d)
  else if stAtD d i = 2 then (0, d)
  else doD d (.er i.toNat)
theorem built_er (i : Nat) : Try.prog.built 103 [(0, Value.int .i64 (i : Int))] = some #[.int .i64 (i : Int)] := by kernel_rfl
set_option maxRecDepth 100000 in
theorem erase_dev {w : World} {p : Nat} {d : Dv} {O : Nat → Prop} (h : Dev w p d O) (i : Int) (hs : d.acts.length < 1000000) :
    Calls Try.prog 33 #[.pointer (some ⟨p, 0, none⟩), .int .i64 i] w fun e w' => e = .returned (.int .i64 (eraseD d i).1) ∧ Dev w' p (eraseD d i).2 (grow O w w') ∧ Turn O w w' := by
  have hr := refuses_dev h
  have hh := has_dev h i
  have HD : Hid (Dev w p d (grow O w w) ∧ Turn O w w) := ⟨h.mono (grow_refl O w), Turn.refl _ _⟩
  have HDV : Hid (Dev w p d O) := h
  obtain ⟨R, hR⟩ : ∃ R, eraseD d i = R := ⟨_, rfl⟩
  rw [hR]
  cases hu : d.up with
  | false =>
    rw [hu] at hr
    obtain rfl : R = (43, d) := by rw [← hR]; unfold eraseD; rw [if_pos hu]
    clear h hR hu hh
    go_enter Try.func33, Try.ntmps33
    go_wp2_with (go_at_call 51; refine hr.mono ?_; rintro e w' ⟨rfl, rfl⟩)
    go_ret
    exact ⟨rfl, HD.out⟩
  | true =>
    rw [hu] at hr
    by_cases hi : 0 ≤ i ∧ i < d.sure.length
    · rw [decide_eq_true hi] at hh
      obtain ⟨a, b, ca, cb, cv, fv, kv, h⟩ := h
      obtain ⟨-, c1, -⟩ := h.c
      obtain ⟨j, rfl⟩ : ∃ j : Nat, i = j := ⟨i.toNat, by omega⟩
      have hj : j < d.told.length := by have := h.len; omega
      have hc := h.told.cell (j * 129) (.int .i64 (d.told[j].st : Int)) (by
        have := rc_get d.told j 0 d.told[j] (List.getElem?_eq_getElem hj) (by omega)
        rw [Nat.add_zero] at this; rw [this]; rfl)
      have he : stAtD d j = d.told[j].st := by
        unfold stAtD
        rw [if_pos (by omega), Int.toNat_natCast, List.getElem?_eq_getElem hj]; rfl
      have HR : Hid (R = if (d.told[j].st : Int) = 0 then (41, d) else if (d.told[j].st : Int) = 2 then (0, d) else doD d (.er j)) := by
        show _ = _
        rw [← hR]; unfold eraseD
        rw [if_neg (by rw [hu]; simp), if_neg (by simpa using hi), he, Int.toNat_natCast]
      have hjn : (j : Int) < d.sure.length := hi.2
      have HDW : Hid (Calls Try.prog 53 #[.pointer (some ⟨p, 0, none⟩), .iface 103 (.agg #[.int .i64 (j : Int)])] w fun e w' => e = .returned (.int .i64 (doD d (.er j)).1) ∧ Dev w' p (doD d (.er j)).2 (grow O w w') ∧ Turn O w w') := do_dev HDV.out (.er j) (show j < d.sure.length by omega) hs
      clear h hi he hR hu
      generalize d.told[j].st = st at *
      clear hj
      generalize d.sure.length = n at *
      by_cases s1 : st = 0
      · subst s1
        obtain rfl : R = (41, d) := HR.out
        go_enter Try.func33, Try.ntmps33
        go_wp2_with (first | (go_at_call 51; refine hr.mono ?_; rintro e w' ⟨rfl, rfl⟩) | (go_at_call 52; refine hh.mono ?_; rintro e w' ⟨rfl, rfl⟩))
        go_ret
        exact ⟨rfl, HD.out⟩
      · by_cases s2 : st = 2
        · subst s2
          obtain rfl : R = (0, d) := HR.out
          go_enter Try.func33, Try.ntmps33
          go_wp2_with (first | (go_at_call 51; refine hr.mono ?_; rintro e w' ⟨rfl, rfl⟩) | (go_at_call 52; refine hh.mono ?_; rintro e w' ⟨rfl, rfl⟩))
          go_ret
          exact ⟨rfl, HD.out⟩
        · have t1 : ¬ (st : Int) = 0 := by omega
          have t2 : ¬ (st : Int) = 2 := by omega
          have hRR : R = doD d (.er j) := by rw [HR.out, if_neg t1, if_neg t2]
          rw [← hRR] at HDW
          have HDo : Hid (Calls Try.prog 53 #[.pointer (some ⟨p, 0, none⟩), .iface 103 (.agg #[.int .i64 (j : Int)])] w fun e w' => e = .returned (.int .i64 R.1) ∧ Dev w' p R.2 (grow O w w') ∧ Turn O w w') := HDW
          have HBu : Hid (∀ w : World, (Instr.build 103 #[(0, .int .i64 (j : Int))]).run Try.prog w = .ok (.agg #[.int .i64 (j : Int)]) w) := fun w => run_build w _ _ _ (built_er j)
          clear s1 s2 hRR HR HDW
          go_enter Try.func33, Try.ntmps33
          go_wp2_with (first | (go_at_call 51; refine hr.mono ?_; rintro e w' ⟨rfl, rfl⟩) | (go_at_call 52; refine hh.mono ?_; rintro e w' ⟨rfl, rfl⟩))
          refine HDo.out.mono ?_
          rintro e w3 ⟨rfl, HR3⟩
          have HR3 : Hid _ := HR3
          go_wp2
          go_ret
          exact ⟨rfl, HR3.out⟩
    · rw [decide_eq_false hi] at hh
      obtain rfl : R = (2, d) := by rw [← hR]; unfold eraseD; rw [if_neg (by rw [hu]; simp), if_pos hi]
      clear h hR hu hi
      go_enter Try.func33, Try.ntmps33
      go_wp2_with (first | (go_at_call 51; refine hr.mono ?_; rintro e w' ⟨rfl, rfl⟩) | (go_at_call 52; refine hh.mono ?_; rintro e w' ⟨rfl, rfl⟩))
      go_ret
      exact ⟨rfl, HD.out⟩
/-- What a Crash tells, and makes. -/
def crashE (d : Dv) (k : List Int) : Int × Dv := if d.up = false then (43, d) else (0, crashD d k)
theorem crash_dev {w : World} {p : Nat} {d : Dv} {O : Nat → Prop} (h : Dev w p d O) {kq : Value} {k : List Int} (hk : IntsAt w kq k) (hkb : k ≠ [] → ∀ i, kq.ownBlock = some i → i < w.heap.size → ¬ O i) :
    Calls Try.prog 31 #[.pointer (some ⟨p, 0, none⟩), kq] w fun e w' => e = .returned (.int .i64 (crashE d k).1) ∧ Dev w' p (crashE d k).2 O ∧ Turn O w w' := by
  have hr := refuses_dev h
  have HD : Hid (Dev w p d O ∧ Turn O w w) := ⟨h, Turn.refl _ _⟩
  obtain ⟨R, hR⟩ : ∃ R, crashE d k = R := ⟨_, rfl⟩
  rw [hR]
  cases hu : d.up with
  | false =>
    rw [hu] at hr
    obtain rfl : R = (43, d) := by rw [← hR]; unfold crashE; rw [if_pos hu]
    clear h hR hu hk hkb
    go_enter Try.func31, Try.ntmps31
    go_wp2_with (go_at_call 51; refine hr.mono ?_; rintro e w' ⟨rfl, rfl⟩)
    go_ret
    exact ⟨rfl, HD.out⟩
  | true =>
    rw [hu] at hr
    obtain rfl : R = (0, crashD d k) := by rw [← hR]; unfold crashE; rw [if_neg (by rw [hu]; simp)]
    obtain ⟨a, b, ca, cb, cv, fv, kv, h⟩ := h
    have oa := (h.own a (by simp [blocks])).1
    have ob := (h.own b (by simp [blocks])).1
    have hc : Hid (Calls Try.prog 57 #[.pointer (some ⟨p, 0, none⟩), kq] w fun e w' => e = .returned (.tuple #[]) ∧ Dev w' p (crashD d k) O ∧ Turn O w w') := crash_at h hk (fun hk i hi hl => ⟨fun e => hkb hk i hi hl (by rw [e]; exact oa), fun e => hkb hk i hi hl (by rw [e]; exact ob)⟩)
    clear h hR hu hk hkb
    go_enter Try.func31, Try.ntmps31
    go_wp2_with (go_at_call 51; refine hr.mono ?_; rintro e w' ⟨rfl, rfl⟩)
    refine hc.out.mono ?_
    rintro e w3 ⟨rfl, HR3⟩
    have HR3 : Hid _ := HR3
    go_wp2
    go_ret
    exact ⟨rfl, HR3.out⟩
/-- What a Start tells, and makes. -/
def startD (d : Dv) : Int × Dv := if d.up then (2, d) else (0, { d with up := true, starts := d.starts + 1 })
theorem add_at {w : World} (p : Nat) (n : Nat) (hn : n < 1000000) (h : w.cell? ⟨p, 4, none⟩ = some (.int .i64 (n : Int))) (f : w.frozen? ⟨p, 4, none⟩ = false) : Calls Try.prog 58 #[.pointer (some ⟨p, 4, none⟩), .int .i64 1] w fun e w' => e = .returned (.int .i64 ((n + 1 : Nat) : Int)) ∧ w' = w.setCell ⟨p, 4, none⟩ (.int .i64 ((n + 1 : Nat) : Int)) := by
  have hl := run_call_add (P := Try.prog) Try.func68 (by kernel_rfl) (by kernel_rfl) (by kernel_rfl) .i64 (by kernel_rfl) (y := 1) (s := ((n + 1 : Nat) : Int)) h f (by
    simp [go_sem, IntKind.wrap_i64]; omega)
  go_enter Try.func58, Try.ntmps58
  go_wp2
  go_ret
  exact ⟨rfl, rfl⟩
theorem start_dev {w : World} {p : Nat} {d : Dv} {O : Nat → Prop} (h : Dev w p d O) (hs : d.starts < 1000000) :
    Calls Try.prog 32 #[.pointer (some ⟨p, 0, none⟩)] w fun e w' => e = .returned (.int .i64 (startD d).1) ∧ Dev w' p (startD d).2 O ∧ Turn O w w' := by
  have hn := isNone_dev h
  have HD : Hid (Dev w p d O ∧ Turn O w w) := ⟨h, Turn.refl _ _⟩
  obtain ⟨a, b, ca, cb, cv, fv, kv, h⟩ := h
  obtain ⟨-, -, -, c3, c4, -⟩ := h.c
  have op := (h.own p (by simp [blocks])).1
  have f3 : w.frozen? ⟨p, 3, none⟩ = false := frozen_of_row _ _ _ _ _ h.cells
  cases hu : d.up with
  | true =>
    rw [hu] at c3
    rw [show startD d = (2, d) by unfold startD; rw [hu]; rfl]
    clear h hu
    go_enter Try.func32, Try.ntmps32
    go_wp2_with (go_at_call 49; refine hn.mono ?_; rintro e w' ⟨rfl, rfl⟩)
    go_ret
    exact ⟨rfl, HD.out⟩
  | false =>
    rw [hu] at c3
    rw [show startD d = (0, { d with up := true, starts := d.starts + 1 }) by unfold startD; rw [hu]; rfl]
    have k1 : (w.setCell ⟨p, 3, none⟩ (.bool true)).cell? ⟨p, 4, none⟩ = some (.int .i64 (d.starts : Int)) := by rw [cell_set_ne (by omega)]; exact c4
    have k2 : (w.setCell ⟨p, 3, none⟩ (.bool true)).frozen? ⟨p, 4, none⟩ = false := frozen_of_row _ _ _ _ _ (heap_set_same h.cells)
    have ha : Hid _ := add_at p d.starts hs k1 k2
    have HR : Hid (Dev ((w.setCell ⟨p, 3, none⟩ (.bool true)).setCell ⟨p, 4, none⟩ (.int .i64 ((d.starts + 1 : Nat) : Int))) p { d with up := true, starts := d.starts + 1 } O ∧ Turn O w ((w.setCell ⟨p, 3, none⟩ (.bool true)).setCell ⟨p, 4, none⟩ (.int .i64 ((d.starts + 1 : Nat) : Int)))) := by
      obtain ⟨n1, n2, n3, n4, n5, n6⟩ := nodup_mem h.nodup
      have hne : ∀ k, k ≠ p → ((w.setCell ⟨p, 3, none⟩ (.bool true)).setCell ⟨p, 4, none⟩ (.int .i64 ((d.starts + 1 : Nat) : Int))).heap[k]? = w.heap[k]? := fun k hk => by
        rw [Below.heap_setCell _ _ _ _ hk, Below.heap_setCell _ _ _ _ hk]
      refine ⟨⟨a, b, ca, cb, cv, fv, kv, { h with cells := ?_, sure := h.sure.same (hne a n1.symm), told := h.told.same (hne b n2.symm), acts := owns_same h.acts fun k hk => hne k (n4 k hk).1, fail := h.fail.same fun k hk => hne k ?_, own := fun k hk => ⟨(h.own k hk).1, ?_⟩ }⟩, ((Turn.refl _ _).setCell op _).setCell op _⟩
      · rw [heap_set_same (heap_set_same h.cells)]; rfl
      · rcases hk with hk | hk
        · exact (n5 k hk).1
        · exact (n6 k hk).1
      · simp only [heap_set_size]; exact (h.own k hk).2
    clear h hu k1 k2 c4
    generalize ((d.starts + 1 : Nat) : Int) = z at *
    go_enter Try.func32, Try.ntmps32
    go_wp2_with (first | (go_at_call 49; refine hn.mono ?_; rintro e w' ⟨rfl, rfl⟩) | (go_at_call 58; refine Calls.mono ha.out ?_; rintro e w' ⟨rfl, rfl⟩))
    go_ret
    exact ⟨rfl, HR.out⟩
end Go.Proofs.Ythlaackalmgfnaa
