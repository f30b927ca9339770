/- Contracts of a device's Erase, Crash, Start. -/
import Derived.Test.YtdjjhiamiaialaaDoorKj
namespace Go.Proofs.YtdjjhiamiaialaaDoor
open Go.RowKit
/-- What a Crash tells, and makes. -/
def crashE (d : Dv) (k : List Int) : Int × Dv := if d.up = false then (43, d) else (0, crashD d k)
theorem crash_dev {w : World} {p : Nat} {d : Dv} {O : Nat → Prop} (h : Dev w p d O) {kq : Value} {k : List Int} (hk : IntsAt w kq k) (hkb : k ≠ [] → ∀ i, kq.ownBlock = some i → i < w.heap.size → ¬ O i) :
    Calls Tryd.prog 8 #[.pointer (some ⟨p, 0, none⟩), kq] w fun e w' => e = .returned (.int .i64 (crashE d k).1) ∧ Dev w' p (crashE d k).2 O ∧ Turn O w w' := by
  have hr := refuses_dev h
  have HD : Hid (Dev w p d O ∧ Turn O w w) := ⟨h, Turn.refl _ _⟩
  obtain ⟨R, hR⟩ : ∃ R, crashE d k = R := ⟨_, rfl⟩
  rw [hR]
  cases hu : d.up with
  | false =>
    rw [hu] at hr
    obtain rfl : R = (43, d) := by rw [← hR]; unfold crashE; rw [if_pos hu]
    clear h hR hu hk hkb
    go_enter Tryd.func8, Tryd.ntmps8
    go_wp2_with (go_at_call 20; refine hr.mono ?_; rintro e w' ⟨rfl, rfl⟩)
    go_ret
    exact ⟨rfl, HD.out⟩
  | true =>
    rw [hu] at hr
    obtain rfl : R = (0, crashD d k) := by rw [← hR]; unfold crashE; rw [if_neg (by rw [hu]; simp)]
    obtain ⟨a, b, ca, cb, cv, fv, kv, h⟩ := h
    have oa := (h.own a (by simp [blocks])).1
    have ob := (h.own b (by simp [blocks])).1
    have hc : Hid (Calls Tryd.prog 24 #[.pointer (some ⟨p, 0, none⟩), kq] w fun e w' => e = .returned (.tuple #[]) ∧ Dev w' p (crashD d k) O ∧ Turn O w w') := crash_at h hk (fun hk i hi hl => ⟨fun e => hkb hk i hi hl (by rw [e]; exact oa), fun e => hkb hk i hi hl (by rw [e]; exact ob)⟩)
    clear h hR hu hk hkb
    go_enter Tryd.func8, Tryd.ntmps8
    go_wp2_with (go_at_call 20; refine hr.mono ?_; rintro e w' ⟨rfl, rfl⟩)
    refine hc.out.mono ?_
    rintro e w3 ⟨rfl, HR3⟩
    have HR3 : Hid _ := HR3
    go_wp2
    go_ret
    exact ⟨rfl, HR3.out⟩
/-- What a Start tells, and makes. -/
def startD (d : Dv) : Int × Dv := if d.up then (2, d) else (0, { d with up := true, starts := d.starts + 1 })
theorem add_at {w : World} (p : Nat) (n : Nat) (hn : n < 1000000) (h : w.cell? ⟨p, 4, none⟩ = some (.int .i64 (n : Int))) (f : w.frozen? ⟨p, 4, none⟩ = false) : Calls Tryd.prog 26 #[.pointer (some ⟨p, 4, none⟩), .int .i64 1] w fun e w' => e = .returned (.int .i64 ((n + 1 : Nat) : Int)) ∧ w' = w.setCell ⟨p, 4, none⟩ (.int .i64 ((n + 1 : Nat) : Int)) := by
  have hl := run_call_add (P := Tryd.prog) Tryd.func37 (by kernel_rfl) (by kernel_rfl) (by kernel_rfl) .i64 (by kernel_rfl) (y := 1) (s := ((n + 1 : Nat) : Int)) h f (by
    simp [go_sem, IntKind.wrap_i64]; omega)
  go_enter Tryd.func26, Tryd.ntmps26
  go_wp2
  go_ret
  exact ⟨rfl, rfl⟩
theorem start_dev {w : World} {p : Nat} {d : Dv} {O : Nat → Prop} (h : Dev w p d O) (hs : d.starts < 1000000) :
    Calls Tryd.prog 9 #[.pointer (some ⟨p, 0, none⟩)] w fun e w' => e = .returned (.int .i64 (startD d).1) ∧ Dev w' p (startD d).2 O ∧ Turn O w w' := by
  have hn := isNone_dev h
  have HD : Hid (Dev w p d O ∧ Turn O w w) := ⟨h, Turn.refl _ _⟩
  obtain ⟨a, b, ca, cb, cv, fv, kv, h⟩ := h
  obtain ⟨-, -, -, c3, c4, -⟩ := h.c
  have op := (h.own p (by simp [blocks])).1
  have f3 : w.frozen? ⟨p, 3, none⟩ = false := frozen_of_row _ _ _ _ _ h.cells
  cases hu : d.up with
  | true =>
    rw [hu] at c3
    rw [show startD d = (2, d) by unfold startD; rw [hu]; rfl]
    clear h hu
    go_enter Tryd.func9, Tryd.ntmps9
    go_wp2_with (go_at_call 25; refine hn.mono ?_; rintro e w' ⟨rfl, rfl⟩)
    go_ret
    exact ⟨rfl, HD.out⟩
  | false =>
    rw [hu] at c3
    rw [show startD d = (0, { d with up := true, starts := d.starts + 1 }) by unfold startD; rw [hu]; rfl]
    have k1 : (w.setCell ⟨p, 3, none⟩ (.bool true)).cell? ⟨p, 4, none⟩ = some (.int .i64 (d.starts : Int)) := by rw [cell_set_ne (by omega)]; exact c4
    have k2 : (w.setCell ⟨p, 3, none⟩ (.bool true)).frozen? ⟨p, 4, none⟩ = false := frozen_of_row _ _ _ _ _ (heap_set_same h.cells)
    have ha : Hid _ := add_at p d.starts hs k1 k2
    have HR : Hid (Dev ((w.setCell ⟨p, 3, none⟩ (.bool true)).setCell ⟨p, 4, none⟩ (.int .i64 ((d.starts + 1 : Nat) : Int))) p { d with up := true, starts := d.starts + 1 } O ∧ Turn O w ((w.setCell ⟨p, 3, none⟩ (.bool true)).setCell ⟨p, 4, none⟩ (.int .i64 ((d.starts + 1 : Nat) : Int)))) := by
      obtain ⟨n1, n2, n3, n4, n5, n6⟩ := nodup_mem h.nodup
      have hne : ∀ k, k ≠ p → ((w.setCell ⟨p, 3, none⟩ (.bool true)).setCell ⟨p, 4, none⟩ (.int .i64 ((d.starts + 1 : Nat) : Int))).heap[k]? = w.heap[k]? := fun k hk => by
        rw [Below.heap_setCell _ _ _ _ hk, Below.heap_setCell _ _ _ _ hk]
      refine ⟨⟨a, b, ca, cb, cv, fv, kv, { h with cells := ?_, sure := h.sure.same (hne a n1.symm), told := h.told.same (hne b n2.symm), acts := owns_same h.acts fun k hk => hne k (n4 k hk).1, fail := h.fail.same fun k hk => hne k ?_, own := fun k hk => ⟨(h.own k hk).1, ?_⟩ }⟩, ((Turn.refl _ _).setCell op _).setCell op _⟩
      · rw [heap_set_same (heap_set_same h.cells)]; rfl
      · rcases hk with hk | hk
        · exact (n5 k hk).1
        · exact (n6 k hk).1
      · simp only [heap_set_size]; exact (h.own k hk).2
    clear h hu k1 k2 c4
    generalize ((d.starts + 1 : Nat) : Int) = z at *
    go_enter Tryd.func9, Tryd.ntmps9
    go_wp2_with (first | (go_at_call 25; refine hn.mono ?_; rintro e w' ⟨rfl, rfl⟩) | (go_at_call 26; refine Calls.mono ha.out ?_; rintro e w' ⟨rfl, rfl⟩))
    go_ret
    exact ⟨rfl, HR.out⟩
end Go.Proofs.YtdjjhiamiaialaaDoor
