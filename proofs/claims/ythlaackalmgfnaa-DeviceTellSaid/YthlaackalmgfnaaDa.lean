/- Contracts of what only looks at a device. -/
import Derived.Test.YthlaackalmgfnaaDv
namespace Go.Proofs.Ythlaackalmgfnaa
open Go.RowKit

theorem isNone_nil (w : World) : Calls Try.prog 49 #[.pointer none] w fun e w' => e = .returned (.bool true) ∧ w' = w := by
  go_enter Try.func49, Try.ntmps49
  go_wp2
  go_ret
  exact ⟨rfl, rfl⟩
theorem isNone_zero (p : Nat) (w : World) (h : w.cell? ⟨p, 0, none⟩ = some (.slice none 0 0)) : Calls Try.prog 49 #[.pointer (some ⟨p, 0, none⟩)] w fun e w' => e = .returned (.bool true) ∧ w' = w := by
  go_enter Try.func49, Try.ntmps49
  go_wp2
  go_ret
  exact ⟨rfl, rfl⟩
theorem isNone_dev {w : World} {p : Nat} {d : Dv} {O : Nat → Prop} (h : Dev w p d O) : Calls Try.prog 49 #[.pointer (some ⟨p, 0, none⟩)] w fun e w' => e = .returned (.bool false) ∧ w' = w := by
  obtain ⟨a, b, ca, cb, cv, fv, kv, h⟩ := h
  obtain ⟨c0, -⟩ := h.c
  have h1 : ((d.sure.length : Int) == 0) = false := by have := h.pos; rw [beq_eq_false_iff_ne]; omega
  clear h
  generalize d.sure.length = n at *
  go_enter Try.func49, Try.ntmps49
  go_wp2
  go_ret
  exact ⟨rfl, rfl⟩
theorem refuses_dev {w : World} {p : Nat} {d : Dv} {O : Nat → Prop} (h : Dev w p d O) : Calls Try.prog 51 #[.pointer (some ⟨p, 0, none⟩)] w fun e w' => e = .returned (.int .i64 (if d.up then 0 else 43)) ∧ w' = w := by
  have hn := isNone_dev h
  obtain ⟨a, b, ca, cb, cv, fv, kv, h⟩ := h
  obtain ⟨-, -, -, c3, -⟩ := h.c
  clear h
  cases hu : d.up <;> rw [hu] at c3 <;> clear hu
  · go_enter Try.func51, Try.ntmps51
    go_wp2_with (go_at_call 49; refine hn.mono ?_; rintro e w' ⟨rfl, rfl⟩)
    go_ret
    exact ⟨rfl, rfl⟩
  · go_enter Try.func51, Try.ntmps51
    go_wp2_with (go_at_call 49; refine hn.mono ?_; rintro e w' ⟨rfl, rfl⟩)
    go_ret
    exact ⟨rfl, rfl⟩
theorem has_dev {w : World} {p : Nat} {d : Dv} {O : Nat → Prop} (h : Dev w p d O) (i : Int) : Calls Try.prog 52 #[.pointer (some ⟨p, 0, none⟩), .int .i64 i] w fun e w' => e = .returned (.bool (decide (0 ≤ i ∧ i < d.sure.length))) ∧ w' = w := by
  obtain ⟨a, b, ca, cb, cv, fv, kv, h⟩ := h
  obtain ⟨-, c1, -⟩ := h.c
  clear h
  generalize d.sure.length = n at *
  by_cases hi : 0 ≤ i
  · go_enter Try.func52, Try.ntmps52
    go_wp2
    go_ret
    exact ⟨by simp [hi], rfl⟩
  · go_enter Try.func52, Try.ntmps52
    go_wp2
    go_ret
    exact ⟨by simp; omega, rfl⟩
/-- What is no device. -/
def Non (w : World) (v : Value) : Prop := v = .pointer none ∨ ∃ p, v = .pointer (some ⟨p, 0, none⟩) ∧ w.cell? ⟨p, 0, none⟩ = some (.slice none 0 0)
theorem isNone_non {w : World} {v : Value} (h : Non w v) : Calls Try.prog 49 #[v] w fun e w' => e = .returned (.bool true) ∧ w' = w := by
  rcases h with rfl | ⟨p, rfl, h⟩
  · exact isNone_nil w
  · exact isNone_zero p w h
theorem refuses_non {w : World} {v : Value} (h : Non w v) : Calls Try.prog 51 #[v] w fun e w' => e = .returned (.int .i64 1) ∧ w' = w := by
  have hn := isNone_non h
  clear h
  go_enter Try.func51, Try.ntmps51
  go_wp2_with (go_at_call 49; refine hn.mono ?_; rintro e w' ⟨rfl, rfl⟩)
  go_ret
  exact ⟨rfl, rfl⟩
theorem len_non {w : World} {v : Value} (h : Non w v) : Calls Try.prog 22 #[v] w fun e w' => e = .returned (.int .i64 0) ∧ w' = w := by
  have hn := isNone_non h
  clear h
  go_enter Try.func22, Try.ntmps22
  go_wp2_with (go_at_call 49; refine hn.mono ?_; rintro e w' ⟨rfl, rfl⟩)
  go_ret
  exact ⟨rfl, rfl⟩
theorem state_non {w : World} {v : Value} (h : Non w v) (i : Int) : Calls Try.prog 23 #[v, .int .i64 i] w fun e w' => e = .returned (.int .i64 (-1)) ∧ w' = w := by
  have hn := isNone_non h
  clear h
  go_enter Try.func23, Try.ntmps23
  go_wp2_with (go_at_call 49; refine hn.mono ?_; rintro e w' ⟨rfl, rfl⟩)
  go_ret
  exact ⟨rfl, rfl⟩
theorem states_non {w : World} {v : Value} (h : Non w v) : Calls Try.prog 24 #[v] w fun e w' => e = .returned (.slice none 0 0) ∧ w' = w := by
  have hn := isNone_non h
  clear h
  go_enter Try.func24, Try.ntmps24
  go_wp2_with (go_at_call 49; refine hn.mono ?_; rintro e w' ⟨rfl, rfl⟩)
  go_ret
  exact ⟨rfl, rfl⟩
theorem pending_non {w : World} {v : Value} (h : Non w v) : Calls Try.prog 25 #[v] w fun e w' => e = .returned (.int .i64 0) ∧ w' = w := by
  have hn := isNone_non h
  clear h
  go_enter Try.func25, Try.ntmps25
  go_wp2_with (go_at_call 49; refine hn.mono ?_; rintro e w' ⟨rfl, rfl⟩)
  go_ret
  exact ⟨rfl, rfl⟩
theorem up_non {w : World} {v : Value} (h : Non w v) : Calls Try.prog 26 #[v] w fun e w' => e = .returned (.bool false) ∧ w' = w := by
  have hn := isNone_non h
  clear h
  go_enter Try.func26, Try.ntmps26
  go_wp2_with (go_at_call 49; refine hn.mono ?_; rintro e w' ⟨rfl, rfl⟩)
  go_ret
  exact ⟨rfl, rfl⟩
theorem starts_non {w : World} {v : Value} (h : Non w v) : Calls Try.prog 27 #[v] w fun e w' => e = .returned (.int .i64 0) ∧ w' = w := by
  have hn := isNone_non h
  clear h
  go_enter Try.func27, Try.ntmps27
  go_wp2_with (go_at_call 49; refine hn.mono ?_; rintro e w' ⟨rfl, rfl⟩)
  go_ret
  exact ⟨rfl, rfl⟩
theorem clone_non {w : World} {v : Value} (h : Non w v) : Calls Try.prog 17 #[v] w fun e w' => e = .returned (.pointer none) ∧ w' = w := by
  have hn := isNone_non h
  clear h
  go_enter Try.func17, Try.ntmps17
  go_wp2_with (go_at_call 49; refine hn.mono ?_; rintro e w' ⟨rfl, rfl⟩)
  go_ret
  exact ⟨rfl, rfl⟩
theorem start_non {w : World} {v : Value} (h : Non w v) : Calls Try.prog 32 #[v] w fun e w' => e = .returned (.int .i64 1) ∧ w' = w := by
  have hn := isNone_non h
  clear h
  go_enter Try.func32, Try.ntmps32
  go_wp2_with (go_at_call 49; refine hn.mono ?_; rintro e w' ⟨rfl, rfl⟩)
  go_ret
  exact ⟨rfl, rfl⟩
theorem read_non {w : World} {v : Value} (h : Non w v) (i : Int) : Calls Try.prog 21 #[v, .int .i64 i] w fun e w' => e = .returned (.tuple #[.string ⟨#[]⟩, .int .i64 1]) ∧ w' = w := by
  have hn := refuses_non h
  clear h
  go_enter Try.func21, Try.ntmps21
  go_wp2_with (go_at_call 51; refine hn.mono ?_; rintro e w' ⟨rfl, rfl⟩)
  go_ret2
  exact ⟨rfl, rfl⟩
theorem write_non {w : World} {v : Value} (h : Non w v) (i : Int) (s : ByteArray) : Calls Try.prog 19 #[v, .int .i64 i, .string s] w fun e w' => e = .returned (.int .i64 1) ∧ w' = w := by
  have hn := refuses_non h
  clear h
  go_enter Try.func19, Try.ntmps19
  go_wp2_with (go_at_call 51; refine hn.mono ?_; rintro e w' ⟨rfl, rfl⟩)
  go_ret
  exact ⟨rfl, rfl⟩
theorem erase_non {w : World} {v : Value} (h : Non w v) (i : Int) : Calls Try.prog 33 #[v, .int .i64 i] w fun e w' => e = .returned (.int .i64 1) ∧ w' = w := by
  have hn := refuses_non h
  clear h
  go_enter Try.func33, Try.ntmps33
  go_wp2_with (go_at_call 51; refine hn.mono ?_; rintro e w' ⟨rfl, rfl⟩)
  go_ret
  exact ⟨rfl, rfl⟩
theorem flush_non {w : World} {v : Value} (h : Non w v) : Calls Try.prog 29 #[v] w fun e w' => e = .returned (.int .i64 1) ∧ w' = w := by
  have hn := refuses_non h
  clear h
  go_enter Try.func29, Try.ntmps29
  go_wp2_with (go_at_call 51; refine hn.mono ?_; rintro e w' ⟨rfl, rfl⟩)
  go_ret
  exact ⟨rfl, rfl⟩
theorem crash_non {w : World} {v : Value} (h : Non w v) (k : Value) : Calls Try.prog 31 #[v, k] w fun e w' => e = .returned (.int .i64 1) ∧ w' = w := by
  have hn := refuses_non h
  clear h
  go_enter Try.func31, Try.ntmps31
  go_wp2_with (go_at_call 51; refine hn.mono ?_; rintro e w' ⟨rfl, rfl⟩)
  go_ret
  exact ⟨rfl, rfl⟩
theorem fail_non {w : World} {v : Value} (h : Non w v) (n : Int) (k : Value) : Calls Try.prog 34 #[v, .int .i64 n, k] w fun e w' => e = .returned (.int .i64 1) ∧ w' = w := by
  have hn := refuses_non h
  clear h
  go_enter Try.func34, Try.ntmps34
  go_wp2_with (go_at_call 51; refine hn.mono ?_; rintro e w' ⟨rfl, rfl⟩)
  go_ret
  exact ⟨rfl, rfl⟩
theorem len_dev {w : World} {p : Nat} {d : Dv} {O : Nat → Prop} (h : Dev w p d O) : Calls Try.prog 22 #[.pointer (some ⟨p, 0, none⟩)] w fun e w' => e = .returned (.int .i64 (d.sure.length : Int)) ∧ w' = w := by
  have hn := isNone_dev h
  obtain ⟨a, b, ca, cb, cv, fv, kv, h⟩ := h
  obtain ⟨-, c1, -⟩ := h.c
  clear h
  generalize d.sure.length = n at *
  go_enter Try.func22, Try.ntmps22
  go_wp2_with (go_at_call 49; refine hn.mono ?_; rintro e w' ⟨rfl, rfl⟩)
  go_ret
  exact ⟨rfl, rfl⟩
theorem pending_dev {w : World} {p : Nat} {d : Dv} {O : Nat → Prop} (h : Dev w p d O) : Calls Try.prog 25 #[.pointer (some ⟨p, 0, none⟩)] w fun e w' => e = .returned (.int .i64 (d.acts.length : Int)) ∧ w' = w := by
  have hn := isNone_dev h
  obtain ⟨a, b, ca, cb, cv, fv, kv, h⟩ := h
  obtain ⟨-, -, c2, -⟩ := h.c
  obtain ⟨x, c, rfl⟩ : ∃ x c, cv = .slice x d.acts.length c := by
    rcases h.acts.2 with ⟨h1, h2⟩ | ⟨g, cap, cur, h1, _⟩
    · exact ⟨none, 0, by rw [h1, h2]⟩
    · exact ⟨_, _, h1⟩
  clear h
  generalize d.acts.length = n at *
  go_enter Try.func25, Try.ntmps25
  go_wp2_with (go_at_call 49; refine hn.mono ?_; rintro e w' ⟨rfl, rfl⟩)
  go_ret
  exact ⟨rfl, rfl⟩
theorem up_dev {w : World} {p : Nat} {d : Dv} {O : Nat → Prop} (h : Dev w p d O) : Calls Try.prog 26 #[.pointer (some ⟨p, 0, none⟩)] w fun e w' => e = .returned (.bool d.up) ∧ w' = w := by
  have hn := isNone_dev h
  obtain ⟨a, b, ca, cb, cv, fv, kv, h⟩ := h
  obtain ⟨-, -, -, c3, -⟩ := h.c
  clear h
  generalize d.up = u at *
  go_enter Try.func26, Try.ntmps26
  go_wp2_with (go_at_call 49; refine hn.mono ?_; rintro e w' ⟨rfl, rfl⟩)
  go_ret
  exact ⟨rfl, rfl⟩
theorem load_at {w : World} (p : Nat) (n : Int) (h : w.cell? ⟨p, 4, none⟩ = some (.int .i64 n)) : Calls Try.prog 55 #[.pointer (some ⟨p, 4, none⟩)] w fun e w' => e = .returned (.int .i64 n) ∧ w' = w := by
  have hl := run_call_load (P := Try.prog) Try.func67 (by kernel_rfl) (by kernel_rfl) (by kernel_rfl) .i64 (by kernel_rfl) h
  go_enter Try.func55, Try.ntmps55
  go_wp2
  go_ret
  exact ⟨rfl, rfl⟩
theorem starts_dev {w : World} {p : Nat} {d : Dv} {O : Nat → Prop} (h : Dev w p d O) : Calls Try.prog 27 #[.pointer (some ⟨p, 0, none⟩)] w fun e w' => e = .returned (.int .i64 (d.starts : Int)) ∧ w' = w := by
  have hn := isNone_dev h
  obtain ⟨a, b, ca, cb, cv, fv, kv, h⟩ := h
  obtain ⟨-, -, -, -, c4, -⟩ := h.c
  have hl := load_at p _ c4
  clear h c4
  generalize d.starts = u at *
  go_enter Try.func27, Try.ntmps27
  go_wp2_with (first | (go_at_call 49; refine hn.mono ?_; rintro e w' ⟨rfl, rfl⟩) | (go_at_call 55; refine hl.mono ?_; rintro e w' ⟨rfl, rfl⟩))
  go_ret
  exact ⟨rfl, rfl⟩
/-- What a block is told to be. -/
def stAtD (d : Dv) (i : Int) : Int := if 0 ≤ i then (d.told[i.toNat]?.map fun b => (b.st : Int)).getD (-1) else -1
theorem state_dev {w : World} {p : Nat} {d : Dv} {O : Nat → Prop} (h : Dev w p d O) (i : Int) : Calls Try.prog 23 #[.pointer (some ⟨p, 0, none⟩), .int .i64 i] w fun e w' => e = .returned (.int .i64 (stAtD d i)) ∧ w' = w := by
  have hn := isNone_dev h
  have hh := has_dev h i
  obtain ⟨a, b, ca, cb, cv, fv, kv, h⟩ := h
  obtain ⟨-, c1, -⟩ := h.c
  by_cases hi : 0 ≤ i ∧ i < d.sure.length
  · rw [decide_eq_true hi] at hh
    obtain ⟨j, rfl⟩ : ∃ j : Nat, i = j := ⟨i.toNat, by omega⟩
    have hj : j < d.told.length := by have := h.len; omega
    have hc := h.told.cell (j * 129) (.int .i64 (d.told[j].st : Int)) (by
      have := rc_get d.told j 0 d.told[j] (List.getElem?_eq_getElem hj) (by omega)
      rw [Nat.add_zero] at this; rw [this]; rfl)
    have he : stAtD d j = d.told[j].st := by
      unfold stAtD
      rw [if_pos (by omega), Int.toNat_natCast, List.getElem?_eq_getElem hj]; rfl
    rw [he]
    have hjn : (j : Int) < d.sure.length := hi.2
    clear h hi he
    generalize d.told[j].st = s at *
    clear hj
    generalize d.sure.length = n at *
    go_enter Try.func23, Try.ntmps23
    go_wp2_with (first | (go_at_call 49; refine hn.mono ?_; rintro e w' ⟨rfl, rfl⟩) | (go_at_call 52; refine hh.mono ?_; rintro e w' ⟨rfl, rfl⟩))
    go_ret
    exact ⟨rfl, rfl⟩
  · rw [decide_eq_false hi] at hh
    have he : stAtD d i = -1 := by
      unfold stAtD
      by_cases h0 : 0 ≤ i
      · rw [if_pos h0, List.getElem?_eq_none (by have := h.len; omega)]; rfl
      · rw [if_neg h0]
    rw [he]
    clear h hi he
    go_enter Try.func23, Try.ntmps23
    go_wp2_with (first | (go_at_call 49; refine hn.mono ?_; rintro e w' ⟨rfl, rfl⟩) | (go_at_call 52; refine hh.mono ?_; rintro e w' ⟨rfl, rfl⟩))
    go_ret
    exact ⟨rfl, rfl⟩
end Go.Proofs.Ythlaackalmgfnaa
