/- Lists of runs, plainly: in order as far as it was looked; sums. -/
import Derived.Test.YtbnfhhjgalphgaaYa
namespace Go.Proofs.Ytbnfhhjgalphgaa
open Go.RowKit

/-- Each number of a list of runs is one that an int holds. -/
def fitR (l : List Rn) : Prop := ∀ r ∈ l, (-9223372036854775808 ≤ r.s ∧ r.s < 9223372036854775808) ∧ (-9223372036854775808 ≤ r.c ∧ r.c < 9223372036854775808)
theorem chk_take {l : List Rn} {m : Nat} {x : Rn} (hx : l[m]? = some x) (h : chkB (l.take m) = true) (h1 : oneB x = true) (h2 : ∀ j y, m = j + 1 → l[j]? = some y → y.e < x.s) : chkB (l.take (m + 1)) = true := by
  rw [List.take_add_one, hx]
  refine chk_append.2 ⟨h, chk_cons.2 ⟨h1, rfl, fun r hr => (by cases hr)⟩, fun a ha b hb => ?_⟩
  obtain rfl : b = x := by simpa using hb
  cases m with
  | zero => simp at ha
  | succ j =>
    have hj : j < l.length := by have := (List.getElem?_eq_some_iff.1 hx).1; omega
    obtain ⟨y, hy⟩ : ∃ y, l[j]? = some y := ⟨_, List.getElem?_eq_getElem hj⟩
    have hyx := h2 j y rfl hy
    rw [List.take_add_one, hy] at ha h
    rcases List.mem_append.1 ha with ha | ha
    · have h5 := (chk_append.1 h).2.2 a ha y (by simp)
      have h6 := one_e ((chk_cons.1 (chk_append.1 h).2.1).1)
      omega
    · obtain rfl : a = y := by simpa using ha
      exact hyx
theorem chk_part {l : List Rn} (h : chkB l = true) (m : Nat) : chkB (l.take m) = true := by
  have := chk_append.1 (by rw [List.take_append_drop]; exact h : chkB (l.take m ++ l.drop m) = true)
  exact this.1
theorem chk_next {l : List Rn} (h : chkB l = true) {j : Nat} {y x : Rn} (hy : l[j]? = some y) (hx : l[j + 1]? = some x) : y.e < x.s := by
  have h1 := chk_part h (j + 2)
  rw [show j + 2 = (j + 1) + 1 from rfl, List.take_add_one, hx] at h1
  refine (chk_append.1 h1).2.2 y ?_ x (by simp)
  rw [List.take_add_one, hy]
  simp
theorem sum_take {l : List Rn} {m : Nat} {r : Rn} (h : l[m]? = some r) : sumC (l.take (m + 1)) = sumC (l.take m) + r.c := by
  rw [List.take_add_one, h, sumC_append]
  simp [sumC]
theorem sum_part {l : List Rn} (h : chkB l = true) (m : Nat) : 0 ≤ sumC (l.take m) ∧ sumC (l.take m) ≤ 1099511627776 := by
  have h1 := chk_part h m
  have := tot_bound (l.take m)
  unfold totL at this
  rwa [if_pos h1] at this
theorem RunsAt.stay {w w' : World} {a : Option Addr} {n c : Nat} {l : List Rn} (h : RunsAt w (.slice a n c) l) (hb : Below w.heap.size w w') : RunsAt w' (.slice a n c) l := h.below hb
end Go.Proofs.Ytbnfhhjgalphgaa
