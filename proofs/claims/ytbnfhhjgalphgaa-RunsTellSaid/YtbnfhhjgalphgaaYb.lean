/- The document's own one and Check (layer 7). -/
import Derived.Test.YtbnfhhjgalphgaaYa
namespace Go.Proofs.Ytbnfhhjgalphgaa
open Go.RowKit

set_option maxRecDepth 100000 in
theorem rone_any (r : Rn) (w : World) (h1 : -9223372036854775808 ≤ r.s ∧ r.s < 9223372036854775808) (h2 : -9223372036854775808 ≤ r.c ∧ r.c < 9223372036854775808) :
    Calls Try.prog 31 #[rnV r] w fun e w' => e = .returned (.bool (oneB r)) ∧ Below w.heap.size w w' := by
  obtain ⟨s, c⟩ := r
  obtain ⟨h1, h3⟩ := h1
  obtain ⟨h2, h4⟩ := h2
  simp only at h1 h2 h3 h4
  have HB : Hid (Below w.heap.size w (w.alloc (.cells #[.int .i64 s, .int .i64 c] 24))) := (Below.refl _ _).alloc (Nat.le_refl _) _
  have HO : Hid (oneB ⟨s, c⟩ = (decide (0 ≤ s) && (decide (s < 1099511627776) && (decide (1 ≤ c) && decide (c ≤ 1099511627776 - s))))) := rfl
  show Calls Try.prog 31 #[.agg #[.int .i64 s, .int .i64 c]] w _
  by_cases q1 : 0 ≤ s
  rotate_left
  · have HF : Hid (oneB ⟨s, c⟩ = false) := by show _ = _; rw [HO.out]; simp [q1]
    go_enter Try.func31, Try.ntmps31
    go_wp2
    go_ret
    exact ⟨ret_same HF.out.symm, HB.out⟩
  by_cases q2 : s < 1099511627776
  rotate_left
  · have HF : Hid (oneB ⟨s, c⟩ = false) := by show _ = _; rw [HO.out]; simp [q2]
    go_enter Try.func31, Try.ntmps31
    go_wp2
    go_ret
    exact ⟨ret_same HF.out.symm, HB.out⟩
  by_cases q3 : 1 ≤ c
  rotate_left
  · have HF : Hid (oneB ⟨s, c⟩ = false) := by show _ = _; rw [HO.out]; simp [q3]
    go_enter Try.func31, Try.ntmps31
    go_wp2
    go_ret
    exact ⟨ret_same HF.out.symm, HB.out⟩
  have HF : Hid (oneB ⟨s, c⟩ = decide (c ≤ 1099511627776 - s)) := by show _ = _; rw [HO.out]; simp [q1, q2, q3]
  have q4 : 0 < c := by omega
  go_enter Try.func31, Try.ntmps31
  go_wp2
  go_ret
  exact ⟨ret_same HF.out.symm, HB.out⟩
end Go.Proofs.Ytbnfhhjgalphgaa
