/- The law's within (layer 7). -/
import Derived.Test.YtbnfhhjgalphgaaZk
namespace Go.Proofs.Ytbnfhhjgalphgaa
open Go.RowKit

set_option maxRecDepth 100000 in
set_option maxHeartbeats 2000000 in
theorem within_any {w : World} {v : Value} {l : List Rn} (k : Int) (h : RunsAt w v l) (hl : l.length ≤ 1000000) (hf : ∀ r ∈ l, -9223372036854775808 ≤ r.s + r.c ∧ r.s + r.c < 9223372036854775808) :
    Calls Try.prog 24 #[v, .int .i64 k] w fun e w' => e = .returned (.bool (hasB l k)) ∧ Below w.heap.size w w' := by
  obtain ⟨a, q, rfl, -⟩ := id h
  have HL : Hid _ := h.cells.2
  clear h
  go_enter Try.func24, Try.ntmps24
  go_wp2
  go_loopw [5] (fun iv wr => ∃ m : Nat, m ≤ l.length ∧ iv = .int .i64 m ∧ hasB (l.take m) k = false ∧ Below w.heap.size w wr) (fun iv _ => l.length - (intOf iv).toNat)
  case atStart => exact ⟨0, Nat.zero_le _, rfl, rfl, Below.refl _ _⟩
  case round =>
    obtain ⟨m, hm, rfl, hno, hB⟩ := hrel
    by_cases hlt : m < l.length
    rotate_left
    · obtain rfl : m = l.length := by omega
      rw [List.take_of_length_le (Nat.le_refl _)] at hno
      have hlt2 : ¬ ((l.length : Nat) : Int) < (l.length : Int) := by omega
      have HF : Hid (hasB l k = false) := hno
      have HB : Hid _ := hB
      clear hno hB
      go_wp2
      go_ret
      exact ⟨ret_same HF.out.symm, HB.out⟩
    obtain ⟨x, hx⟩ : ∃ x, l[m]? = some x := ⟨_, List.getElem?_eq_getElem hlt⟩
    obtain ⟨b, o, rfl, hk⟩ := HL.out m x hx
    obtain ⟨c1, c2⟩ := hk wr hB
    have hlt2 : (m : Int) < (l.length : Int) := by omega
    have hxf := hf x (List.mem_of_getElem? hx)
    have hwr : IntKind.i64.wrap (x.s + x.c) = x.s + x.c := by rw [IntKind.wrap_i64]; omega
    have HT : Hid (inB x k = true → hasB l k = true) := has_in hx
    have HN : Hid (inB x k = false → hasB (l.take (m + 1)) k = false) := fun e => by rw [has_take hx, hno, e]; rfl
    have HB : Hid (Below w.heap.size w wr) := hB
    clear hx hk hno hB hxf
    obtain ⟨xs, xc⟩ := x
    simp only at c1 c2 hwr
    by_cases h1 : xs ≤ k
    · by_cases h2 : k < xs + xc
      · have HF : Hid (hasB l k = true) := HT.out (inB_iff.2 ⟨h1, h2⟩)
        clear HT HN
        go_wp2
        go_quiet (fail)
        have HBq : Hid (Below w.heap.size w (wr.drewN nq)) := below_drewN HB.out _
        generalize wr.drewN nq = wx at *
        go_wp2
        go_ret
        exact ⟨ret_same HF.out.symm, HBq.out⟩
      · have HF : Hid (hasB (l.take (m + 1)) k = false) := HN.out (by
          cases hh : inB ⟨xs, xc⟩ k with
          | false => rfl
          | true => exact absurd (inB_iff.1 hh).2 h2)
        have h3 : decide (k < xs + xc) = false := by simpa using h2
        clear HT HN h2
        go_wp2
        go_quiet (fail)
        have HBq : Hid (Below w.heap.size w (wr.drewN nq)) := below_drewN HB.out _
        generalize wr.drewN nq = wx at *
        go_wp2
        go_roundw
        case rel => exact ⟨m + 1, by omega, by go_num, HF.out, HBq.out⟩
        case measure => simp [intOf]; omega
    · have HF : Hid (hasB (l.take (m + 1)) k = false) := HN.out (by
        cases hh : inB ⟨xs, xc⟩ k with
        | false => rfl
        | true => exact absurd (inB_iff.1 hh).1 h1)
      have h3 : decide (xs ≤ k) = false := by simpa using h1
      clear HT HN h1
      go_wp2
      go_quiet (fail)
      have HBq : Hid (Below w.heap.size w (wr.drewN nq)) := below_drewN HB.out _
      generalize wr.drewN nq = wx at *
      go_wp2
      go_roundw
      case rel => exact ⟨m + 1, by omega, by go_num, HF.out, HBq.out⟩
      case measure => simp [intOf]; omega
end Go.Proofs.Ytbnfhhjgalphgaa
