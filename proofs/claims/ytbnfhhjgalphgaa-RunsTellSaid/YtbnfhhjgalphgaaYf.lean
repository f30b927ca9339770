/- The document's own Total (layer 7). -/
import Derived.Test.YtbnfhhjgalphgaaYc
namespace Go.Proofs.Ytbnfhhjgalphgaa
open Go.RowKit

set_option maxRecDepth 100000 in
set_option maxHeartbeats 1000000 in
theorem rtotal_any {w : World} {v : Value} {l : List Rn} (h : RunsAt w v l) (hf : fitR l) (hl : l.length ≤ 1000000) :
    Calls Try.prog 16 #[v] w fun e w' => e = .returned (.int .i64 (totL l)) ∧ Below w.heap.size w w' := by
  obtain ⟨a, q, rfl, -⟩ := id h
  have HL : Hid _ := h.cells.2
  have HCk : Hid (∀ wr, Below w.heap.size w wr → Calls Try.prog 18 #[.slice a l.length q] wr fun e w' => e = .returned (.bool (chkB l)) ∧ Below wr.heap.size wr w') := fun wr hb => rcheck_any (h.stay hb) hf hl
  clear h hf
  cases hc : chkB l with
  | false =>
    rw [hc] at HCk
    have hT : Hid (totL l = 0) := by show _ = _; unfold totL; rw [hc]; rfl
    have hpos : 0 < l.length := by
      cases l with
      | nil => cases hc
      | cons a l => simp
    have hlt2 : (0 : Int) < (l.length : Int) := by omega
    clear hc
    go_enter Try.func16, Try.ntmps16
    go_wp2
    go_loopw [3, 4] (fun n i wr => n = .int .i64 0 ∧ i = .int .i64 0 ∧ wr = w) (fun _ _ _ => 0)
    case atStart => exact ⟨rfl, rfl, rfl⟩
    case round =>
      obtain ⟨rfl, rfl, rfl⟩ := hrel
      go_wp2_with fail
      refine (HCk.out _ (Below.refl _ _)).mono ?_
      rintro e w1 ⟨rfl, b1⟩
      have HB : Hid _ := b1
      clear b1
      go_wp2
      go_ret
      exact ⟨by rw [hT.out]; rfl, HB.out⟩
  | true =>
    rw [hc] at HCk
    have hT : Hid (totL l = sumC l) := by show _ = _; unfold totL; rw [hc]; rfl
    have HSp : Hid (∀ m, 0 ≤ sumC (l.take m) ∧ sumC (l.take m) ≤ 1099511627776) := fun m => sum_part hc m
    clear hc
    go_enter Try.func16, Try.ntmps16
    go_wp2
    go_loopw [3, 4] (fun n i wr => ∃ m : Nat, m ≤ l.length ∧ i = .int .i64 m ∧ n = .int .i64 (sumC (l.take m)) ∧ Below w.heap.size w wr) (fun _ i _ => l.length - (intOf i).toNat)
    case atStart => exact ⟨0, Nat.zero_le _, rfl, rfl, Below.refl _ _⟩
    case round =>
      obtain ⟨m, hm, rfl, rfl, hB⟩ := hrel
      by_cases hlt : m < l.length
      rotate_left
      · obtain rfl : m = l.length := by omega
        have HF : Hid (Ending.returned (.int .i64 (sumC (l.take l.length))) = .returned (.int .i64 (totL l))) := by show _ = _; rw [hT.out, List.take_of_length_le (Nat.le_refl _)]
        have HB : Hid _ := hB
        have hlt2 : ¬ ((l.length : Nat) : Int) < (l.length : Int) := by omega
        clear hB
        generalize sumC (l.take l.length) = z at *
        go_wp2
        go_ret
        exact ⟨HF.out, HB.out⟩
      obtain ⟨r, hr⟩ : ∃ r, l[m]? = some r := ⟨_, List.getElem?_eq_getElem hlt⟩
      obtain ⟨b, o, rfl, k1⟩ := HL.out m r hr
      have hlt2 : (m : Int) < (l.length : Int) := by omega
      have s1 := HSp.out m
      have s2 := HSp.out (m + 1)
      have HSt : Hid (sumC (l.take m) + r.c = sumC (l.take (m + 1))) := (sum_take hr).symm
      have hwr : IntKind.i64.wrap (sumC (l.take m) + r.c) = sumC (l.take m) + r.c := by rw [HSt.out, IntKind.wrap_i64]; omega
      have s3 : sumC (l.take m) + r.c ≤ 1099511627776 := by rw [HSt.out]; omega
      have s4 : 0 ≤ sumC (l.take m) + r.c := by rw [HSt.out]; omega
      have HB : Hid (Below w.heap.size w wr) := hB
      have HK : Hid _ := k1
      clear hB k1 hr
      generalize sumC (l.take m) = z at *
      generalize hz2 : sumC (l.take (m + 1)) = z2 at *
      have HZ2 : Hid (sumC (l.take (m + 1)) = z2) := hz2
      clear hz2
      go_wp2_with fail
      refine (HCk.out _ HB.out).mono ?_
      rintro e w1 ⟨rfl, b1⟩
      have HB1 : Hid _ := HB.out.trans (b1.mono HB.out.size)
      have d1 := (HK.out _ HB1.out).2
      clear b1 HB
      go_wp2
      go_roundw
      case rel => exact ⟨m + 1, by omega, by go_num, by rw [HSt.out, HZ2.out], HB1.out⟩
      case measure => simp [intOf]; omega
end Go.Proofs.Ytbnfhhjgalphgaa
