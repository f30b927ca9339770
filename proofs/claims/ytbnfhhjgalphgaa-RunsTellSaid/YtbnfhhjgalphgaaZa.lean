/- The program's end, Check and Total (layer 7). -/
import Derived.Test.YtbnfhhjgalphgaaY1
import Derived.Deep.DeepCutAuto
import Derived.Deep.RegionHeld3
namespace Go.Proofs.Ytbnfhhjgalphgaa
open Go.RowKit

/-- The least number at which a run behind these may start. -/
def leastL (p : List Rn) : Int := match p.getLast? with | none => 0 | some r => r.e + 1
theorem least_snoc (p : List Rn) (x : Rn) : leastL (p ++ [x]) = x.e + 1 := by simp [leastL]
theorem snoc_or (p : List Rn) : p = [] ∨ ∃ q y, p = q ++ [y] := by
  rcases List.eq_nil_or_concat p with h | ⟨q, y, h⟩
  · exact .inl h
  · exact .inr ⟨q, y, by simpa using h⟩
theorem least_bound {p : List Rn} (h : chkB p = true) : 0 ≤ leastL p ∧ leastL p ≤ 1099511627777 := by
  rcases snoc_or p with rfl | ⟨q, y, rfl⟩
  · simp [leastL]
  · rw [least_snoc]
    have := oneB_iff.1 (chk_one h y (by simp))
    unfold Rn.e
    omega
theorem chk_step {p : List Rn} (h : chkB p = true) (x : Rn) : chkB (p ++ [x]) = true ↔ leastL p ≤ x.s ∧ 1 ≤ x.c ∧ x.c ≤ 1099511627776 - x.s := by
  have hb := least_bound h
  constructor
  · intro hh
    have h1 := oneB_iff.1 (chk_one hh x (by simp))
    refine ⟨?_, h1.2.2⟩
    rcases snoc_or p with rfl | ⟨q, y, rfl⟩
    · simp [leastL]; exact h1.1
    · rw [least_snoc]
      have := (chk_append.1 hh).2.2 y (by simp) x (by simp)
      omega
  · rintro ⟨h1, h2, h3⟩
    refine chk_append.2 ⟨h, chk_cons.2 ⟨oneB_iff.2 ⟨by omega, by omega, h2, h3⟩, rfl, fun r hr => (by cases hr)⟩, fun a ha b hb' => ?_⟩
    obtain rfl : b = x := by simpa using hb'
    rcases snoc_or p with rfl | ⟨q, y, rfl⟩
    · simp at ha
    · rw [least_snoc] at h1
      rcases List.mem_append.1 ha with ha | ha
      · have h5 := (chk_append.1 h).2.2 a ha y (by simp)
        have h6 := one_e (chk_one h y (by simp))
        omega
      · obtain rfl : a = y := by simpa using ha
        omega
set_option maxRecDepth 100000 in
/-- A run's end. -/
theorem end_any (r : Rn) (w : World) (h : -9223372036854775808 ≤ r.s + r.c ∧ r.s + r.c < 9223372036854775808) : Calls Try.prog 29 #[.agg #[.int .i64 r.s, .int .i64 r.c]] w fun e w' => e = .returned (.int .i64 r.e) ∧ Below w.heap.size w w' := by
  obtain ⟨h1, h2⟩ := h
  have hw : wrap64 (r.s + r.c) = r.s + r.c := by unfold wrap64; omega
  have HE : Hid (r.s + r.c = r.e) := by show _ = _; rfl
  obtain ⟨w1, hw1⟩ : ∃ w1, w.alloc (.cells #[.int .i64 r.s, .int .i64 r.c] 24) = w1 := ⟨_, rfl⟩
  have hbx : w1.heap[w.heap.size]? = some (.cells #[.int .i64 r.s, .int .i64 r.c] 24 (0, 0)) := by rw [← hw1]; exact heap_alloc_last w _
  have HB1 : Hid (Below w.heap.size w w1) := by rw [← hw1]; exact (Below.refl _ _).alloc (Nat.le_refl _) _
  have c1 : w1.cell? ⟨w.heap.size, 0, none⟩ = some (.int .i64 r.s) := by rw [cell_of_row _ _ _ _ _ _ hbx]; rfl
  have c2 : w1.cell? ⟨w.heap.size, 1, none⟩ = some (.int .i64 r.c) := by rw [cell_of_row _ _ _ _ _ _ hbx]; rfl
  clear hbx
  obtain ⟨rs, rc⟩ := r
  simp only at c1 c2 hw h1 h2 HE
  simp only
  go_enter Try.func29, Try.ntmps29
  go_wp2
  go_ret
  exact ⟨rfl, HB1.out⟩
set_option maxRecDepth 100000 in
set_option maxHeartbeats 4000000 in
set_option linter.unusedSimpArgs false in
theorem check_any {w : World} {v : Value} {l : List Rn} (h : RunsAt w v l) (hf : fitR l) (hl : l.length ≤ 1000000) :
    Calls Try.prog 17 #[v] w fun e w' => e = .returned (.bool (chkB l)) ∧ Below w.heap.size w w' := by
  obtain ⟨a, q, rfl, -⟩ := id h
  have HL : Hid _ := h.cells.2
  clear h
  go_enter Try.func17, Try.ntmps17
  go_wp2
  go_loopw [3, 8] (fun lv iv wr => ∃ m : Nat, m ≤ l.length ∧ iv = .int .i64 m ∧ lv = .int .i64 (leastL (l.take m)) ∧ chkB (l.take m) = true ∧ Below w.heap.size w wr) (fun _ iv _ => l.length - (intOf iv).toNat)
  case atStart => exact ⟨0, Nat.zero_le _, rfl, rfl, rfl, Below.refl _ _⟩
  case round =>
    obtain ⟨m, hm, rfl, rfl, hck, hB⟩ := hrel
    by_cases hlt : m < l.length
    rotate_left
    · obtain rfl : m = l.length := by omega
      rw [List.take_of_length_le (Nat.le_refl _)] at hck
      have HF : Hid (chkB l = true) := hck
      have HB : Hid _ := hB
      have hlt2 : ¬ ((l.length : Nat) : Int) < (l.length : Int) := by omega
      clear hck hB
      go_wp2
      go_ret
      exact ⟨ret_same HF.out.symm, HB.out⟩
    obtain ⟨x, hx⟩ : ∃ x, l[m]? = some x := ⟨_, List.getElem?_eq_getElem hlt⟩
    obtain ⟨b, o, rfl, k1⟩ := HL.out m x hx
    have hlt2 : (m : Int) < (l.length : Int) := by omega
    have hfx := hf x (List.mem_of_getElem? hx)
    have hlb := least_bound hck
    have hst := chk_step hck x
    have hta : l.take (m + 1) = l.take m ++ [x] := by rw [List.take_add_one, hx]; rfl
    rw [← hta] at hst
    have hls : leastL (l.take (m + 1)) = x.e + 1 := by rw [hta, least_snoc]
    have HNo : Hid (chkB (l.take (m + 1)) = false → chkB l = false) := fun h1 => by
      cases hc : chkB l with
      | false => rfl
      | true => rw [chk_part hc] at h1; cases h1
    have HB : Hid (Below w.heap.size w wr) := hB
    have c1 := (k1 wr hB).1
    have c2 := (k1 wr hB).2
    obtain ⟨w1, hw1⟩ : ∃ w1, (wr.alloc (.cells #[.int .i64 x.s, .int .i64 x.c] 24)) = w1 := ⟨_, rfl⟩
    have hbx : w1.heap[wr.heap.size]? = some (.cells #[.int .i64 x.s, .int .i64 x.c] 24 (0, 0)) := by rw [← hw1]; exact heap_alloc_last wr _
    have HB1 : Hid (Below w.heap.size w w1) := by rw [← hw1]; exact hB.alloc hB.size _
    have d1 : w1.cell? ⟨wr.heap.size, 0, none⟩ = some (.int .i64 x.s) := by rw [cell_of_row _ _ _ _ _ _ hbx]; rfl
    have d2 : w1.cell? ⟨wr.heap.size, 1, none⟩ = some (.int .i64 x.c) := by rw [cell_of_row _ _ _ _ _ _ hbx]; rfl
    clear hx hck hB k1 hf hta
    generalize hL0 : leastL (l.take m) = L0 at *
    obtain ⟨xs, xc⟩ := x
    simp only at hfx hst c1 c2 d1 d2 hbx hw1
    cases hc : chkB (l.take (m + 1)) with
    | false =>
      have HF : Hid (chkB l = false) := HNo.out hc
      rw [hc] at hst
      have hcase : xs < L0 ∨ (L0 ≤ xs ∧ xc < 1) ∨ (L0 ≤ xs ∧ 1 ≤ xc ∧ 1099511627776 - xs < xc) := by
        by_cases q1 : L0 ≤ xs
        · by_cases q2 : 1 ≤ xc
          · by_cases q3 : xc ≤ 1099511627776 - xs
            · exact absurd (hst.2 ⟨q1, q2, q3⟩) (by simp)
            · exact .inr (.inr ⟨q1, q2, by omega⟩)
          · exact .inr (.inl ⟨q1, by omega⟩)
        · exact .inl (by omega)
      clear hst hc HNo hls
      rcases hcase with hcase | ⟨q1, hcase⟩ | ⟨q1, q2, hcase⟩
      · go_wp2
        go_ret
        exact ⟨ret_same HF.out.symm, HB1.out⟩
      · have e1 : ¬ xs < L0 := by omega
        go_wp2
        go_ret
        exact ⟨ret_same HF.out.symm, HB1.out⟩
      · have e1 : ¬ xs < L0 := by omega
        have e2 : ¬ xc < 1 := by omega
        have e3 : wrap64 (1099511627776 - xs) = 1099511627776 - xs := by unfold wrap64; omega
        go_wp2
        go_ret
        exact ⟨ret_same HF.out.symm, HB1.out⟩
    | true =>
      obtain ⟨q1, q2, q3⟩ := hst.1 hc
      have e1 : ¬ xs < L0 := by omega
      have e2 : ¬ xc < 1 := by omega
      have e3 : wrap64 (1099511627776 - xs) = 1099511627776 - xs := by unfold wrap64; omega
      have e4 : ¬ 1099511627776 - xs < xc := by omega
      have e5 : wrap64 (xs + xc + 1) = xs + xc + 1 := by unfold wrap64; omega
      have HN : Hid (chkB (l.take (m + 1)) = true) := hc
      have HE : Hid (Calls Try.prog 29 #[.agg #[.int .i64 xs, .int .i64 xc]] w1 fun e w' => e = .returned (.int .i64 (xs + xc)) ∧ Below w1.heap.size w1 w') := end_any ⟨xs, xc⟩ w1 (by dsimp only; omega)
      have HLs : Hid (leastL (l.take (m + 1)) = xs + xc + 1) := hls
      have HB1s : Hid (w.heap.size ≤ w1.heap.size) := HB1.out.size
      clear hst hc HNo hls
      go_wp2_with (first | (refine load_box rfl (.tmp 5) rfl wr.heap.size xs xc (0, 0) rfl hbx ?_) | fail)
      refine HE.out.mono ?_
      rintro e w2 ⟨rfl, b2⟩
      have HB2 : Hid _ := HB1.out.trans (b2.mono HB1s.out)
      clear b2 hw1 hbx d1 d2 HE
      have e6 : wrap64 (xs + xc) = xs + xc := by unfold wrap64; omega
      go_wp2
      go_roundw
      case rel => exact ⟨m + 1, by omega, by go_num, by rw [HLs.out], HN.out, HB2.out⟩
      case measure => simp [intOf]; omega
set_option maxRecDepth 100000 in
set_option maxHeartbeats 4000000 in
theorem total_any {w : World} {v : Value} {l : List Rn} (h : RunsAt w v l) (hf : fitR l) (hl : l.length ≤ 1000000) :
    Calls Try.prog 15 #[v] w fun e w' => e = .returned (.int .i64 (totL l)) ∧ Below w.heap.size w w' := by
  obtain ⟨a, q, rfl, -⟩ := id h
  have HL : Hid _ := h.cells.2
  have HCk : Hid (Calls Try.prog 17 #[.slice a l.length q] w fun e w' => e = .returned (.bool (chkB l)) ∧ Below w.heap.size w w') := check_any h hf hl
  clear h hf
  cases hc : chkB l with
  | false =>
    rw [hc] at HCk
    have hT : Hid (totL l = 0) := by show _ = _; unfold totL; rw [hc]; rfl
    clear hc
    go_enter Try.func15, Try.ntmps15
    go_wp2_with fail
    refine HCk.out.mono ?_
    rintro e w1 ⟨rfl, b1⟩
    have HB : Hid _ := b1
    clear b1
    go_wp2
    go_ret
    exact ⟨by rw [hT.out]; rfl, HB.out⟩
  | true =>
    rw [hc] at HCk
    have hT : Hid (totL l = sumC l) := by show _ = _; unfold totL; rw [hc]; rfl
    have HSp : Hid (∀ m, 0 ≤ sumC (l.take m) ∧ sumC (l.take m) ≤ 1099511627776) := fun m => sum_part hc m
    clear hc
    go_enter Try.func15, Try.ntmps15
    go_wp2_with fail
    refine HCk.out.mono ?_
    rintro e w1 ⟨rfl, b1⟩
    have HB : Hid _ := b1
    clear b1 HCk
    go_wp2
    go_loopw [3, 11] (fun n i wr => ∃ m : Nat, m ≤ l.length ∧ i = .int .i64 m ∧ n = .int .i64 (sumC (l.take m)) ∧ Below w.heap.size w wr) (fun _ i _ => l.length - (intOf i).toNat)
    case atStart => exact ⟨0, Nat.zero_le _, rfl, rfl, HB.out⟩
    case round =>
      obtain ⟨m, hm, rfl, rfl, hB⟩ := hrel
      clear HB
      by_cases hlt : m < l.length
      rotate_left
      · obtain rfl : m = l.length := by omega
        have HF : Hid (Ending.returned (.int .i64 (sumC (l.take l.length))) = .returned (.int .i64 (totL l))) := by show _ = _; rw [hT.out, List.take_of_length_le (Nat.le_refl _)]
        have HB : Hid _ := hB
        have hlt2 : ¬ ((l.length : Nat) : Int) < (l.length : Int) := by omega
        clear hB
        generalize sumC (l.take l.length) = z at *
        go_wp2
        go_ret
        exact ⟨HF.out, HB.out⟩
      obtain ⟨r, hr⟩ : ∃ r, l[m]? = some r := ⟨_, List.getElem?_eq_getElem hlt⟩
      obtain ⟨b, o, rfl, k1⟩ := HL.out m r hr
      have hlt2 : (m : Int) < (l.length : Int) := by omega
      have s1 := HSp.out m
      have s2 := HSp.out (m + 1)
      have HSt : Hid (sumC (l.take m) + r.c = sumC (l.take (m + 1))) := (sum_take hr).symm
      have hwr : wrap64 (sumC (l.take m) + r.c) = sumC (l.take m) + r.c := by rw [HSt.out]; unfold wrap64; omega
      have s3 : sumC (l.take m) + r.c ≤ 1099511627776 := by rw [HSt.out]; omega
      have s4 : 0 ≤ sumC (l.take m) + r.c := by rw [HSt.out]; omega
      have c1 := (k1 wr hB).1
      have c2 := (k1 wr hB).2
      obtain ⟨w1, hw1⟩ : ∃ w1, (wr.alloc (.cells #[.int .i64 r.s, .int .i64 r.c] 24)) = w1 := ⟨_, rfl⟩
      have hbx : w1.heap[wr.heap.size]? = some (.cells #[.int .i64 r.s, .int .i64 r.c] 24 (0, 0)) := by rw [← hw1]; exact heap_alloc_last wr _
      have HB1 : Hid (Below w.heap.size w w1) := by rw [← hw1]; exact hB.alloc hB.size _
      have d1 : w1.cell? ⟨wr.heap.size, 0, none⟩ = some (.int .i64 r.s) := by rw [cell_of_row _ _ _ _ _ _ hbx]; rfl
      have d2 : w1.cell? ⟨wr.heap.size, 1, none⟩ = some (.int .i64 r.c) := by rw [cell_of_row _ _ _ _ _ _ hbx]; rfl
      clear hB k1 hr
      generalize sumC (l.take m) = z at *
      generalize hz2 : sumC (l.take (m + 1)) = z2 at *
      have HZ2 : Hid (sumC (l.take (m + 1)) = z2) := hz2
      clear hz2
      obtain ⟨xs, xc⟩ := r
      simp only at c1 c2 d1 d2 hbx hw1 HSt hwr s3 s4
      go_wp2
      go_roundw
      case rel => exact ⟨m + 1, by omega, by go_num, by rw [HSt.out, HZ2.out], HB1.out⟩
      case measure => simp [intOf]; omega
end Go.Proofs.Ytbnfhhjgalphgaa
