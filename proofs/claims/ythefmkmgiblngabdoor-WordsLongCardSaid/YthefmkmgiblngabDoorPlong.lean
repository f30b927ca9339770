/- The walk of the law WordsLong: a text of as many bytes as may be is written, and one of more is not. -/
import Derived.Test.YthefmkmgiblngabDoorWe
import Derived.Test.YthefmkmgiblngabDoorWh
namespace Go.Proofs.YthefmkmgiblngabDoor
open Go.RowKit

theorem madeCells_zero (n : Nat) : madeCells #[.int .u8 0] n = hv (List.replicate n 0) := by
  apply Array.ext
  · simp [madeCells, hv]
  · intro i h1 h2
    simp [madeCells, hv, Nat.mod_one]
theorem mkR (r : Nat) (hr : r < 6) (w : World) : (Instr.makeSlice 25 (.int .i64 (65533 + (r : Int))) (.int .i64 (65533 + (r : Int)))).run Tryd.prog w = .ok (.slice (some ⟨w.heap.size, 0, none⟩) (65533 + r) (65533 + r)) (w.alloc (.cells (hv (List.replicate (65533 + r) 0)) 5)) := by
  have := mkN (65533 + r) (by omega) w
  rw [madeCells_zero] at this
  rw [show ((65533 + r : Nat) : Int) = 65533 + (r : Int) by omega] at this
  exact this
theorem cvR (r : Nat) (w : World) : (convert 25 9 (.slice (some ⟨w.heap.size, 0, none⟩) (65533 + r) (65533 + r))).run Tryd.prog (w.alloc (.cells (hv (List.replicate (65533 + r) 0)) 5)) = .ok (.string (S (List.replicate (65533 + r) 0))) (w.alloc (.cells (hv (List.replicate (65533 + r) 0)) 5)) := by
  have := cvH (List.replicate (65533 + r) 0) 5 (65533 + r) w
  rwa [List.length_replicate] at this

set_option maxRecDepth 100000 in
set_option maxHeartbeats 800000 in
theorem long_walk (x : Int) (w : World) (hT : Tab w) (hx1 : 0 ≤ x) (hx2 : x ≤ 255) :
    Calls Tryd.prog 3 #[.int .u8 x] w fun e w' => e = .returned (.bool true) ∧ Below w.heap.size w w' := by
  obtain ⟨r, hr⟩ : ∃ r : Nat, x % 6 = (r : Int) := ⟨(x % 6).toNat, by omega⟩
  have hr6 : r < 6 := by omega
  have hmk := mkR r hr6
  have hcv := cvR r
  have hzs : (S (List.replicate (65533 + r) 0)).size = 65533 + r := by simp
  generalize hv (List.replicate (65533 + r) 0) = C at *
  generalize S (List.replicate (65533 + r) 0) = z at *
  by_cases hle : r ≤ 2
  · have hv1 := putTV_yes (s := z) (by omega)
    have hps : (S (putT z.data.toList)).size = 65535 + r := by
      rw [S_size]; simp [putT]; omega
    generalize S (putT z.data.toList) = p at *
    have hzs2 : z.size ≤ 140737488351232 := by omega
    have d1 : decide (65533 + (r : Int) ≤ 65535) = true := decide_eq_true (by omega)
    have d2 : ((p.size : Int) == 65533 + (r : Int) + 2) = true := by simp; omega
    have HZ : Hid (z.size = 65533 + r) := hzs
    have HP : Hid (p.size = 65535 + r) := hps
    clear hzs hps
    go_enter Tryd.func3, Tryd.ntmps3
    go_wp2_with fail
    have T1 : Tab (w.alloc (.cells C 5)) := hT.below ((Below.refl _ _).alloc (Nat.le_refl _) _)
    refine (putText_any z _ T1 hzs2).mono ?_
    rintro e w1 ⟨rfl, b1⟩
    have T2 := T1.below b1
    go_wp2_with fail
    refine (does_any _ T2).mono ?_
    rintro e w2 ⟨rfl, b2⟩
    go_wp2
    go_ret
    have s1 := b1.size
    simp at s1
    exact ⟨rfl, (((Below.refl _ _).alloc (Nat.le_refl _) _).trans (b1.mono (by simp))).trans (b2.mono (by omega))⟩
  · have hv1 := putTV_no (s := z) (by omega)
    have hzs2 : z.size ≤ 140737488351232 := by omega
    have d1 : decide (65533 + (r : Int) ≤ 65535) = false := decide_eq_false (by omega)
    have HZ : Hid (z.size = 65533 + r) := hzs
    clear hzs
    go_enter Tryd.func3, Tryd.ntmps3
    go_wp2_with fail
    have T1 : Tab (w.alloc (.cells C 5)) := hT.below ((Below.refl _ _).alloc (Nat.le_refl _) _)
    refine (putText_any z _ T1 hzs2).mono ?_
    rintro e w1 ⟨rfl, b1⟩
    have T2 := T1.below b1
    have hse : (S []).toList = [] := toList_S []
    go_wp2_with fail
    refine (does_any _ T2).mono ?_
    rintro e w2 ⟨rfl, b2⟩
    go_wp2
    go_ret
    have s1 := b1.size
    simp at s1
    exact ⟨rfl, (((Below.refl _ _).alloc (Nat.le_refl _) _).trans (b1.mono (by simp))).trans (b2.mono (by omega))⟩
end Go.Proofs.YthefmkmgiblngabDoor
