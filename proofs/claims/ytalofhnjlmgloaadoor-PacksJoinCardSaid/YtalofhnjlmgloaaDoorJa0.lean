/- The document's own Encode, where it tells an error. -/
import Derived.Test.YtalofhnjlmgloaaDoorFj0
import Derived.Test.YtalofhnjlmgloaaDoorVe
import Derived.Test.YtalofhnjlmgloaaDoorVf
import Derived.Deep.DeepCutAuto
import Derived.Deep.QuietTactic
namespace Go.Proofs.YtalofhnjlmgloaaDoor
open Go.RowKit

set_option maxRecDepth 100000 in
set_option maxHeartbeats 2000000 in
theorem rencode_no (f : Fr) (w : World) (h : mayB f = false) :
    Calls Tryd.prog 22 #[frV f] w fun e w' => e = .returned (.tuple #[.string (S []), .int .i64 2]) ∧ Below w.heap.size w w' := by
  obtain ⟨k, ep, i, d⟩ := f
  show Calls Tryd.prog 22 #[.agg #[.int .u8 k, .int .i64 ep, .int .i64 i, .string (S d)]] w _
  generalize S d = D at *
  have hb : Hid (Below w.heap.size w (w.alloc (.cells #[.int .u8 k, .int .i64 ep, .int .i64 i, .string D] 39))) := (Below.refl _ _).alloc (Nat.le_refl _) _
  have hC : kindB k = false ∨ (kindB k = true ∧ ep < 1) ∨ (kindB k = true ∧ ¬ ep < 1 ∧ 1073741824 < ep) ∨ (kindB k = true ∧ ¬ ep < 1 ∧ ¬ 1073741824 < ep ∧ i < 0) ∨ (kindB k = true ∧ ¬ ep < 1 ∧ ¬ 1073741824 < ep ∧ ¬ i < 0 ∧ 65535 < i) := by
    cases hk : kindB k with
    | false => exact .inl rfl
    | true =>
      have h' : ¬ (1 ≤ ep ∧ ep ≤ 1073741824) ∨ ¬ (0 ≤ i ∧ i ≤ 65535) := by
        simp [mayB, hk, epochB, indexB] at h
        omega
      by_cases q1 : ep < 1
      · exact .inr (.inl ⟨rfl, q1⟩)
      by_cases q2 : 1073741824 < ep
      · exact .inr (.inr (.inl ⟨rfl, q1, q2⟩))
      by_cases q3 : i < 0
      · exact .inr (.inr (.inr (.inl ⟨rfl, q1, q2, q3⟩)))
      · exact .inr (.inr (.inr (.inr ⟨rfl, q1, q2, q3, by omega⟩)))
  clear h
  go_enter Tryd.func22, Tryd.ntmps22
  go_upto_region 1 with fail
  go_cut [4] (fun c wx => c = .bool (kindB k) ∧ wx = w.alloc (.cells #[.int .u8 k, .int .i64 ep, .int .i64 i, .string D] 39))
  case first =>
    clear hC
    by_cases e1 : k = 68
    · subst e1; go_wp2_with fail; go_meet; exact ⟨rfl, rfl⟩
    by_cases e2 : k = 80
    · subst e2; clear e1; go_wp2_with fail; go_meet; exact ⟨rfl, rfl⟩
    have n1 : (k == 68) = false := by simpa using e1
    have n2 : (k == 80) = false := by simpa using e2
    have n3 : Hid (kindB k = (k == 83)) := by show _ = _; simp [kindB, n1, n2]
    clear e1 e2
    go_wp2_with fail
    go_meet
    exact ⟨by rw [n3.out], rfl⟩
  case rest =>
    obtain ⟨rfl, rfl⟩ := hcut
    rcases hC with h | ⟨h, h1⟩ | ⟨h, h1, h2⟩ | ⟨h, h1, h2, h3⟩ | ⟨h, h1, h2, h3, h4⟩ <;> rw [h] <;> clear h
    all_goals
      go_wp2
      go_ret2
      exact ⟨rfl, hb.out⟩
set_option maxRecDepth 100000 in
set_option maxHeartbeats 2000000 in
theorem rencode_long (f : Fr) (w : World) (h : mayB f = true) (hl : ¬ f.d.length ≤ 112) :
    Calls Tryd.prog 22 #[frV f] w fun e w' => e = .returned (.tuple #[.string (S []), .int .i64 3]) ∧ Below w.heap.size w w' := by
  obtain ⟨hk, he, hi⟩ := mayB_of h
  obtain ⟨k, ep, i, d⟩ := f
  show Calls Tryd.prog 22 #[.agg #[.int .u8 k, .int .i64 ep, .int .i64 i, .string (S d)]] w _
  simp only at hk he hi hl
  have hz : (112 : Int) < ((S d).size : Int) := by rw [S_size]; omega
  generalize S d = D at *
  have hb : Hid (Below w.heap.size w (w.alloc (.cells #[.int .u8 k, .int .i64 ep, .int .i64 i, .string D] 39))) := (Below.refl _ _).alloc (Nat.le_refl _) _
  have g1 : ¬ ep < 1 := by omega
  have g2 : ¬ 1073741824 < ep := by omega
  have g3 : ¬ i < 0 := by omega
  have g4 : ¬ 65535 < i := by omega
  clear h hl he hi
  rcases hk with rfl | rfl | rfl
  all_goals
    go_enter Tryd.func22, Tryd.ntmps22
    go_wp2
    go_ret2
    exact ⟨rfl, hb.out⟩
end Go.Proofs.YtalofhnjlmgloaaDoor
