/- The document's own Torn; its Encode, where it tells an error. -/
import Derived.Test.YtcbmcbcpclgciaaDoorFj
import Derived.Test.YtcbmcbcpclgciaaDoorVe
import Derived.Test.YtcbmcbcpclgciaaDoorVf
import Derived.Deep.DeepCutAuto
import Derived.Deep.QuietTactic
namespace Go.Proofs.YtcbmcbcpclgciaaDoor
open Go.RowKit

theorem mark_of (b : List UInt8) (m : Nat) (h : 32 * m + 31 < (S b).size) : markB b m = decide ((((S b)[32 * m + 31]'h).toNat : Int) = 165) := by
  have hl : 32 * m + 31 < b.length := by rw [S_size] at h; exact h
  unfold markB
  rw [List.getElem?_eq_getElem hl]
  have e : ((S b)[32 * m + 31]'h) = b[32 * m + 31] := rfl
  generalize ((S b)[32 * m + 31]'h) = X at e
  rw [e, Bool.eq_iff_iff]
  simp only [beq_iff_eq, Option.some.injEq, decide_eq_true_eq]
  constructor
  · intro h; rw [h]; rfl
  · intro h; apply UInt8.toNat_inj.1; show _ = 165; omega
set_option maxRecDepth 100000 in
set_option maxHeartbeats 1000000 in
theorem rlack_any (b : List UInt8) (w : World) : Calls Tryd.prog 15 #[.string (S b)] w fun e w' => e = .returned (.bool (lackB b)) ∧ w' = w := by
  by_cases hl : b.length = 128
  rotate_left
  · have hno : lackB b = false := by simp [lackB, hl]
    rw [hno]
    have hz : (((S b).size : Int) == 128) = false := by rw [S_size]; simp; omega
    clear hno hl
    generalize S b = A at *
    go_enter Tryd.func15, Tryd.ntmps15
    go_wp2
    go_ret
    exact ⟨rfl, rfl⟩
  have hsz : (S b).size = 128 := by rw [S_size, hl]
  have l0 : 31 < (S b).size := by omega
  have k0 : Hid (markB b 0 = decide ((((S b)[31]'l0).toNat : Int) = 165)) := mark_of b 0 l0
  have l1 : 63 < (S b).size := by omega
  have k1 : Hid (markB b 1 = decide ((((S b)[63]'l1).toNat : Int) = 165)) := mark_of b 1 l1
  have l2 : 95 < (S b).size := by omega
  have k2 : Hid (markB b 2 = decide ((((S b)[95]'l2).toNat : Int) = 165)) := mark_of b 2 l2
  have l3 : 127 < (S b).size := by omega
  have k3 : Hid (markB b 3 = decide ((((S b)[127]'l3).toNat : Int) = 165)) := mark_of b 3 l3
  have HLk : Hid (∀ j, j < 4 → markB b j = false → lackB b = true) := fun j hj h => torn_of hl hj h
  have HAl : Hid (markB b 0 = true → markB b 1 = true → markB b 2 = true → markB b 3 = true → lackB b = false) := fun a0 a1 a2 a3 => by unfold lackB; rw [a0, a1, a2, a3]; simp
  clear hl
  generalize S b = A at *
  go_enter Tryd.func15, Tryd.ntmps15
  go_wp2
  go_loop [3] (fun i => ∃ m : Nat, m ≤ 4 ∧ i = .int .i64 m ∧ ∀ j, j < m → markB b j = true) (fun i => 4 - (intOf i).toNat)
  case atStart => exact ⟨0, Nat.zero_le _, rfl, fun j hj => by omega⟩
  case round =>
    obtain ⟨m, hm, rfl, hall⟩ := hrel
    have hm5 : m = 0 ∨ m = 1 ∨ m = 2 ∨ m = 3 ∨ m = 4 := by omega
    rcases hm5 with rfl | rfl | rfl | rfl | rfl
    · by_cases h : ((A[31]'l0).toNat : Int) = 165
      · have HN : Hid (∀ i, i < 1 → markB b i = true) := fun i hi => by
          by_cases e : i = 0
          · rw [e, k0.out]; exact decide_eq_true h
          · exact hall i (by omega)
        clear hall
        go_wp2
        go_round
        case rel => exact ⟨1, by omega, rfl, HN.out⟩
        case measure => simp [intOf]
      · have HN : Hid (lackB b = true) := HLk.out 0 (by omega) (by rw [k0.out]; exact decide_eq_false h)
        have h2 : (((A[31]'l0).toNat : Int) == 165) = false := by simpa using h
        clear hall h
        go_wp2
        go_ret
        exact ⟨ret_bool HN.out.symm, rfl⟩
    · by_cases h : ((A[63]'l1).toNat : Int) = 165
      · have HN : Hid (∀ i, i < 2 → markB b i = true) := fun i hi => by
          by_cases e : i = 1
          · rw [e, k1.out]; exact decide_eq_true h
          · exact hall i (by omega)
        clear hall
        go_wp2
        go_round
        case rel => exact ⟨2, by omega, rfl, HN.out⟩
        case measure => simp [intOf]
      · have HN : Hid (lackB b = true) := HLk.out 1 (by omega) (by rw [k1.out]; exact decide_eq_false h)
        have h2 : (((A[63]'l1).toNat : Int) == 165) = false := by simpa using h
        clear hall h
        go_wp2
        go_ret
        exact ⟨ret_bool HN.out.symm, rfl⟩
    · by_cases h : ((A[95]'l2).toNat : Int) = 165
      · have HN : Hid (∀ i, i < 3 → markB b i = true) := fun i hi => by
          by_cases e : i = 2
          · rw [e, k2.out]; exact decide_eq_true h
          · exact hall i (by omega)
        clear hall
        go_wp2
        go_round
        case rel => exact ⟨3, by omega, rfl, HN.out⟩
        case measure => simp [intOf]
      · have HN : Hid (lackB b = true) := HLk.out 2 (by omega) (by rw [k2.out]; exact decide_eq_false h)
        have h2 : (((A[95]'l2).toNat : Int) == 165) = false := by simpa using h
        clear hall h
        go_wp2
        go_ret
        exact ⟨ret_bool HN.out.symm, rfl⟩
    · by_cases h : ((A[127]'l3).toNat : Int) = 165
      · have HN : Hid (∀ i, i < 4 → markB b i = true) := fun i hi => by
          by_cases e : i = 3
          · rw [e, k3.out]; exact decide_eq_true h
          · exact hall i (by omega)
        clear hall
        go_wp2
        go_round
        case rel => exact ⟨4, by omega, rfl, HN.out⟩
        case measure => simp [intOf]
      · have HN : Hid (lackB b = true) := HLk.out 3 (by omega) (by rw [k3.out]; exact decide_eq_false h)
        have h2 : (((A[127]'l3).toNat : Int) == 165) = false := by simpa using h
        clear hall h
        go_wp2
        go_ret
        exact ⟨ret_bool HN.out.symm, rfl⟩
    · have HN : Hid (lackB b = false) := HAl.out (hall 0 (by omega)) (hall 1 (by omega)) (hall 2 (by omega)) (hall 3 (by omega))
      clear hall
      go_wp2
      go_ret
      exact ⟨ret_bool HN.out.symm, rfl⟩
set_option maxRecDepth 100000 in
set_option maxHeartbeats 2000000 in
theorem rencode_no (f : Fr) (w : World) (h : mayB f = false) :
    Calls Tryd.prog 10 #[frV f] w fun e w' => e = .returned (.tuple #[.string (S []), .int .i64 2]) ∧ Below w.heap.size w w' := by
  obtain ⟨k, ep, i, d⟩ := f
  show Calls Tryd.prog 10 #[.agg #[.int .u8 k, .int .i64 ep, .int .i64 i, .string (S d)]] w _
  generalize S d = D at *
  have hb : Hid (Below w.heap.size w (w.alloc (.cells #[.int .u8 k, .int .i64 ep, .int .i64 i, .string D] 23))) := (Below.refl _ _).alloc (Nat.le_refl _) _
  have hC : kindB k = false ∨ (kindB k = true ∧ ep < 1) ∨ (kindB k = true ∧ ¬ ep < 1 ∧ 1073741824 < ep) ∨ (kindB k = true ∧ ¬ ep < 1 ∧ ¬ 1073741824 < ep ∧ i < 0) ∨ (kindB k = true ∧ ¬ ep < 1 ∧ ¬ 1073741824 < ep ∧ ¬ i < 0 ∧ 65535 < i) := by
    cases hk : kindB k with
    | false => exact .inl rfl
    | true =>
      have h' : ¬ (1 ≤ ep ∧ ep ≤ 1073741824) ∨ ¬ (0 ≤ i ∧ i ≤ 65535) := by
        simp [mayB, hk, epochB, indexB] at h
        omega
      by_cases q1 : ep < 1
      · exact .inr (.inl ⟨rfl, q1⟩)
      by_cases q2 : 1073741824 < ep
      · exact .inr (.inr (.inl ⟨rfl, q1, q2⟩))
      by_cases q3 : i < 0
      · exact .inr (.inr (.inr (.inl ⟨rfl, q1, q2, q3⟩)))
      · exact .inr (.inr (.inr (.inr ⟨rfl, q1, q2, q3, by omega⟩)))
  clear h
  go_enter Tryd.func10, Tryd.ntmps10
  go_upto_region 1 with fail
  go_cut [4] (fun c wx => c = .bool (kindB k) ∧ wx = w.alloc (.cells #[.int .u8 k, .int .i64 ep, .int .i64 i, .string D] 23))
  case first =>
    clear hC
    by_cases e1 : k = 68
    · subst e1; go_wp2_with fail; go_meet; exact ⟨rfl, rfl⟩
    by_cases e2 : k = 80
    · subst e2; clear e1; go_wp2_with fail; go_meet; exact ⟨rfl, rfl⟩
    have n1 : (k == 68) = false := by simpa using e1
    have n2 : (k == 80) = false := by simpa using e2
    have n3 : Hid (kindB k = (k == 83)) := by show _ = _; simp [kindB, n1, n2]
    clear e1 e2
    go_wp2_with fail
    go_meet
    exact ⟨by rw [n3.out], rfl⟩
  case rest =>
    obtain ⟨rfl, rfl⟩ := hcut
    rcases hC with h | ⟨h, h1⟩ | ⟨h, h1, h2⟩ | ⟨h, h1, h2, h3⟩ | ⟨h, h1, h2, h3, h4⟩ <;> rw [h] <;> clear h
    all_goals
      go_wp2
      go_ret2
      exact ⟨rfl, hb.out⟩
set_option maxRecDepth 100000 in
set_option maxHeartbeats 2000000 in
theorem rencode_long (f : Fr) (w : World) (h : mayB f = true) (hl : ¬ f.d.length ≤ 112) :
    Calls Tryd.prog 10 #[frV f] w fun e w' => e = .returned (.tuple #[.string (S []), .int .i64 3]) ∧ Below w.heap.size w w' := by
  obtain ⟨hk, he, hi⟩ := mayB_of h
  obtain ⟨k, ep, i, d⟩ := f
  show Calls Tryd.prog 10 #[.agg #[.int .u8 k, .int .i64 ep, .int .i64 i, .string (S d)]] w _
  simp only at hk he hi hl
  have hz : (112 : Int) < ((S d).size : Int) := by rw [S_size]; omega
  generalize S d = D at *
  have hb : Hid (Below w.heap.size w (w.alloc (.cells #[.int .u8 k, .int .i64 ep, .int .i64 i, .string D] 23))) := (Below.refl _ _).alloc (Nat.le_refl _) _
  have g1 : ¬ ep < 1 := by omega
  have g2 : ¬ 1073741824 < ep := by omega
  have g3 : ¬ i < 0 := by omega
  have g4 : ¬ 65535 < i := by omega
  clear h hl he hi
  rcases hk with rfl | rfl | rfl
  all_goals
    go_enter Tryd.func10, Tryd.ntmps10
    go_wp2
    go_ret2
    exact ⟨rfl, hb.out⟩
end Go.Proofs.YtcbmcbcpclgciaaDoor
