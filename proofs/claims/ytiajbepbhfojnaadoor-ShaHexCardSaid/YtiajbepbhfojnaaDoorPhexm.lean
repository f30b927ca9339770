/- The walk of the law ShaHex: digits are 64, of the base 16, in the order of the bytes. -/
import Derived.Test.YtiajbepbhfojnaaDoorSh
import Derived.Deep.RegionHeld3
import Derived.Deep.QuietTactic
import Derived.BigQuiet
namespace Go.Proofs.YtiajbepbhfojnaaDoor
open Go.RowKit

/-- Is it a digit? -/
def isDig (b : UInt8) : Prop := (48 ≤ b.toNat ∧ b.toNat ≤ 57) ∨ (97 ≤ b.toNat ∧ b.toNat ≤ 102)
theorem dig_val (n : Nat) (h : n < 16) : (dig n).toNat = if n < 10 then 48 + n else 87 + n := by
  unfold dig
  by_cases h1 : n < 10
  · simp [h1]; omega
  · simp [h1]; omega
theorem dig_is (n : Nat) (h : n < 16) : isDig (dig n) := by
  unfold isDig
  rw [dig_val n h]
  by_cases h1 : n < 10
  · simp [h1]; omega
  · simp [h1]; omega
theorem dig_lt (m n : Nat) (hm : m < 16) (hn : n < 16) : (dig m < dig n) ↔ m < n := by
  rw [UInt8.lt_iff_toNat_lt, dig_val m hm, dig_val n hn]
  by_cases h1 : m < 10 <;> by_cases h2 : n < 10 <;> simp [h1, h2] <;> omega
theorem dig_inj (m n : Nat) (hm : m < 16) (hn : n < 16) (h : dig m = dig n) : m = n := by
  have := congrArg UInt8.toNat h
  rw [dig_val m hm, dig_val n hn] at this
  by_cases h1 : m < 10 <;> by_cases h2 : n < 10 <;> simp [h1, h2] at this <;> omega
theorem hexL_dig (l : List UInt8) : ∀ b ∈ hexL l, isDig b := by
  intro b hb
  unfold hexL at hb
  rw [List.mem_flatMap] at hb
  obtain ⟨x, _, hx⟩ := hb
  have := UInt8.toNat_lt x
  simp only [List.mem_cons, List.not_mem_nil, or_false] at hx
  rcases hx with rfl | rfl
  · exact dig_is _ (by omega)
  · exact dig_is _ (by omega)
theorem hexL_cons (x : UInt8) (l : List UInt8) : hexL (x :: l) = dig (x.toNat / 16) :: dig (x.toNat % 16) :: hexL l := by simp [hexL]
theorem hexL_inj : ∀ a b : List UInt8, a.length = b.length → hexL a = hexL b → a = b
  | [], [], _, _ => rfl
  | [], _ :: _, h, _ => by simp at h
  | _ :: _, [], h, _ => by simp at h
  | x :: a, y :: b, hl, h => by
    rw [hexL_cons, hexL_cons] at h
    have hx := UInt8.toNat_lt x
    have hy := UInt8.toNat_lt y
    injection h with h1 h2
    injection h2 with h2 h3
    have e1 := dig_inj _ _ (by omega) (by omega) h1
    have e2 := dig_inj _ _ (by omega) (by omega) h2
    have e : x = y := UInt8.toNat_inj.1 (by omega)
    rw [e, hexL_inj a b (by simpa using hl) h3]
/-- The order of two texts of one length. -/
def lessL : List UInt8 → List UInt8 → Bool
  | x :: a, y :: b => if x = y then lessL a b else decide (x < y)
  | _, _ => false
theorem bytesLess_hex : ∀ a b : List UInt8, a.length = b.length → Op.bytesLess (hexL a) (hexL b) = lessL a b
  | [], [], _ => rfl
  | [], _ :: _, h => by simp at h
  | _ :: _, [], h => by simp at h
  | x :: a, y :: b, hl => by
    have ih := bytesLess_hex a b (by simpa using hl)
    have hx := UInt8.toNat_lt x
    have hy := UInt8.toNat_lt y
    rw [hexL_cons, hexL_cons, Op.bytesLess, Op.bytesLess, ih, lessL]
    by_cases e : x = y
    · subst e
      have n1 : ¬ (dig (x.toNat / 16) < dig (x.toNat / 16)) := by rw [dig_lt _ _ (by omega) (by omega)]; omega
      have n2 : ¬ (dig (x.toNat % 16) < dig (x.toNat % 16)) := by rw [dig_lt _ _ (by omega) (by omega)]; omega
      simp [n1, n2]
    · rw [if_neg e]
      have hne : x.toNat ≠ y.toNat := fun h => e (UInt8.toNat_inj.1 h)
      rw [Bool.eq_iff_iff]
      simp only [Bool.or_eq_true, Bool.and_eq_true, decide_eq_true_eq, beq_iff_eq]
      rw [dig_lt _ _ (by omega) (by omega), dig_lt _ _ (by omega) (by omega), UInt8.lt_iff_toNat_lt]
      refine ⟨fun h => ?_, fun h => ?_⟩
      · rcases h with h | ⟨h, h2⟩
        · omega
        · have := dig_inj _ _ (by omega) (by omega) h
          rcases h2 with h2 | ⟨h2, _⟩
          · omega
          · have := dig_inj _ _ (by omega) (by omega) h2
            omega
      · by_cases h1 : x.toNat / 16 < y.toNat / 16
        · exact .inl h1
        · have h3 : x.toNat / 16 = y.toNat / 16 := by omega
          exact .inr ⟨by rw [h3], .inl (by omega)⟩
theorem lessL_at : ∀ (a b : List UInt8) (k : Nat) (ha : k < a.length) (hb : k < b.length), a.take k = b.take k → a[k] ≠ b[k] → lessL a b = decide (a[k] < b[k])
  | x :: a, y :: b, 0, _, _, _, hne => by
    simp at hne
    simp [lessL, hne]
  | x :: a, y :: b, k + 1, ha, hb, ht, hne => by
    simp only [List.take_succ_cons, List.cons.injEq] at ht
    obtain ⟨rfl, ht⟩ := ht
    simp only [List.getElem_cons_succ] at hne ⊢
    rw [lessL, if_pos rfl]
    exact lessL_at a b k (by simpa using ha) (by simpa using hb) ht hne
theorem lessL_same : ∀ a : List UInt8, lessL a a = false
  | [] => rfl
  | x :: a => by rw [lessL, if_pos rfl]; exact lessL_same a
end Go.Proofs.YtiajbepbhfojnaaDoor
