/- Contract of frames.Encode. -/
import Derived.Test.YtalofhnjlmgloaaDoorFf
import Derived.Test.YtalofhnjlmgloaaDoorFd
namespace Go.Proofs.YtalofhnjlmgloaaDoor
open Go.RowKit

theorem ret_enc {a b : ByteArray} {n m : Int} (h : a = b) (k : n = m) : Ending.returned (.tuple #[.string a, .int .i64 n]) = .returned (.tuple #[.string b, .int .i64 m]) := by rw [h, k]
theorem encE_no {f : Fr} (h : mayB f = false) : encE f = 2 ∧ encL f = [] := by
  refine ⟨by simp [encE, h], by simp [encL, h]⟩
theorem encE_long {f : Fr} (h : mayB f = true) (hl : ¬ f.d.length ≤ 112) : encE f = 3 ∧ encL f = [] := by
  refine ⟨by simp [encE, h, hl], by simp [encL, hl]⟩
theorem encode_no (f : Fr) (w : World) (h : mayB f = false) :
    Calls Tryd.prog 30 #[frV f] w fun e w' => e = .returned (.tuple #[.string (S []), .int .i64 2]) ∧ Below w.heap.size w w' := by
  obtain ⟨k, ep, i, d⟩ := f
  show Calls Tryd.prog 30 #[.agg #[.int .u8 k, .int .i64 ep, .int .i64 i, .string (S d)]] w _
  generalize S d = D at *
  have hb : Hid (Below w.heap.size w (w.alloc (.cells #[.int .u8 k, .int .i64 ep, .int .i64 i, .string D] 39))) := (Below.refl _ _).alloc (Nat.le_refl _) _
  simp only [mayB] at h
  cases hk : kindB k with
  | false =>
    clear h
    go_enter Tryd.func30, Tryd.ntmps30
    go_wp2_with (go_at_call 37; refine (isKind_any _ _).mono ?_; rintro e w' ⟨rfl, rfl⟩)
    go_ret2
    exact ⟨rfl, hb.out⟩
  | true =>
    cases he : epochB ep with
    | false =>
      clear h
      go_enter Tryd.func30, Tryd.ntmps30
      go_wp2_with (first | (go_at_call 37; refine (isKind_any _ _).mono ?_; rintro e w' ⟨rfl, rfl⟩) | (go_at_call 38; refine (isEpoch_any _ _).mono ?_; rintro e w' ⟨rfl, rfl⟩))
      go_ret2
      exact ⟨rfl, hb.out⟩
    | true =>
      have hi : indexB i = false := by simpa [hk, he] using h
      clear h
      go_enter Tryd.func30, Tryd.ntmps30
      go_wp2_with (first | (go_at_call 37; refine (isKind_any _ _).mono ?_; rintro e w' ⟨rfl, rfl⟩) | (go_at_call 38; refine (isEpoch_any _ _).mono ?_; rintro e w' ⟨rfl, rfl⟩) | (go_at_call 39; refine (isIndex_any _ _).mono ?_; rintro e w' ⟨rfl, rfl⟩))
      go_ret2
      exact ⟨rfl, hb.out⟩
theorem encode_long (f : Fr) (w : World) (h : mayB f = true) (hl : ¬ f.d.length ≤ 112) :
    Calls Tryd.prog 30 #[frV f] w fun e w' => e = .returned (.tuple #[.string (S []), .int .i64 3]) ∧ Below w.heap.size w w' := by
  obtain ⟨k, ep, i, d⟩ := f
  show Calls Tryd.prog 30 #[.agg #[.int .u8 k, .int .i64 ep, .int .i64 i, .string (S d)]] w _
  have hz : (112 : Int) < ((S d).size : Int) := by rw [S_size]; simp only at hl; omega
  generalize S d = D at *
  have hb : Hid (Below w.heap.size w (w.alloc (.cells #[.int .u8 k, .int .i64 ep, .int .i64 i, .string D] 39))) := (Below.refl _ _).alloc (Nat.le_refl _) _
  simp only [mayB, Bool.and_eq_true] at h
  obtain ⟨⟨hk, he⟩, hi⟩ := h
  clear hl
  go_enter Tryd.func30, Tryd.ntmps30
  go_wp2_with (first | (go_at_call 37; refine (isKind_any _ _).mono ?_; rintro e w' ⟨rfl, rfl⟩) | (go_at_call 38; refine (isEpoch_any _ _).mono ?_; rintro e w' ⟨rfl, rfl⟩) | (go_at_call 39; refine (isIndex_any _ _).mono ?_; rintro e w' ⟨rfl, rfl⟩))
  go_ret2
  exact ⟨rfl, hb.out⟩
theorem encode_ok (f : Fr) (w : World) (hT : Tab w) (hT4 : Tab4 w) (h : mayB f = true) (hl : f.d.length ≤ 112) :
    Calls Tryd.prog 30 #[frV f] w fun e w' => e = .returned (.tuple #[.string (S (markL (textL f))), .int .i64 0]) ∧ Below w.heap.size w w' := by
  have HT : Hid (∀ w : World, Tab w → Tab4 w → Calls Tryd.prog 41 #[frV f] w fun e w' => e = .returned (.string (S (textL f))) ∧ Below w.heap.size w w') := fun w a b => textOf_any f h hl w a b
  have HM : Hid (∀ w : World, Calls Tryd.prog 40 #[.string (S (textL f))] w fun e w' => e = .returned (.string (S (markL (textL f)))) ∧ Below w.heap.size w w') := fun w => marked_any (textL f) (textL_length hl) w
  generalize S (markL (textL f)) = R at *
  generalize S (textL f) = X at *
  obtain ⟨k, ep, i, d⟩ := f
  have HT : Hid (∀ w : World, Tab w → Tab4 w → Calls Tryd.prog 41 #[.agg #[.int .u8 k, .int .i64 ep, .int .i64 i, .string (S d)]] w fun e w' => e = .returned (.string X) ∧ Below w.heap.size w w') := HT
  show Calls Tryd.prog 30 #[.agg #[.int .u8 k, .int .i64 ep, .int .i64 i, .string (S d)]] w _
  have hz : ¬ (112 : Int) < ((S d).size : Int) := by rw [S_size]; simp only at hl; omega
  generalize S d = D at *
  have hb : Below w.heap.size w (w.alloc (.cells #[.int .u8 k, .int .i64 ep, .int .i64 i, .string D] 39)) := (Below.refl _ _).alloc (Nat.le_refl _) _
  have T1 : Hid (Tab (w.alloc (.cells #[.int .u8 k, .int .i64 ep, .int .i64 i, .string D] 39))) := hT.below hb
  have T2 : Hid (Tab4 (w.alloc (.cells #[.int .u8 k, .int .i64 ep, .int .i64 i, .string D] 39))) := hT4.below hb hT4.lt
  have HB : Hid _ := hb
  simp only [mayB, Bool.and_eq_true] at h
  obtain ⟨⟨hk, he⟩, hi⟩ := h
  clear hl hb hT hT4
  go_enter Tryd.func30, Tryd.ntmps30
  go_wp2_with (first | (go_at_call 37; refine (isKind_any _ _).mono ?_; rintro e w' ⟨rfl, rfl⟩) | (go_at_call 38; refine (isEpoch_any _ _).mono ?_; rintro e w' ⟨rfl, rfl⟩) | (go_at_call 39; refine (isIndex_any _ _).mono ?_; rintro e w' ⟨rfl, rfl⟩))
  refine (HT.out _ T1.out T2.out).mono ?_
  rintro e w1 ⟨rfl, b1⟩
  go_wp2_with fail
  refine (HM.out _).mono ?_
  rintro e w2 ⟨rfl, b2⟩
  have HF : Hid (Below w.heap.size w w2) := HB.out.trans ((b1.trans (b2.mono b1.size)).mono HB.out.size)
  clear b1 b2
  go_wp2
  go_ret2
  exact ⟨rfl, HF.out⟩
/-- Encode, for every frame. -/
theorem encode_any (f : Fr) (w : World) (hT : Tab w) (hT4 : Tab4 w) :
    Calls Tryd.prog 30 #[frV f] w fun e w' => e = .returned (.tuple #[.string (S (encL f)), .int .i64 (encE f)]) ∧ Below w.heap.size w w' := by
  cases h : mayB f with
  | false => rw [(encE_no h).1, (encE_no h).2]; exact encode_no f w h
  | true =>
    by_cases hl : f.d.length ≤ 112
    · have he := encE_ok.2 ⟨h, hl⟩
      rw [encL_ok he, he]; exact encode_ok f w hT hT4 h hl
    · rw [(encE_long h hl).1, (encE_long h hl).2]; exact encode_long f w h hl
end Go.Proofs.YtalofhnjlmgloaaDoor
