/- Contracts of the document's own Size and Put. -/
import Derived.Test.YtalofhnjlmgloaaDoorVc
namespace Go.Proofs.YtalofhnjlmgloaaDoor
open Go.RowKit

set_option maxRecDepth 100000 in
theorem rsize_any (n : Int) (w : World) :
    Calls Tryd.prog 42 #[.int .i64 n] w fun e w' => e = .returned (.bool (isSz n)) ∧ w' = w := by
  by_cases h1 : n = 1
  · subst h1
    go_enter Tryd.func42, Tryd.ntmps42
    go_wp2; go_ret; exact ⟨rfl, rfl⟩
  by_cases h2 : n = 2
  · subst h2; clear h1
    go_enter Tryd.func42, Tryd.ntmps42
    go_wp2; go_ret; exact ⟨rfl, rfl⟩
  by_cases h4 : n = 4
  · subst h4; clear h1 h2
    go_enter Tryd.func42, Tryd.ntmps42
    go_wp2; go_ret; exact ⟨rfl, rfl⟩
  by_cases h8 : n = 8
  · subst h8; clear h1 h2 h4
    go_enter Tryd.func42, Tryd.ntmps42
    go_wp2; go_ret; exact ⟨rfl, rfl⟩
  have e1 : (n == 1) = false := beq_eq_false_iff_ne.2 h1
  have e2 : (n == 2) = false := beq_eq_false_iff_ne.2 h2
  have e4 : (n == 4) = false := beq_eq_false_iff_ne.2 h4
  have e8 : (n == 8) = false := beq_eq_false_iff_ne.2 h8
  have Hno : Hid (isSz n = false) := isSz_no ⟨h1, h2, h4, h8⟩
  clear h1 h2 h4 h8
  go_enter Tryd.func42, Tryd.ntmps42
  go_wp2; go_ret; exact ⟨ret_bool Hno.out.symm, rfl⟩

set_option maxRecDepth 100000 in
set_option maxHeartbeats 800000 in
theorem rput_loop (n : Int) (size : Nat) (w : World) (R : ByteArray) (hz : isSz size = true) (h0 : 0 ≤ n) (hn : n ≤ 9223372036854775807) (hR1 : Hid (n / 256 ^ size = 0 → S (bytesOf n size) = R)) (hR2 : Hid (n / 256 ^ size ≠ 0 → S [] = R)) :
    Calls Tryd.prog 31 #[.int .i64 n, .int .i64 size] w fun e w' => e = .returned (.string R) ∧ Below w.heap.size w w' := by
  have hsz : (size : Int) = 1 ∨ (size : Int) = 2 ∨ (size : Int) = 4 ∨ (size : Int) = 8 := isSz_of hz
  have hcv := cv1
  go_enter Tryd.func31, Tryd.ntmps31
  go_wp2_with (go_at_call 42; refine (rsize_any _ _).mono ?_; rintro e w' ⟨rfl, rfl⟩)
  go_loopw [0, 5, 6] (fun nn s i wr => ∃ k : Nat, k ≤ size ∧ i = .int .i64 k ∧ nn = .int .i64 (n / 256 ^ k) ∧ s = .string (S (bytesOf n k)) ∧ Below w'.heap.size w' wr) (fun _ _ i _ => size - (intOf i).toNat)
  case atStart => exact ⟨0, Nat.zero_le _, rfl, by simp, rfl, Below.refl _ _⟩
  case round =>
    obtain ⟨k, hk, rfl, rfl, rfl, hb⟩ := hrel
    have hq0 : 0 ≤ n / 256 ^ k := Int.ediv_nonneg h0 (Int.le_of_lt (Int.pow_pos (by decide)))
    have hq1 : n / 256 ^ k ≤ n := Int.ediv_le_self _ h0
    by_cases hlt : k < size
    · have HB : Hid (strOf [n / 256 ^ k % 256] ++ S (bytesOf n k) = S (bytesOf n (k + 1))) := by
        show S [UInt8.ofNat (n / 256 ^ k % 256).toNat] ++ _ = _; rw [S_cons, bytesOf_cons]; rfl
      have HP : Hid (n / 256 ^ k / 256 = n / 256 ^ (k + 1)) := pow_ediv n k
      have hln : (S (bytesOf n k)).size ≤ 8 := by rw [S_size, bytesOf_length]; omega
      generalize n / 256 ^ k = x at *
      generalize S (bytesOf n k) = p at *
      have hsm : ¬ 9223372036854775807 < (strOf [x % 256]).size + p.size := by
        have : (strOf [x % 256]).size = 1 := by simp [strOf]
        omega
      go_wp2
      go_roundw
      case rel => exact ⟨k + 1, by omega, by go_num, by rw [HP.out], by rw [HB.out], hb.alloc hb.size _⟩
      case measure => simp [intOf]; omega
    · obtain rfl : k = size := by omega
      by_cases hz0 : n / 256 ^ k = 0
      · have HR : Hid (S (bytesOf n k) = R) := hR1.out hz0
        have hle : ¬ (0 : Int) < n / 256 ^ k := by omega
        clear hR1 hR2 hz0
        generalize n / 256 ^ k = x at *
        go_wp2
        go_ret
        exact ⟨ret_str HR.out, hb⟩
      · have HR : Hid (S [] = R) := hR2.out hz0
        have hle : (0 : Int) < n / 256 ^ k := by omega
        clear hR1 hR2 hz0
        generalize n / 256 ^ k = x at *
        go_wp2
        go_ret
        exact ⟨ret_str HR.out, hb⟩
theorem fits_div {n : Int} {size : Nat} (hz : isSz size = true) (h0 : 0 ≤ n) (hn : n ≤ 9223372036854775807) : n / 256 ^ size = 0 ↔ fitB n size = true := by
  have h := isSz_of hz
  have : size = 1 ∨ size = 2 ∨ size = 4 ∨ size = 8 := by omega
  rcases this with rfl | rfl | rfl | rfl <;> simp [fitB, lim] <;> omega
set_option maxRecDepth 100000 in
theorem rput_no (n size : Int) (w : World) (h : isSz size = false ∨ n < 0) :
    Calls Tryd.prog 31 #[.int .i64 n, .int .i64 size] w fun e w' => e = .returned (.string (S [])) ∧ Below w.heap.size w w' := by
  cases hs : isSz size with
  | false =>
    clear h
    go_enter Tryd.func31, Tryd.ntmps31
    go_wp2_with (go_at_call 42; refine (rsize_any _ _).mono ?_; rintro e w' ⟨rfl, rfl⟩)
    go_ret
    exact ⟨rfl, Below.refl _ _⟩
  | true =>
    have hn : n < 0 := by
      rcases h with h | h
      · rw [hs] at h; cases h
      · exact h
    clear h
    go_enter Tryd.func31, Tryd.ntmps31
    go_wp2_with (go_at_call 42; refine (rsize_any _ _).mono ?_; rintro e w' ⟨rfl, rfl⟩)
    go_ret
    exact ⟨rfl, Below.refl _ _⟩
/-- The document's Put, for every argument: what the program's answers. -/
theorem rput_any (n size : Int) (w : World) (hn : n ≤ 9223372036854775807) :
    Calls Tryd.prog 31 #[.int .i64 n, .int .i64 size] w fun e w' => e = .returned (.string (S (putL n size))) ∧ Below w.heap.size w w' := by
  cases hs : isSz size with
  | false => rw [show putL n size = [] by simp [putL, hs]]; exact rput_no n size w (.inl hs)
  | true =>
    by_cases h0 : 0 ≤ n
    · have hsz := isSz_of hs
      obtain ⟨size, rfl⟩ := Int.eq_ofNat_of_zero_le (show 0 ≤ size by omega)
      refine rput_loop n size w _ hs h0 hn (fun h => ?_) (fun h => ?_)
      · unfold putL
        rw [hs, (fits_div hs h0 hn).1 h]; rfl
      · have hf : fitB n size = false := by
          cases hf : fitB n size with
          | false => rfl
          | true => exact absurd ((fits_div hs h0 hn).2 hf) h
        unfold putL
        rw [hs, hf]; rfl
    · rw [show putL n size = [] by simp [putL, fitB]; omega]
      exact rput_no n size w (.inr (by omega))

end Go.Proofs.YtalofhnjlmgloaaDoor
