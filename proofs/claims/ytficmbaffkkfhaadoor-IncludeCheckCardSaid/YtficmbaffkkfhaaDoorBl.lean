/- bits.Len: how many bits a number has (its own text walked). -/
import Derived.Test.YtficmbaffkkfhaaDoorChecked
import Derived.WalkKit
import Derived.Lib.Walk
import Derived.Lib.BitFns
import Derived.Lib.ItoaNum
namespace Go.Proofs.YtficmbaffkkfhaaDoor
open Go.RowKit

/-- The bits of a number: those that a shift takes off, and those of the byte that is left. -/
theorem bits_by {x y : Int} (K k : Nat) (hK : K = 2 ^ k) (hk : k ≤ 56) (h0 : 0 ≤ x) (h1 : x < 18446744073709551616) (hy : y = x / K) (hlo : (K : Int) ≤ x ∨ k = 0) (hhi : y < 256) (h : y.toNat < Lib.len8tab.size) : (k : Int) + ((Lib.len8tab[y.toNat]'h).toNat : Int) = (Lib.bitLen x.toNat : Int) ∧ ((Lib.len8tab[y.toNat]'h).toNat : Int) ≤ 8 := by
  obtain ⟨n, rfl⟩ := Int.eq_ofNat_of_zero_le h0
  obtain ⟨q, hq⟩ : ∃ q, n / K = q := ⟨_, rfl⟩
  have hyn : y = (q : Int) := by rw [hy, ← hq]; simp
  have hx : (K : Int) ≤ (n : Int) → Lib.bitLen n = k + Lib.bitLen q := fun hlo => by
    have := Lib.bitLen_shift k n (by rw [← hK]; exact Int.ofNat_le.1 hlo) (by omega)
    rwa [← hK, hq] at this
  have h00 : k = 0 → q = n := fun h => by subst h; subst hK; simpa using hq.symm
  clear hy hq hK h0
  have e : ((Lib.len8tab[y.toNat]'h).toNat : Int) = Lib.len8 y := by
    unfold Lib.len8
    rw [getElem?_pos Lib.len8tab y.toNat h]
    rfl
  rw [e, Lib.len8_of y (by omega) (by omega)]
  have e2 : y.toNat = q := by omega
  have hb := Lib.bitLen_le8' y (by omega) (by omega)
  rw [e2] at hb ⊢
  rw [Int.toNat_natCast]
  refine ⟨?_, by omega⟩
  rcases hlo with hlo | hlo
  · rw [hx hlo]; omega
  · rw [h00 hlo, hlo]; omega
theorem bits_wrap {x y : Int} (K k : Nat) (hK : K = 2 ^ k) (hk : k ≤ 56) (h0 : 0 ≤ x) (h1 : x < 18446744073709551616) (hy : y = x / K) (hlo : (K : Int) ≤ x ∨ k = 0) (hhi : y < 256) (h : y.toNat < Lib.len8tab.size) : wrap64 ((k : Int) + wrap64 ((Lib.len8tab[y.toNat]'h).toNat : Int)) = (Lib.bitLen x.toNat : Int) := by
  obtain ⟨e1, e2⟩ := bits_by K k hK hk h0 h1 hy hlo hhi h
  have e0 : (0 : Int) ≤ ((Lib.len8tab[y.toNat]'h).toNat : Int) := Int.natCast_nonneg _
  generalize ((Lib.len8tab[y.toNat]'h).toNat : Int) = z at *
  generalize (Lib.bitLen x.toNat : Int) = l at *
  clear hK hy hlo h
  unfold wrap64
  omega
theorem bits_none {x : Int} (h0 : 0 ≤ x) (hhi : x < 256) (h : x.toNat < Lib.len8tab.size) : wrap64 (wrap64 ((Lib.len8tab[x.toNat]'h).toNat : Int)) = (Lib.bitLen x.toNat : Int) := by
  have := bits_wrap (x := x) (y := x) 1 0 rfl (by omega) h0 (by omega) (by omega) (.inr rfl) hhi h
  simpa using this
theorem bits_back {a b : Int} {w : World} (h : a = b) : Ending.returned (.int .i64 a) = .returned (.int .i64 b) ∧ w = w := ⟨by rw [h], rfl⟩
theorem bitLen_log {n : Nat} (h0 : n ≠ 0) (h1 : n < 2 ^ 64) : Lib.bitLen n = Nat.log2 n + 1 := by
  obtain ⟨a, b, c⟩ := Lib.bitLenAux_bounds 64 n h1 h0
  have e : Lib.bitLenAux 64 n = Lib.bitLen n := rfl
  rw [e] at a b c
  have := (Nat.le_log2 h0).2 b
  have := (Nat.log2_lt h0).2 c
  omega
set_option maxHeartbeats 4000000 in
set_option maxRecDepth 100000 in
theorem len64_any (x : Int) (w : World) (h0 : 0 ≤ x) (h1 : x < 18446744073709551616) : Calls Tryd.prog 43 #[.int .u64 x] w fun e w' => e = .returned (.int .i64 (Lib.bitLen x.toNat)) ∧ w' = w := by
  have hs : Lib.len8tab.size = 256 := Lib.len8tab_size
  go_enter Tryd.func43, Tryd.ntmps43
  go_wp2
  all_goals (go_ret; refine bits_back ?_)
  · exact bits_wrap 72057594037927936 56 (by decide) (by omega) h0 h1 (by omega) (by omega) (by omega) _
  · exact bits_wrap 281474976710656 48 (by decide) (by omega) h0 h1 (by omega) (by omega) (by omega) _
  · exact bits_wrap 1099511627776 40 (by decide) (by omega) h0 h1 (by omega) (by omega) (by omega) _
  · exact bits_wrap 4294967296 32 (by decide) (by omega) h0 h1 (by omega) (by omega) (by omega) _
  · exact bits_wrap 16777216 24 (by decide) (by omega) h0 h1 (by omega) (by omega) (by omega) _
  · exact bits_wrap 65536 16 (by decide) (by omega) h0 h1 (by omega) (by omega) (by omega) _
  · exact bits_wrap 256 8 (by decide) (by omega) h0 h1 (by omega) (by omega) (by omega) _
  · exact bits_none h0 (by omega) _
theorem len_any (x : Int) (w : World) (h0 : 0 ≤ x) (h1 : x < 18446744073709551616) : Calls Tryd.prog 32 #[.int .u64 x] w fun e w' => e = .returned (.int .i64 (Lib.bitLen x.toNat)) ∧ w' = w := by
  go_enter Tryd.func32, Tryd.ntmps32
  go_wp2_with (first | (go_at_call 43; refine (len64_any x _ h0 h1).mono ?_; rintro e w' ⟨rfl, rfl⟩))
  go_ret
  exact ⟨rfl, rfl⟩
end Go.Proofs.YtficmbaffkkfhaaDoor
