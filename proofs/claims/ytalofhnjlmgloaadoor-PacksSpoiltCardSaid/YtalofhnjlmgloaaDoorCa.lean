/- Contracts of package sums: behind, More, Sum. -/
import Derived.Test.YtalofhnjlmgloaaDoorBs
import Derived.Test.YtalofhnjlmgloaaDoorCm
namespace Go.Proofs.YtalofhnjlmgloaaDoor
open Go.RowKit

/-- The table of sixteen lies in its block. -/
def Tab4 (w : World) : Prop := ∃ t fr, w.heap[1]? = some (.cells (cf 16 t4) t fr)
theorem Tab4.lt {w : World} (h : Tab4 w) : 1 < w.heap.size := by
  obtain ⟨t, fr, h⟩ := h
  rcases Nat.lt_or_ge 1 w.heap.size with h1 | h1
  · exact h1
  · rw [Array.getElem?_eq_none h1] at h; cases h
theorem Tab4.below {w w' : World} {n : Nat} (h : Tab4 w) (hb : Below n w w') (hn : 1 < n) : Tab4 w' := by
  obtain ⟨t, fr, h⟩ := h
  exact ⟨t, fr, by rw [hb.block _ hn]; exact h⟩
theorem iw_15 (r : W32) : bits .and .u32 (iw r) 15 = ((r.toNat % 16 : Nat) : Int) := by
  have : (15 : Int) = iw 15#32 := by decide
  rw [this, iw_and]; unfold iw; rw [and15]
/-- behind: the register behind four bits more. -/
theorem behind_any (r : W32) (w : World) (hT : Tab4 w) :
    Calls Tryd.prog 53 #[.int .u32 (iw r)] w fun e w' => e = .returned (.int .u32 (iw (fr4 r))) ∧ w' = w := by
  obtain ⟨t, fr, hg⟩ := hT
  have h16 : r.toNat % 16 < 16 := Nat.mod_lt _ (by decide)
  have hc : w.cell? ⟨1, r.toNat % 16, none⟩ = some (.int .u32 (iw (t4 (r.toNat % 16)))) := by
    rw [cell_of_row _ _ _ _ _ _ hg]; exact cf_get _ h16
  have e : Hid (bits .xor .u32 (iw r / 16) (iw (t4 (r.toNat % 16))) = iw (fr4 r)) := by
    show _ = _
    have := iw_shr r 4
    rw [show (2 : Int) ^ 4 = 16 by rfl] at this
    rw [this, iw_xor]; unfold fr4; rw [and15]
  have ea : bits .and .u32 (iw r) 15 = ((r.toNat % 16 : Nat) : Int) := iw_15 r
  clear hg
  generalize iw (t4 (r.toNat % 16)) = T at *
  generalize iw (fr4 r) = R at *
  generalize r.toNat % 16 = k at *
  have h0 := iw_nonneg r
  have h1 := iw_lt r
  generalize iw r = X at *
  have i1 : (k : Int) < 16 := by omega
  have i0 : (0 : Int) ≤ (k : Int) := by omega
  go_enter Tryd.func53, Tryd.ntmps53
  go_wp2
  go_ret
  exact ⟨ret_w e.out, rfl⟩
end Go.Proofs.YtalofhnjlmgloaaDoor
