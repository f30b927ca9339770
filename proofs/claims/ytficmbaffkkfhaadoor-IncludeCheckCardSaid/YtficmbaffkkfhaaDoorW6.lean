/- Both tables that a hash of pieces reads: the rounds' words and the sizes (layer 8). -/
import Derived.Test.YtficmbaffkkfhaaDoorW3
import Derived.WalkKit
import Derived.WalkSpells
import Derived.WalkLawsBesides
import Derived.Test.YtficmbaffkkfhaaDoorSe
/- Contracts of the small functions of package words (isSize, fits): what each returns, for every argument, where the table of sizes lies in memory. -/
namespace Go.Proofs.YtficmbaffkkfhaaDoor
open Go.RowKit

/-- The table of sizes lies in its block. -/
def Tab (w : World) : Prop := ∃ t fr, w.heap[0]? = some (.cells #[.int .i64 1, .int .i64 2, .int .i64 4, .int .i64 8] t fr)
theorem Tab.lt {w : World} (h : Tab w) : 0 < w.heap.size := by
  obtain ⟨t, fr, h⟩ := h
  rcases Nat.lt_or_ge 0 w.heap.size with h1 | h1
  · exact h1
  · rw [Array.getElem?_eq_none h1] at h; cases h
theorem Tab.below {w w' : World} (h : Tab w) (hb : Below w.heap.size w w') : Tab w' := by
  have h0 := h.lt
  obtain ⟨t, fr, h⟩ := h
  exact ⟨t, fr, by rw [hb.block _ h0]; exact h⟩

/-- Is it a size? -/
def isSz (n : Int) : Bool := n == 1 || n == 2 || n == 4 || n == 8
theorem isSz_of {n : Int} (h : isSz n = true) : n = 1 ∨ n = 2 ∨ n = 4 ∨ n = 8 := by simp [isSz] at h; omega
theorem isSz_not {n : Int} (h : isSz n = false) : n ≠ 1 ∧ n ≠ 2 ∧ n ≠ 4 ∧ n ≠ 8 := by simp [isSz] at h; omega
theorem isSz_yes {n : Int} (h : n = 1 ∨ n = 2 ∨ n = 4 ∨ n = 8) : isSz n = true := by simp [isSz]; omega
theorem isSz_no {n : Int} (h : n ≠ 1 ∧ n ≠ 2 ∧ n ≠ 4 ∧ n ≠ 8) : isSz n = false := by simp [isSz]; omega

set_option maxRecDepth 100000 in
set_option maxHeartbeats 800000 in
theorem isSize_any (n : Int) (w : World) (hT : Tab w) :
    Calls Tryd.prog 40 #[.int .i64 n] w fun e w' => e = .returned (.bool (isSz n)) ∧ w' = w := by
  obtain ⟨tt, fr, hg⟩ := hT
  have i0 : ∀ w : World, (Instr.index 83 (.agg #[.int .i64 1, .int .i64 2, .int .i64 4, .int .i64 8]) (.int .i64 0)).run Tryd.prog w = .ok (.int .i64 1) w := fun _ => by kernel_rfl
  have i1 : ∀ w : World, (Instr.index 83 (.agg #[.int .i64 1, .int .i64 2, .int .i64 4, .int .i64 8]) (.int .i64 1)).run Tryd.prog w = .ok (.int .i64 2) w := fun _ => by kernel_rfl
  have i2 : ∀ w : World, (Instr.index 83 (.agg #[.int .i64 1, .int .i64 2, .int .i64 4, .int .i64 8]) (.int .i64 2)).run Tryd.prog w = .ok (.int .i64 4) w := fun _ => by kernel_rfl
  have i3 : ∀ w : World, (Instr.index 83 (.agg #[.int .i64 1, .int .i64 2, .int .i64 4, .int .i64 8]) (.int .i64 3)).run Tryd.prog w = .ok (.int .i64 8) w := fun _ => by kernel_rfl
  go_enter Tryd.func40, Tryd.ntmps40
  go_wp2_with (refine wpList_load_row rfl 83 _ rfl 0 rfl tt _ fr _ hg Tryd.underlying83 rfl (by kernel_rfl) ?_)
  clear hg
  go_loop [6] (fun i => ∃ k : Nat, k ≤ 4 ∧ i = .int .i64 k ∧ (1 ≤ k → n ≠ 1) ∧ (2 ≤ k → n ≠ 2) ∧ (3 ≤ k → n ≠ 4) ∧ (4 ≤ k → n ≠ 8)) (fun i => 4 - (intOf i).toNat)
  case atStart => exact ⟨0, Nat.zero_le _, rfl, by omega, by omega, by omega, by omega⟩
  case round =>
    obtain ⟨k, hk, rfl, n1, n2, n3, n4⟩ := hrel
    have hk5 : k = 0 ∨ k = 1 ∨ k = 2 ∨ k = 3 ∨ k = 4 := by omega
    rcases hk5 with rfl | rfl | rfl | rfl | rfl
    · by_cases e : n = 1
      · subst e; clear n1 n2 n3 n4; go_wp2; go_ret; exact ⟨rfl, rfl⟩
      · have e1 : ((1 : Int) == n) = false := by simp; omega
        clear n1 n2 n3 n4; go_wp2; go_round
        case rel => exact ⟨1, by omega, rfl, by omega, by omega, by omega, by omega⟩
        case measure => simp [intOf]
    · by_cases e : n = 2
      · subst e; clear n1 n2 n3 n4; go_wp2; go_ret; exact ⟨rfl, rfl⟩
      · have e1 : ((2 : Int) == n) = false := by simp; omega
        have n1' := n1 (by omega)
        clear n1 n2 n3 n4; go_wp2; go_round
        case rel => exact ⟨2, by omega, rfl, by omega, by omega, by omega, by omega⟩
        case measure => simp [intOf]
    · by_cases e : n = 4
      · subst e; clear n1 n2 n3 n4; go_wp2; go_ret; exact ⟨rfl, rfl⟩
      · have e1 : ((4 : Int) == n) = false := by simp; omega
        have n1' := n1 (by omega)
        have n2' := n2 (by omega)
        clear n1 n2 n3 n4; go_wp2; go_round
        case rel => exact ⟨3, by omega, rfl, by omega, by omega, by omega, by omega⟩
        case measure => simp [intOf]
    · by_cases e : n = 8
      · subst e; clear n1 n2 n3 n4; go_wp2; go_ret; exact ⟨rfl, rfl⟩
      · have e1 : ((8 : Int) == n) = false := by simp; omega
        have n1' := n1 (by omega)
        have n2' := n2 (by omega)
        have n3' := n3 (by omega)
        clear n1 n2 n3 n4; go_wp2; go_round
        case rel => exact ⟨4, by omega, rfl, by omega, by omega, by omega, by omega⟩
        case measure => simp [intOf]
    · have hno := isSz_no (n := n) ⟨n1 (by omega), n2 (by omega), n3 (by omega), n4 (by omega)⟩
      have Hno : Hid (isSz n = false) := hno
      clear n1 n2 n3 n4 hno
      go_wp2; go_ret; exact ⟨ret_bool Hno.out.symm, rfl⟩

/-- How many numbers so many bytes say. -/
def lim (size : Int) : Int := if size == 1 then 256 else if size == 2 then 65536 else if size == 4 then 4294967296 else 9223372036854775808
/-- Does the number fit into so many bytes? -/
def fitB (n size : Int) : Bool := decide (0 ≤ n) && decide (n < lim size)
theorem fitB_1 (n : Int) : (n / 256 == 0) = fitB n 1 := by rw [Bool.eq_iff_iff]; simp [fitB, lim]; omega
theorem fitB_2 (n : Int) : (n / 65536 == 0) = fitB n 2 := by rw [Bool.eq_iff_iff]; simp [fitB, lim]; omega
theorem fitB_4 (n : Int) : (n / 4294967296 == 0) = fitB n 4 := by rw [Bool.eq_iff_iff]; simp [fitB, lim]; omega
theorem fitB_8 (n : Int) (h : n ≤ 9223372036854775807) : (n / 18446744073709551616 == 0) = fitB n 8 := by rw [Bool.eq_iff_iff]; simp [fitB, lim]; omega

theorem fits_any (n size : Int) (w : World) (hs : isSz size = true) (hn : n ≤ 9223372036854775807) :
    Calls Tryd.prog 41 #[.int .i64 n, .int .i64 size] w fun e w' => e = .returned (.bool (fitB n size)) ∧ w' = w := by
  rcases isSz_of hs with rfl | rfl | rfl | rfl
  all_goals
    clear hs
    go_enter Tryd.func41, Tryd.ntmps41
    go_wp2
    go_ret
  · exact ⟨ret_bool (fitB_1 n), rfl⟩
  · exact ⟨ret_bool (fitB_2 n), rfl⟩
  · exact ⟨ret_bool (fitB_4 n), rfl⟩
  · exact ⟨ret_bool (fitB_8 n hn), rfl⟩

end Go.Proofs.YtficmbaffkkfhaaDoor

namespace Go.Proofs.YtficmbaffkkfhaaDoor
open Go.RowKit

/-- The rounds' words and the table of sizes lie in their blocks. -/
structure TabL (w : World) : Prop where
  k : TabK w
  z : Tab w
theorem TabL.lt {w : World} (h : TabL w) : 2 < w.heap.size ∧ 0 < w.heap.size := ⟨h.k.lt, h.z.lt⟩
theorem TabL.below {w w' : World} {n : Nat} (h : TabL w) (hb : Below n w w') (hn : 2 < n ∧ 0 < n) : TabL w' := by
  refine ⟨h.k.below hb hn.1, ?_⟩
  obtain ⟨t, fr, h⟩ := h.z
  exact ⟨t, fr, by rw [hb.block _ hn.2]; exact h⟩
theorem TabL.but {w w' : World} {b : Nat} (h : TabL w) (hb : But b w w') (hn : 2 < b ∧ 0 < b) : TabL w' := by
  refine ⟨h.k.but hb hn.1, ?_⟩
  have h1 := h.z.lt
  obtain ⟨t, fr, h⟩ := h.z
  exact ⟨t, fr, by rw [hb.block _ h1 (by omega)]; exact h⟩
theorem TabL.drew {w : World} (h : TabL w) : TabL w.drew := ⟨h.k, h.z⟩
end Go.Proofs.YtficmbaffkkfhaaDoor
