/- The walk of the law WordsFit: a number fits into a size just if it is below what that many bytes say; bytes rise as the numbers do. -/
import Derived.Test.YthefmkmgiblngaaDoorWe
namespace Go.Proofs.YthefmkmgiblngaaDoor
open Go.RowKit

/-- What is known of the bytes of n, the bytes of m. -/
structure FitFacts (size : Nat) (n m : Int) (p q : ByteArray) : Prop where
  yes : fitB n size = true → p.toList.isEmpty = false ∧ ¬ p.toList = [] ∧ ((p.size : Int) != (size : Int)) = false
  no : fitB n size = false → p.toList = []
  yes2 : fitB m size = true → ¬ q.toList = []
  no2 : fitB m size = false → q.toList = []
  less : fitB n size = true → fitB m size = true → Op.bytesLess p.toList q.toList = decide (n < m)
  eq : fitB n size = true → fitB m size = true → (p.toList == q.toList) = (n == m)
theorem putL_no {n size : Int} (h : fitB n size = false) : putL n size = [] := by simp [putL, h]
theorem putL_yes {n size : Int} (hz : isSz size = true) (h : fitB n size = true) : putL n size = bytesOf n size.toNat := by simp [putL, h, hz]
theorem lim_le {size : Int} (hz : isSz size = true) : lim size ≤ 256 ^ size.toNat := by
  rcases isSz_of hz with rfl | rfl | rfl | rfl <;> decide
theorem fitB_iff {n size : Int} : fitB n size = true ↔ 0 ≤ n ∧ n < lim size := by simp [fitB]
theorem fitFacts (size : Nat) (n m : Int) (hz : isSz size = true) : FitFacts size n m (S (putL n size)) (S (putL m size)) := by
  have hl := lim_le hz
  have hsz := isSz_of hz
  have hp : ∀ k : Int, fitB k size = true → putL k size = bytesOf k size := fun k h => putL_yes hz h
  have hne : ∀ k : Int, bytesOf k size ≠ [] := fun k h => by
    have := congrArg List.length h
    simp at this; omega
  refine ⟨fun h => ?_, fun h => ?_, fun h => ?_, fun h => ?_, fun h g => ?_, fun h g => ?_⟩
  · rw [hp n h, toList_S]
    exact ⟨by simp [hne], hne n, by simp⟩
  · rw [putL_no h, toList_S]
  · rw [hp m h, toList_S]; exact hne m
  · rw [putL_no h, toList_S]
  · obtain ⟨h0, h1⟩ := fitB_iff.1 h
    obtain ⟨g0, g1⟩ := fitB_iff.1 g
    rw [hp n h, hp m g, toList_S, toList_S]
    exact less_bytesOf _ n m h0 (Int.lt_of_lt_of_le h1 hl) g0 (Int.lt_of_lt_of_le g1 hl)
  · obtain ⟨h0, h1⟩ := fitB_iff.1 h
    obtain ⟨g0, g1⟩ := fitB_iff.1 g
    rw [hp n h, hp m g, toList_S, toList_S]
    exact beq_bytesOf _ n m h0 (Int.lt_of_lt_of_le h1 hl) g0 (Int.lt_of_lt_of_le g1 hl)

set_option maxRecDepth 100000 in
set_option maxHeartbeats 800000 in
theorem fit_1yy (n m x : Int) (w : World) (hT : Tab w) (hn : n ≤ 9223372036854775807) (hm : m ≤ 9223372036854775807) (hx1 : 0 ≤ x) (hx2 : x ≤ 255) (hx4 : x % 4 = 0) (hf : fitB n 1 = true) (hg : fitB m 1 = true) :
    Calls Tryd.prog 7 #[.int .i64 n, .int .i64 m, .int .u8 x] w fun e w' => e = .returned (.bool true) ∧ Below w.heap.size w w' := by
  have F := fitFacts 1 n m rfl
  obtain ⟨h1, h2, h3⟩ := F.yes hf
  have h4 := F.yes2 hg
  have h5 := F.less hf hg
  have h6 := F.eq hf hg
  have h7 : 0 ≤ n ∧ n < 256 := fitB_iff.1 hf
  obtain ⟨h8, h9⟩ := h7
  clear F hf hg
  all_goals
    go_enter Tryd.func7, Tryd.ntmps7
    go_wp2_with fail
    refine (put_any n 1 _ hT hn).mono ?_
    rintro e w1 ⟨rfl, b1⟩
    have T1 := hT.below b1
    go_wp2_with fail
    refine (put_any m 1 _ T1 hm).mono ?_
    rintro e w2 ⟨rfl, b2⟩
    have T2 := T1.below b2
    generalize S (putL n 1) = p at *
    generalize S (putL m 1) = q at *
    go_wp2_with fail
    refine (does_any _ T2).mono ?_
    rintro e w3 ⟨rfl, b3⟩
    go_wp2
    go_ret
    have s1 := b1.size
    have s2 := b2.size
    exact ⟨rfl, (b1.trans (b2.mono s1)).trans (b3.mono (by omega))⟩

set_option maxRecDepth 100000 in
set_option maxHeartbeats 800000 in
theorem fit_1yn (n m x : Int) (w : World) (hT : Tab w) (hn : n ≤ 9223372036854775807) (hm : m ≤ 9223372036854775807) (hx1 : 0 ≤ x) (hx2 : x ≤ 255) (hx4 : x % 4 = 0) (hf : fitB n 1 = true) (hg : fitB m 1 = false) :
    Calls Tryd.prog 7 #[.int .i64 n, .int .i64 m, .int .u8 x] w fun e w' => e = .returned (.bool true) ∧ Below w.heap.size w w' := by
  have F := fitFacts 1 n m rfl
  obtain ⟨h1, h2, h3⟩ := F.yes hf
  have h4 := F.no2 hg
  have h7 : 0 ≤ n ∧ n < 256 := fitB_iff.1 hf
  obtain ⟨h8, h9⟩ := h7
  clear F hf hg
  all_goals
    go_enter Tryd.func7, Tryd.ntmps7
    go_wp2_with fail
    refine (put_any n 1 _ hT hn).mono ?_
    rintro e w1 ⟨rfl, b1⟩
    have T1 := hT.below b1
    go_wp2_with fail
    refine (put_any m 1 _ T1 hm).mono ?_
    rintro e w2 ⟨rfl, b2⟩
    have T2 := T1.below b2
    generalize S (putL n 1) = p at *
    generalize S (putL m 1) = q at *
    go_wp2_with fail
    refine (does_any _ T2).mono ?_
    rintro e w3 ⟨rfl, b3⟩
    go_wp2
    go_ret
    have s1 := b1.size
    have s2 := b2.size
    exact ⟨rfl, (b1.trans (b2.mono s1)).trans (b3.mono (by omega))⟩

set_option maxRecDepth 100000 in
set_option maxHeartbeats 800000 in
theorem fit_1n (n m x : Int) (w : World) (hT : Tab w) (hn : n ≤ 9223372036854775807) (hm : m ≤ 9223372036854775807) (hx1 : 0 ≤ x) (hx2 : x ≤ 255) (hx4 : x % 4 = 0) (hf : fitB n 1 = false) :
    Calls Tryd.prog 7 #[.int .i64 n, .int .i64 m, .int .u8 x] w fun e w' => e = .returned (.bool true) ∧ Below w.heap.size w w' := by
  have F := fitFacts 1 n m rfl
  have h1 := F.no hf
  have h0 : n < 0 ∨ 0 ≤ n ∧ 256 ≤ n := by
    have : ¬ (0 ≤ n ∧ n < 256) := fun h => by rw [fitB_iff.2 h] at hf; cases hf
    omega
  clear F hf 
  rcases h0 with h0 | ⟨h0, h0'⟩
  all_goals
    go_enter Tryd.func7, Tryd.ntmps7
    go_wp2_with fail
    refine (put_any n 1 _ hT hn).mono ?_
    rintro e w1 ⟨rfl, b1⟩
    have T1 := hT.below b1
    go_wp2_with fail
    refine (put_any m 1 _ T1 hm).mono ?_
    rintro e w2 ⟨rfl, b2⟩
    have T2 := T1.below b2
    generalize S (putL n 1) = p at *
    generalize S (putL m 1) = q at *
    go_wp2_with fail
    refine (does_any _ T2).mono ?_
    rintro e w3 ⟨rfl, b3⟩
    go_wp2
    go_ret
    have s1 := b1.size
    have s2 := b2.size
    exact ⟨rfl, (b1.trans (b2.mono s1)).trans (b3.mono (by omega))⟩

set_option maxRecDepth 100000 in
set_option maxHeartbeats 800000 in
theorem fit_2yy (n m x : Int) (w : World) (hT : Tab w) (hn : n ≤ 9223372036854775807) (hm : m ≤ 9223372036854775807) (hx1 : 0 ≤ x) (hx2 : x ≤ 255) (hx4 : x % 4 = 1) (hf : fitB n 2 = true) (hg : fitB m 2 = true) :
    Calls Tryd.prog 7 #[.int .i64 n, .int .i64 m, .int .u8 x] w fun e w' => e = .returned (.bool true) ∧ Below w.heap.size w w' := by
  have F := fitFacts 2 n m rfl
  obtain ⟨h1, h2, h3⟩ := F.yes hf
  have h4 := F.yes2 hg
  have h5 := F.less hf hg
  have h6 := F.eq hf hg
  have h7 : 0 ≤ n ∧ n < 65536 := fitB_iff.1 hf
  obtain ⟨h8, h9⟩ := h7
  clear F hf hg
  all_goals
    go_enter Tryd.func7, Tryd.ntmps7
    go_wp2_with fail
    refine (put_any n 2 _ hT hn).mono ?_
    rintro e w1 ⟨rfl, b1⟩
    have T1 := hT.below b1
    go_wp2_with fail
    refine (put_any m 2 _ T1 hm).mono ?_
    rintro e w2 ⟨rfl, b2⟩
    have T2 := T1.below b2
    generalize S (putL n 2) = p at *
    generalize S (putL m 2) = q at *
    go_wp2_with fail
    refine (does_any _ T2).mono ?_
    rintro e w3 ⟨rfl, b3⟩
    go_wp2
    go_ret
    have s1 := b1.size
    have s2 := b2.size
    exact ⟨rfl, (b1.trans (b2.mono s1)).trans (b3.mono (by omega))⟩

set_option maxRecDepth 100000 in
set_option maxHeartbeats 800000 in
theorem fit_2yn (n m x : Int) (w : World) (hT : Tab w) (hn : n ≤ 9223372036854775807) (hm : m ≤ 9223372036854775807) (hx1 : 0 ≤ x) (hx2 : x ≤ 255) (hx4 : x % 4 = 1) (hf : fitB n 2 = true) (hg : fitB m 2 = false) :
    Calls Tryd.prog 7 #[.int .i64 n, .int .i64 m, .int .u8 x] w fun e w' => e = .returned (.bool true) ∧ Below w.heap.size w w' := by
  have F := fitFacts 2 n m rfl
  obtain ⟨h1, h2, h3⟩ := F.yes hf
  have h4 := F.no2 hg
  have h7 : 0 ≤ n ∧ n < 65536 := fitB_iff.1 hf
  obtain ⟨h8, h9⟩ := h7
  clear F hf hg
  all_goals
    go_enter Tryd.func7, Tryd.ntmps7
    go_wp2_with fail
    refine (put_any n 2 _ hT hn).mono ?_
    rintro e w1 ⟨rfl, b1⟩
    have T1 := hT.below b1
    go_wp2_with fail
    refine (put_any m 2 _ T1 hm).mono ?_
    rintro e w2 ⟨rfl, b2⟩
    have T2 := T1.below b2
    generalize S (putL n 2) = p at *
    generalize S (putL m 2) = q at *
    go_wp2_with fail
    refine (does_any _ T2).mono ?_
    rintro e w3 ⟨rfl, b3⟩
    go_wp2
    go_ret
    have s1 := b1.size
    have s2 := b2.size
    exact ⟨rfl, (b1.trans (b2.mono s1)).trans (b3.mono (by omega))⟩

set_option maxRecDepth 100000 in
set_option maxHeartbeats 800000 in
theorem fit_2n (n m x : Int) (w : World) (hT : Tab w) (hn : n ≤ 9223372036854775807) (hm : m ≤ 9223372036854775807) (hx1 : 0 ≤ x) (hx2 : x ≤ 255) (hx4 : x % 4 = 1) (hf : fitB n 2 = false) :
    Calls Tryd.prog 7 #[.int .i64 n, .int .i64 m, .int .u8 x] w fun e w' => e = .returned (.bool true) ∧ Below w.heap.size w w' := by
  have F := fitFacts 2 n m rfl
  have h1 := F.no hf
  have h0 : n < 0 ∨ 0 ≤ n ∧ 65536 ≤ n := by
    have : ¬ (0 ≤ n ∧ n < 65536) := fun h => by rw [fitB_iff.2 h] at hf; cases hf
    omega
  clear F hf 
  rcases h0 with h0 | ⟨h0, h0'⟩
  all_goals
    go_enter Tryd.func7, Tryd.ntmps7
    go_wp2_with fail
    refine (put_any n 2 _ hT hn).mono ?_
    rintro e w1 ⟨rfl, b1⟩
    have T1 := hT.below b1
    go_wp2_with fail
    refine (put_any m 2 _ T1 hm).mono ?_
    rintro e w2 ⟨rfl, b2⟩
    have T2 := T1.below b2
    generalize S (putL n 2) = p at *
    generalize S (putL m 2) = q at *
    go_wp2_with fail
    refine (does_any _ T2).mono ?_
    rintro e w3 ⟨rfl, b3⟩
    go_wp2
    go_ret
    have s1 := b1.size
    have s2 := b2.size
    exact ⟨rfl, (b1.trans (b2.mono s1)).trans (b3.mono (by omega))⟩

set_option maxRecDepth 100000 in
set_option maxHeartbeats 800000 in
theorem fit_4yy (n m x : Int) (w : World) (hT : Tab w) (hn : n ≤ 9223372036854775807) (hm : m ≤ 9223372036854775807) (hx1 : 0 ≤ x) (hx2 : x ≤ 255) (hx4 : x % 4 = 2) (hf : fitB n 4 = true) (hg : fitB m 4 = true) :
    Calls Tryd.prog 7 #[.int .i64 n, .int .i64 m, .int .u8 x] w fun e w' => e = .returned (.bool true) ∧ Below w.heap.size w w' := by
  have F := fitFacts 4 n m rfl
  obtain ⟨h1, h2, h3⟩ := F.yes hf
  have h4 := F.yes2 hg
  have h5 := F.less hf hg
  have h6 := F.eq hf hg
  have h7 : 0 ≤ n ∧ n < 4294967296 := fitB_iff.1 hf
  obtain ⟨h8, h9⟩ := h7
  clear F hf hg
  all_goals
    go_enter Tryd.func7, Tryd.ntmps7
    go_wp2_with fail
    refine (put_any n 4 _ hT hn).mono ?_
    rintro e w1 ⟨rfl, b1⟩
    have T1 := hT.below b1
    go_wp2_with fail
    refine (put_any m 4 _ T1 hm).mono ?_
    rintro e w2 ⟨rfl, b2⟩
    have T2 := T1.below b2
    generalize S (putL n 4) = p at *
    generalize S (putL m 4) = q at *
    go_wp2_with fail
    refine (does_any _ T2).mono ?_
    rintro e w3 ⟨rfl, b3⟩
    go_wp2
    go_ret
    have s1 := b1.size
    have s2 := b2.size
    exact ⟨rfl, (b1.trans (b2.mono s1)).trans (b3.mono (by omega))⟩

set_option maxRecDepth 100000 in
set_option maxHeartbeats 800000 in
theorem fit_4yn (n m x : Int) (w : World) (hT : Tab w) (hn : n ≤ 9223372036854775807) (hm : m ≤ 9223372036854775807) (hx1 : 0 ≤ x) (hx2 : x ≤ 255) (hx4 : x % 4 = 2) (hf : fitB n 4 = true) (hg : fitB m 4 = false) :
    Calls Tryd.prog 7 #[.int .i64 n, .int .i64 m, .int .u8 x] w fun e w' => e = .returned (.bool true) ∧ Below w.heap.size w w' := by
  have F := fitFacts 4 n m rfl
  obtain ⟨h1, h2, h3⟩ := F.yes hf
  have h4 := F.no2 hg
  have h7 : 0 ≤ n ∧ n < 4294967296 := fitB_iff.1 hf
  obtain ⟨h8, h9⟩ := h7
  clear F hf hg
  all_goals
    go_enter Tryd.func7, Tryd.ntmps7
    go_wp2_with fail
    refine (put_any n 4 _ hT hn).mono ?_
    rintro e w1 ⟨rfl, b1⟩
    have T1 := hT.below b1
    go_wp2_with fail
    refine (put_any m 4 _ T1 hm).mono ?_
    rintro e w2 ⟨rfl, b2⟩
    have T2 := T1.below b2
    generalize S (putL n 4) = p at *
    generalize S (putL m 4) = q at *
    go_wp2_with fail
    refine (does_any _ T2).mono ?_
    rintro e w3 ⟨rfl, b3⟩
    go_wp2
    go_ret
    have s1 := b1.size
    have s2 := b2.size
    exact ⟨rfl, (b1.trans (b2.mono s1)).trans (b3.mono (by omega))⟩

set_option maxRecDepth 100000 in
set_option maxHeartbeats 800000 in
theorem fit_4n (n m x : Int) (w : World) (hT : Tab w) (hn : n ≤ 9223372036854775807) (hm : m ≤ 9223372036854775807) (hx1 : 0 ≤ x) (hx2 : x ≤ 255) (hx4 : x % 4 = 2) (hf : fitB n 4 = false) :
    Calls Tryd.prog 7 #[.int .i64 n, .int .i64 m, .int .u8 x] w fun e w' => e = .returned (.bool true) ∧ Below w.heap.size w w' := by
  have F := fitFacts 4 n m rfl
  have h1 := F.no hf
  have h0 : n < 0 ∨ 0 ≤ n ∧ 4294967296 ≤ n := by
    have : ¬ (0 ≤ n ∧ n < 4294967296) := fun h => by rw [fitB_iff.2 h] at hf; cases hf
    omega
  clear F hf 
  rcases h0 with h0 | ⟨h0, h0'⟩
  all_goals
    go_enter Tryd.func7, Tryd.ntmps7
    go_wp2_with fail
    refine (put_any n 4 _ hT hn).mono ?_
    rintro e w1 ⟨rfl, b1⟩
    have T1 := hT.below b1
    go_wp2_with fail
    refine (put_any m 4 _ T1 hm).mono ?_
    rintro e w2 ⟨rfl, b2⟩
    have T2 := T1.below b2
    generalize S (putL n 4) = p at *
    generalize S (putL m 4) = q at *
    go_wp2_with fail
    refine (does_any _ T2).mono ?_
    rintro e w3 ⟨rfl, b3⟩
    go_wp2
    go_ret
    have s1 := b1.size
    have s2 := b2.size
    exact ⟨rfl, (b1.trans (b2.mono s1)).trans (b3.mono (by omega))⟩

set_option maxRecDepth 100000 in
set_option maxHeartbeats 800000 in
theorem fit_8yy (n m x : Int) (w : World) (hT : Tab w) (hn : n ≤ 9223372036854775807) (hm : m ≤ 9223372036854775807) (hx1 : 0 ≤ x) (hx2 : x ≤ 255) (hx4 : x % 4 = 3) (hf : fitB n 8 = true) (hg : fitB m 8 = true) :
    Calls Tryd.prog 7 #[.int .i64 n, .int .i64 m, .int .u8 x] w fun e w' => e = .returned (.bool true) ∧ Below w.heap.size w w' := by
  have F := fitFacts 8 n m rfl
  obtain ⟨h1, h2, h3⟩ := F.yes hf
  have h4 := F.yes2 hg
  have h5 := F.less hf hg
  have h6 := F.eq hf hg
  have h7 : 0 ≤ n ∧ n < 9223372036854775808 := fitB_iff.1 hf
  obtain ⟨h8, h9⟩ := h7
  clear F hf hg
  all_goals
    go_enter Tryd.func7, Tryd.ntmps7
    go_wp2_with fail
    refine (put_any n 8 _ hT hn).mono ?_
    rintro e w1 ⟨rfl, b1⟩
    have T1 := hT.below b1
    go_wp2_with fail
    refine (put_any m 8 _ T1 hm).mono ?_
    rintro e w2 ⟨rfl, b2⟩
    have T2 := T1.below b2
    generalize S (putL n 8) = p at *
    generalize S (putL m 8) = q at *
    go_wp2_with fail
    refine (does_any _ T2).mono ?_
    rintro e w3 ⟨rfl, b3⟩
    go_wp2
    go_ret
    have s1 := b1.size
    have s2 := b2.size
    exact ⟨rfl, (b1.trans (b2.mono s1)).trans (b3.mono (by omega))⟩

set_option maxRecDepth 100000 in
set_option maxHeartbeats 800000 in
theorem fit_8yn (n m x : Int) (w : World) (hT : Tab w) (hn : n ≤ 9223372036854775807) (hm : m ≤ 9223372036854775807) (hx1 : 0 ≤ x) (hx2 : x ≤ 255) (hx4 : x % 4 = 3) (hf : fitB n 8 = true) (hg : fitB m 8 = false) :
    Calls Tryd.prog 7 #[.int .i64 n, .int .i64 m, .int .u8 x] w fun e w' => e = .returned (.bool true) ∧ Below w.heap.size w w' := by
  have F := fitFacts 8 n m rfl
  obtain ⟨h1, h2, h3⟩ := F.yes hf
  have h4 := F.no2 hg
  have h7 : 0 ≤ n ∧ n < 9223372036854775808 := fitB_iff.1 hf
  obtain ⟨h8, h9⟩ := h7
  clear F hf hg
  all_goals
    go_enter Tryd.func7, Tryd.ntmps7
    go_wp2_with fail
    refine (put_any n 8 _ hT hn).mono ?_
    rintro e w1 ⟨rfl, b1⟩
    have T1 := hT.below b1
    go_wp2_with fail
    refine (put_any m 8 _ T1 hm).mono ?_
    rintro e w2 ⟨rfl, b2⟩
    have T2 := T1.below b2
    generalize S (putL n 8) = p at *
    generalize S (putL m 8) = q at *
    go_wp2_with fail
    refine (does_any _ T2).mono ?_
    rintro e w3 ⟨rfl, b3⟩
    go_wp2
    go_ret
    have s1 := b1.size
    have s2 := b2.size
    exact ⟨rfl, (b1.trans (b2.mono s1)).trans (b3.mono (by omega))⟩

set_option maxRecDepth 100000 in
set_option maxHeartbeats 800000 in
theorem fit_8n (n m x : Int) (w : World) (hT : Tab w) (hn : n ≤ 9223372036854775807) (hm : m ≤ 9223372036854775807) (hx1 : 0 ≤ x) (hx2 : x ≤ 255) (hx4 : x % 4 = 3) (hf : fitB n 8 = false) :
    Calls Tryd.prog 7 #[.int .i64 n, .int .i64 m, .int .u8 x] w fun e w' => e = .returned (.bool true) ∧ Below w.heap.size w w' := by
  have F := fitFacts 8 n m rfl
  have h1 := F.no hf
  have h0 : n < 0 := by
    have : ¬ (0 ≤ n ∧ n < 9223372036854775808) := fun h => by rw [fitB_iff.2 h] at hf; cases hf
    omega
  clear F hf 
  all_goals
    go_enter Tryd.func7, Tryd.ntmps7
    go_wp2_with fail
    refine (put_any n 8 _ hT hn).mono ?_
    rintro e w1 ⟨rfl, b1⟩
    have T1 := hT.below b1
    go_wp2_with fail
    refine (put_any m 8 _ T1 hm).mono ?_
    rintro e w2 ⟨rfl, b2⟩
    have T2 := T1.below b2
    generalize S (putL n 8) = p at *
    generalize S (putL m 8) = q at *
    go_wp2_with fail
    refine (does_any _ T2).mono ?_
    rintro e w3 ⟨rfl, b3⟩
    go_wp2
    go_ret
    have s1 := b1.size
    have s2 := b2.size
    exact ⟨rfl, (b1.trans (b2.mono s1)).trans (b3.mono (by omega))⟩

theorem fit_walk (n m x : Int) (w : World) (hT : Tab w) (hn : n ≤ 9223372036854775807) (hm : m ≤ 9223372036854775807) (hx1 : 0 ≤ x) (hx2 : x ≤ 255) :
    Calls Tryd.prog 7 #[.int .i64 n, .int .i64 m, .int .u8 x] w fun e w' => e = .returned (.bool true) ∧ Below w.heap.size w w' := by
  have h4 : x % 4 = 0 ∨ x % 4 = 1 ∨ x % 4 = 2 ∨ x % 4 = 3 := by omega
  rcases h4 with h | h | h | h
  · cases hf : fitB n 1 with
    | false => exact fit_1n n m x w hT hn hm hx1 hx2 h hf
    | true => cases hg : fitB m 1 with
      | false => exact fit_1yn n m x w hT hn hm hx1 hx2 h hf hg
      | true => exact fit_1yy n m x w hT hn hm hx1 hx2 h hf hg
  · cases hf : fitB n 2 with
    | false => exact fit_2n n m x w hT hn hm hx1 hx2 h hf
    | true => cases hg : fitB m 2 with
      | false => exact fit_2yn n m x w hT hn hm hx1 hx2 h hf hg
      | true => exact fit_2yy n m x w hT hn hm hx1 hx2 h hf hg
  · cases hf : fitB n 4 with
    | false => exact fit_4n n m x w hT hn hm hx1 hx2 h hf
    | true => cases hg : fitB m 4 with
      | false => exact fit_4yn n m x w hT hn hm hx1 hx2 h hf hg
      | true => exact fit_4yy n m x w hT hn hm hx1 hx2 h hf hg
  · cases hf : fitB n 8 with
    | false => exact fit_8n n m x w hT hn hm hx1 hx2 h hf
    | true => cases hg : fitB m 8 with
      | false => exact fit_8yn n m x w hT hn hm hx1 hx2 h hf hg
      | true => exact fit_8yy n m x w hT hn hm hx1 hx2 h hf hg
end Go.Proofs.YthefmkmgiblngaaDoor
