/- Contracts of New, Clone, States. -/
import Derived.Test.YtdjjhiamiaialaaDoorKp
namespace Go.Proofs.YtdjjhiamiaialaaDoor
open Go.RowKit

theorem new_bad (n : Int) (hn : n < 4 ∨ 512 < n) (w : World) : Calls Tryd.prog 6 #[.int .i64 n] w fun e w' => e = .returned (.tuple #[.pointer none, .int .i64 2]) ∧ w' = w := by
  by_cases h : n < 4
  · go_enter Tryd.func6, Tryd.ntmps6
    go_wp2
    go_ret2
    exact ⟨rfl, rfl⟩
  · have h2 : 512 < n := by omega
    clear hn
    go_enter Tryd.func6, Tryd.ntmps6
    go_wp2
    go_ret2
    exact ⟨rfl, rfl⟩
set_option maxRecDepth 100000 in
theorem new_ok (n : Nat) (h4 : 4 ≤ n) (h5 : n ≤ 512) (w : World) : Calls Tryd.prog 6 #[.int .i64 (n : Int)] w fun e w' => ∃ p, e = .returned (.tuple #[.pointer (some ⟨p, 0, none⟩), .int .i64 0]) ∧ Dev w' p (newD n) (fun k => w.heap.size ≤ k ∧ k < w'.heap.size) ∧ Below w.heap.size w w' := by
  obtain ⟨ia, i1, i2, i3, i4⟩ := info_block
  have hmk0 := run_makeSlice (P := Tryd.prog) w 47 50 ia (.agg (bc blank).toArray) Tryd.underlying47 i1 i2 .i64 .i64 n n (by omega) (by omega) (by rw [i3, Int.toNat_natCast]; omega) (by rw [i4]; omega) (by omega)
  rw [i3, Int.toNat_natCast] at hmk0
  obtain ⟨Z, hZ⟩ : ∃ Z, madeCells (bc blank).toArray (n * 129) = Z := ⟨_, rfl⟩
  have hmk : (Instr.makeSlice 47 (.int .i64 (n : Int)) (.int .i64 (n : Int))).run Tryd.prog w = .ok (.slice (some ⟨w.heap.size, 0, none⟩) n n) (w.alloc (.cells Z 50)) := by rw [← hZ]; exact hmk0
  have hR : Rw (w.alloc (.cells Z 50)) w.heap.size 50 (rc (List.replicate n blank)) := ⟨Z, heap_alloc_last _ _, [], by rw [← hZ, made_blocks, List.append_nil]⟩
  have hrun := running_any (c := n) hR (by simpa using h5) (by simp; omega)
  simp only [List.length_replicate] at hrun
  have HRun : Hid (Calls Tryd.prog 19 #[.slice (some ⟨w.heap.size, 0, none⟩) n n] (w.alloc (.cells Z 50)) fun e w' => ∃ p, e = .returned (.pointer (some ⟨p, 0, none⟩)) ∧ Dev w' p (newD n) (fun k => w.heap.size ≤ k ∧ k < w'.heap.size) ∧ Below w.heap.size w w') := by
    refine hrun.mono ?_
    rintro e w' ⟨p, rfl, h1, h2, _⟩
    have hs := h2.size
    simp at hs
    refine ⟨p, rfl, h1.mono fun k hk => ?_, ((Below.refl _ _).alloc (Nat.le_refl _) _).trans (h2.mono (by simp))⟩
    rcases hk with hk | hk
    · subst hk; exact ⟨Nat.le_refl _, by omega⟩
    · have := hk.1; simp at this; exact ⟨by omega, hk.2⟩
  clear hrun hR i1 i2 i3 i4 hZ hmk0
  have t1 : ¬ (n : Int) < 4 := by omega
  have t2 : ¬ (512 : Int) < (n : Int) := by omega
  clear h4 h5
  go_enter Tryd.func6, Tryd.ntmps6
  go_wp2_with fail
  refine HRun.out.mono ?_
  rintro e w1 ⟨p, rfl, h1⟩
  have H1 : Hid _ := h1
  clear h1 HRun hmk
  go_wp2
  go_ret2
  exact ⟨p, rfl, H1.out⟩
end Go.Proofs.YtdjjhiamiaialaaDoor
