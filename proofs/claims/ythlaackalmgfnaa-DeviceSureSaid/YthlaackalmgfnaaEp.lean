/- What was flushed stays: plainly; rows of bools. -/
import Derived.Test.YthlaackalmgfnaaEv
namespace Go.Proofs.Ythlaackalmgfnaa
open Go.RowKit

def bv (l : List Bool) : Array Value := (l.map Value.bool).toArray
theorem bv_size (l : List Bool) : (bv l).size = l.length := by simp [bv]
theorem bv_get (l : List Bool) (i : Nat) (x : Bool) (h : l[i]? = some x) : (bv l)[i]? = some (.bool x) := by
  unfold bv
  rw [List.getElem?_toArray, List.getElem?_map, h]; rfl
theorem bv_set (l : List Bool) (i : Nat) (x : Bool) : (bv l).setIfInBounds i (.bool x) = bv (l.set i x) := by
  simp [bv, List.map_set]
theorem falses_made (n : Nat) : madeCells #[Value.bool false] n = bv (List.replicate n false) := by
  apply Array.toList_inj.1
  have h : ∀ n, (madeCells #[Value.bool false] n).toList = List.replicate n (.bool false) := fun n => by
    apply List.ext_getElem?
    intro i
    simp [madeCells]
    by_cases hi : i < n
    · simp [hi, Nat.mod_one]
    · simp [hi, Nat.mod_one]
  rw [h]
  simp [bv]
theorem mk_bools (n : Nat) (hn : n ≤ 1000000) (w : World) : (Instr.makeSlice 68 (.int .i64 (n : Int)) (.int .i64 (n : Int))).run Try.prog w = .ok (.slice (some ⟨w.heap.size, 0, none⟩) n n) (w.alloc (.cells (bv (List.replicate n false)) 4)) := by
  rw [← falses_made]
  exact run_make_row' 68 4 (.bool false) 1 Try.underlying68 (by kernel_rfl) rfl .i64 .i64 n (by omega) (by omega) w
/-- Behind a Flush, by writes and erasures; g: which blocks were asked to be erased. -/
structure Ph (s : List Blk) (g : List Bool) (st m : Nat) (d : Dv) : Prop where
  wf : Wf d
  sure : d.sure = s
  up : d.up = true
  starts : d.starts = st
  few : d.acts.length ≤ m
  len : g.length = s.length
  gone : ∀ i, Ac.er i ∈ d.acts → g[i]? = some true
def goneB (g : List Bool) (x : DoX) : List Bool := if (x.q % 13 = 5 ∨ x.q % 13 = 6) ∧ 0 ≤ x.i ∧ x.i < g.length then g.set x.i.toNat true else g
theorem goneB_len (g : List Bool) (x : DoX) : (goneB g x).length = g.length := by unfold goneB; split <;> simp
theorem goneB_mono (g : List Bool) (x : DoX) (i : Nat) (h : g[i]? = some true) : (goneB g x)[i]? = some true := by
  unfold goneB
  split
  · by_cases e : x.i.toNat = i
    · subst e
      rw [List.getElem?_set_self (List.getElem?_eq_some_iff.1 h).1]
    · rw [List.getElem?_set_ne e]; exact h
  · exact h
theorem Ph.step {s : List Blk} {g : List Bool} {st m : Nat} {d : Dv} (h : Ph s g st m d) (x : DoX) (hq : x.q % 13 < 7) : Ph s (goneB g x) st (m + 1) (withD d x).2 := by
  have same : Ph s (goneB g x) st (m + 1) d := ⟨h.wf, h.sure, h.up, h.starts, by have := h.few; omega, by rw [goneB_len]; exact h.len, fun i hi => goneB_mono g x i (h.gone i hi)⟩
  have wr : ∀ t, Ph s (goneB g x) st (m + 1) (writeD d x.i t).2 := fun t => by
    rcases h.wf.write x.i t with ⟨h1, _⟩ | ⟨h1, _, h3, h4, _, h6⟩
    · rw [h1]; exact same
    · rw [h1]
      refine ⟨h.wf.act (by show x.i.toNat < _; omega) h6, h.sure, h.up, h.starts, by show (d.acts ++ [_]).length ≤ _; have := h.few; simp; omega, same.len, fun i hi => ?_⟩
      rcases List.mem_append.1 hi with hi | hi
      · exact same.gone i hi
      · simp at hi
  unfold withD
  split
  · exact wr _
  · split
    · rename_i h5
      rcases h.wf.erase x.i with ⟨h1, _⟩ | ⟨h1, _, h3, h4, h6⟩
      · rw [h1]; exact same
      · rw [h1]
        refine ⟨h.wf.act (by show x.i.toNat < _; omega) h6, h.sure, h.up, h.starts, by show (d.acts ++ [_]).length ≤ _; have := h.few; simp; omega, same.len, fun i hi => ?_⟩
        rcases List.mem_append.1 hi with hi | hi
        · exact same.gone i hi
        · simp at hi
          have hl : x.i < g.length := by rw [h.len, ← h.sure]; exact h4
          unfold goneB
          rw [if_pos ⟨h5, h3, hl⟩, hi, List.getElem?_set_self (by omega)]
    · rw [if_neg (by omega), if_neg (by omega), if_neg (by omega), if_neg (by omega)]
      exact wr _
/-- What stays. -/
theorem Ph.stays {s : List Blk} {g : List Bool} {st m : Nat} {d : Dv} (h : Ph s g st m d) (k : List Int) (i : Nat) (b : Blk) (hb : s[i]? = some b) (hc : b.st = 2 ∨ b.st = 1 ∧ g[i]? = some false) : (crashD d k).told[i]? = some b := by
  have hs : (d.sure.getD i blank).st = b.st := by rw [h.sure, List.getD_eq_getElem?_getD, hb]; rfl
  have hno : ∀ a ∈ d.acts, a.at_ ≠ i := by
    rcases hc with h2 | ⟨h1, hg⟩
    · exact h.wf.lg.gone (by rw [hs, h2])
    · intro a ha e
      have := h.wf.lg.written (by rw [hs, h1]) a ha e
      subst this
      have := h.gone i ha
      rw [hg] at this
      cases this
  rw [h.wf.crash_eq k]
  show (crashN d.sure d.told d.acts k d.acts.length).1[i]? = _
  rw [(crashN_off d.sure d.told d.acts k i hno _).1, h.sure, hb]
theorem Ph.start {d : Dv} (h : Wf d) (hu : d.up = true) : Ph d.told (List.replicate d.told.length false) d.starts 0 (flD d) := ⟨flD_wf h, rfl, hu, rfl, Nat.le_refl _, by simp, fun i hi => by simp [flD] at hi⟩
end Go.Proofs.Ythlaackalmgfnaa
