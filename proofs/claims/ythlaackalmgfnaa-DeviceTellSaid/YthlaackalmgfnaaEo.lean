/- Crashes that keep all, or nothing; devices that tell the same. -/
import Derived.Test.YthlaackalmgfnaaEn
namespace Go.Proofs.Ythlaackalmgfnaa
open Go.RowKit

theorem set_getD (s : List Blk) (i : Nat) : s.set i (s.getD i blank) = s := by
  apply List.ext_getElem?
  intro j
  by_cases e : i = j
  · subst e
    rw [List.getElem?_set_self', List.getD_eq_getElem?_getD]
    cases s[i]? <;> rfl
  · rw [List.getElem?_set_ne e]
theorem keptB_0 (b : Blk) (x : Ac) : keptB b x 0 = b := by rcases x with ⟨⟨i, g⟩ | i⟩ <;> rfl
theorem crashN_nil (s t : List Blk) (acts : List Ac) : ∀ m, (crashN s t acts [] m).1 = s
  | 0 => rfl
  | m + 1 => by
    have ih := crashN_nil s t acts m
    cases hx : acts[m]? with
    | none => rw [crashN, hx]; exact ih
    | some x =>
      rw [crashN_succ s t acts [] m x hx _ rfl]
      show List.set _ _ _ = _
      rw [ih, show ([] : List Int).getD m 0 = 0 from rfl, keptB_0, set_getD]
theorem crashN_whole (s t : List Blk) (acts : List Ac) (k : List Int) (hk : ∀ m, m < acts.length → k.getD m 0 = 15) : ∀ m, m ≤ acts.length → (crashN s t acts k m).1 = tell s (acts.take m)
  | 0, _ => rfl
  | m + 1, h => by
    have ih := crashN_whole s t acts k hk m (by omega)
    have hx : acts[m]? = some acts[m] := List.getElem?_eq_getElem (by omega)
    rw [crashN_succ s t acts k m _ hx _ rfl, List.take_add_one, hx]
    show List.set _ _ _ = tell s (acts.take m ++ [acts[m]])
    rw [tell_snoc, ih, hk m (by omega)]
    rfl
theorem Wf.crash_nil {d : Dv} (h : Wf d) : (crashD d []).sure = d.sure ∧ (crashD d []).told = d.sure := by
  have e : (crashD d []).sure = d.sure := crashN_nil _ _ _ _
  exact ⟨e, by rw [h.crash_eq, e]⟩
theorem Wf.crash_whole {d : Dv} (h : Wf d) {k : List Int} (hk : ∀ m, m < d.acts.length → k.getD m 0 = 15) : (crashD d k).sure = d.told ∧ (crashD d k).told = d.told := by
  have e : (crashD d k).sure = d.told := by
    have := crashN_whole d.sure d.told d.acts k hk d.acts.length (Nat.le_refl _)
    rw [List.take_of_length_le (Nat.le_refl _), ← h.tl] at this
    exact this
  exact ⟨e, by rw [h.crash_eq, e]⟩
theorem crash_up {d : Dv} (hu : d.up = true) (k : List Int) : crashE d k = (0, crashD d k) := by unfold crashE; rw [if_neg (by rw [hu]; simp)]
/-- Started. -/
def stD (d : Dv) : Dv := { d with up := true, starts := d.starts + 1 }
theorem start_down {d : Dv} (hu : d.up = false) : startD d = (0, stD d) := by unfold startD; rw [if_neg (by rw [hu]; simp)]; rfl
theorem readD_congr {d e : Dv} (hu : d.up = e.up) (ht : d.told = e.told) (i : Int) : readD d i = readD e i := by unfold readD; rw [hu, ht]
theorem allD_congr {d e : Dv} (hu : d.up = e.up) (ht : d.told = e.told) (hl : d.sure.length = e.sure.length) : allD d = allD e := by
  unfold allD
  rw [hl]
  exact List.map_congr_left fun i _ => by rw [readD_congr hu ht]
theorem statesD_congr {d e : Dv} (ht : d.told = e.told) : statesD d = statesD e := by unfold statesD; rw [ht]
/-- A row of numbers is a list. -/
theorem Sys.rowInts {w : World} {ds : List (Nat × Dv)} {is : List (Value × List Int)} {ts : List (Value × List (List UInt8))} {rs : List (Nat × Obj)} {wr : World} (h : Sys w ds is ts rs wr) {g c : Nat} {l : List Int} {t : TypeId} (hr : (g, Obj.cells (iv l) t (0, 0)) ∈ rs) : Sys w ds ((.slice (some ⟨g, 0, none⟩) l.length c, l) :: is) ts rs wr := by
  obtain ⟨O, h⟩ := h
  obtain ⟨r1, r2, r3⟩ := h.rows _ _ hr
  refine ⟨O, { h with ints := fun v' l' hv => ?_ }⟩
  rcases List.mem_cons.1 hv with hv | hv
  · simp at hv
    obtain ⟨rfl, rfl⟩ := hv
    refine ⟨ints_row r1, fun b hb => ?_⟩
    obtain rfl : g = b := by simpa [Value.ownBlock] using hb
    exact ⟨r2, row_lt r1⟩
  · exact h.ints v' l' hv
end Go.Proofs.Ythlaackalmgfnaa
