/- Tampered with: plainly. -/
import Derived.Test.YthlaackalmgfnabEt
import Derived.Test.YthlaackalmgfnabEv
namespace Go.Proofs.Ythlaackalmgfnab
open Go.RowKit

theorem crash_off {d : Dv} (hl : d.told.length = d.sure.length) (h : ∀ j : Nat, (∀ a ∈ d.acts, a.at_ ≠ j) → d.told[j]? = d.sure[j]?) (k : List Int) : (crashD d k).told = (crashD d k).sure := by
  apply List.ext_getElem?
  intro i
  refine (crashN_same d.sure d.told d.acts k hl i d.acts.length ?_).symm
  rcases on_or_off d.acts i with hi | hi
  · exact .inl (h i hi).symm
  · exact .inr hi
/-- A device one block of which was tampered with. -/
def tpD (d : Dv) (i : Nat) (b : Blk) : Dv := { d with sure := d.sure.set i b, told := d.told.set i b, acts := delA d.acts (i : Int) }
theorem tp_eq (d : Dv) (i : Nat) (hi : i < d.sure.length) (st : Int) (s : List UInt8) (b : Blk) (hb : blkOf st s = some b) : tamperD d (i : Int) st s = (0, tpD d i b) := by
  unfold tamperD
  rw [if_neg (fun h => h ⟨by omega, by omega⟩), hb]
  simp only [Int.toNat_natCast]
  rfl
theorem tp_crash {d : Dv} (h : Wf d) (i : Nat) (b : Blk) : (crashD (tpD d i b) []).sure = d.sure.set i b ∧ (crashD (tpD d i b) []).told = d.sure.set i b := by
  have e : (crashD (tpD d i b) []).sure = d.sure.set i b := crashN_nil _ _ _ _
  refine ⟨e, ?_⟩
  rw [crash_off (d := tpD d i b) (by simp [tpD, h.plain.len]) (fun j hj => ?_), e]
  show (d.told.set i b)[j]? = (d.sure.set i b)[j]?
  by_cases hij : i = j
  · subst hij
    rw [List.getElem?_set_self', List.getElem?_set_self']
    have := h.plain.len
    by_cases hl : i < d.sure.length
    · rw [List.getElem?_eq_getElem (by omega), List.getElem?_eq_getElem hl]; rfl
    · rw [List.getElem?_eq_none (by omega), List.getElem?_eq_none (by omega)]
  · rw [List.getElem?_set_ne hij, List.getElem?_set_ne hij]
    refine h.off j fun a ha e => ?_
    refine hj a ?_ e
    refine List.mem_filter.2 ⟨ha, ?_⟩
    unfold isAt
    rw [decide_eq_false (by omega)]; rfl
/-- The block that is asked for. -/
def blkD (st : Nat) (s : List UInt8) : Blk := ⟨st, if st = 1 then ofT s else fun _ => 0⟩
theorem blkOf_ok (st : Nat) (hst : st < 3) (s : List UInt8) (hs : s.length = 128) : blkOf (st : Int) (if st = 1 then s else []) = some (blkD st s) := by
  unfold blkOf blkD
  have : st = 0 ∨ st = 1 ∨ st = 2 := by omega
  rcases this with rfl | rfl | rfl
  · rfl
  · rw [if_pos ⟨rfl, by rw [if_pos rfl]; exact hs⟩, if_pos rfl]; rfl
  · rfl
theorem txB_blkD (st : Nat) (hst : st < 3) (s : List UInt8) (hs : s.length = 128) : txB (blkD st s) = if st = 1 then s else [] := by
  unfold txB blkD
  dsimp only
  by_cases h1 : st = 1
  · rw [if_neg (by omega), if_neg (by omega), if_pos h1, if_pos h1]
    exact txt_ofT s hs
  · rw [if_neg h1, if_neg h1]
    by_cases h0 : st = 0
    · rw [if_pos h0]
    · rw [if_neg h0, if_pos (by omega)]
end Go.Proofs.Ythlaackalmgfnab
