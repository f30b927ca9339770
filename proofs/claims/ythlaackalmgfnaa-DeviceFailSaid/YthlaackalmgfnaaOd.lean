/- How what is asked of a device, as an argument, is opened. -/
import Derived.Test.YthlaackalmgfnaaO0
import Derived.Test.YthlaackalmgfnaaEe
namespace Go.Proofs.Ythlaackalmgfnaa
open Go.ChangeShapes Go.WideShapes Go.ChangeAt Go.RowKit

theorem cells_do : Try.prog.cellsOf 37 = 5 := by kernel_rfl
theorem cells_du8 : Try.prog.cellsOf 5 = 1 := by kernel_rfl
theorem cells_dint : Try.prog.cellsOf 3 = 1 := by kernel_rfl
theorem cells_dstr : Try.prog.cellsOf 9 = 1 := by kernel_rfl
theorem cells_dints : Try.prog.cellsOf 31 = 1 := by kernel_rfl
/-- A list of numbers that came in. -/
theorem ints_cells {H : Type} {enc : TypeId × Value → H} {W : World} {b0 fuel : Nat} {held : Bool} {c : Value} {y : DataW H × List MemPlace} (h : DataW.trod enc Try.prog W b0 (fun _ => true) held fuel 31 [c] = some y) :
    ∃ (ka : Option Addr) (k : List Int) (kc : Nat), c = .slice ka k.length kc ∧ IntsAt W c k := by
  rcases open_ints Try.underlying31 Try.underlying3 cells_dint h with ⟨hcs, _⟩ | ⟨x, l, cc, zs, hcs, _, hl, hm, hz, _, hcell, hwz⟩
  · obtain rfl : c = .slice none 0 0 := by simpa using hcs
    exact ⟨none, [], 0, rfl, none, 0, rfl, fun i n hi => by simp at hi⟩
  · obtain rfl : c = .slice (some x) l cc := by simpa using hcs
    have hz' : zs.length = cc := by simpa using hz
    refine ⟨some x, zs.take l, cc, by rw [List.length_take, Nat.min_eq_left (by omega)], some x, cc, by rw [List.length_take, Nat.min_eq_left (by omega)], fun i n hi => ?_⟩
    have hil : i < l := by have := (List.getElem?_eq_some_iff.1 hi).1; simp at this; omega
    obtain ⟨b, off, spot⟩ := x
    have h0 := hcell 0 (by omega)
    have hspot : spot = none := by simpa [Addr.add] using World.cell?_spot h0
    subst hspot
    refine ⟨b, off, rfl, ?_⟩
    have hc := hcell i (by omega)
    rw [List.getElem?_take, if_pos hil] at hi
    have e : zs.getD i 0 = n := by rw [List.getD_eq_getElem?_getD, hi]; rfl
    rw [e] at hc
    by_cases e0 : i = 0
    · subst e0; simpa [Addr.add] using hc
    · simpa [Addr.add, e0] using hc
set_option maxRecDepth 100000 in
theorem do_cells {H : Type} {enc : TypeId × Value → H} {W : World} {b0 fuel : Nat} {held : Bool} {cs : List Value} {y : DataW H × List MemPlace} (h : DataW.trod enc Try.prog W b0 (fun _ => true) held fuel 37 cs = some y) :
    ∃ x : DoX, cs = x.v.toList ∧ x.ok W := by
  obtain ⟨xs, n, _, rfl, hl, hlen, hf⟩ := DataW.trod_struct Try.underlying37 h
  rw [cells_do] at hl
  match cs, hl with
  | [c0, c1, c2, c3, c4], _ =>
    match xs, hlen with
    | [y0, y1, y2, y3, y4], _ =>
      have f0 : DataW.trod enc Try.prog W b0 (fun _ => true) held n 5 [c0] = some y0 := by
        have g : DataW.trod enc Try.prog W b0 (fun _ => true) held n 5 (([c0, c1, c2, c3, c4].drop 0).take (Try.prog.cellsOf 5)) = some y0 := hf 0 _ rfl
        rw [cells_du8] at g
        exact g
      have f1 : DataW.trod enc Try.prog W b0 (fun _ => true) held n 3 [c1] = some y1 := by
        have g : DataW.trod enc Try.prog W b0 (fun _ => true) held n 3 (([c0, c1, c2, c3, c4].drop 1).take (Try.prog.cellsOf 3)) = some y1 := hf 1 _ rfl
        rw [cells_dint] at g
        exact g
      have f2 : DataW.trod enc Try.prog W b0 (fun _ => true) held n 3 [c2] = some y2 := by
        have g : DataW.trod enc Try.prog W b0 (fun _ => true) held n 3 (([c0, c1, c2, c3, c4].drop 2).take (Try.prog.cellsOf 3)) = some y2 := hf 2 _ rfl
        rw [cells_dint] at g
        exact g
      have f3 : DataW.trod enc Try.prog W b0 (fun _ => true) held n 9 [c3] = some y3 := by
        have g : DataW.trod enc Try.prog W b0 (fun _ => true) held n 9 (([c0, c1, c2, c3, c4].drop 3).take (Try.prog.cellsOf 9)) = some y3 := hf 3 _ rfl
        rw [cells_dstr] at g
        exact g
      have f4 : DataW.trod enc Try.prog W b0 (fun _ => true) held n 31 [c4] = some y4 := by
        have g : DataW.trod enc Try.prog W b0 (fun _ => true) held n 31 (([c0, c1, c2, c3, c4].drop 4).take (Try.prog.cellsOf 31)) = some y4 := hf 4 _ rfl
        rw [cells_dints] at g
        exact g
      obtain ⟨q, hq, _, wq⟩ := DataW.trod_int (fuel := n) (cs := [c0]) Try.underlying5 f0
      obtain ⟨i, hi, _, wi⟩ := DataW.trod_int (fuel := n) (cs := [c1]) Try.underlying3 f1
      obtain ⟨m, hm, _, wm⟩ := DataW.trod_int (fuel := n) (cs := [c2]) Try.underlying3 f2
      obtain ⟨s, hs, _, _⟩ := DataW.trod_string (fuel := n) (cs := [c3]) Try.underlying9 f3
      obtain ⟨ka, k, kc, hk, hki⟩ := ints_cells (fuel := n) (c := c4) f4
      have bq := bounds_u8 wq
      have bi := bounds_i64 wi
      have bm := bounds_i64 wm
      refine ⟨⟨q.toNat, i, m, s.data.toList, k, ka, kc⟩, ?_, ⟨by show q.toNat < 256; omega, by show i < _; omega, by show m < _; omega, ?_⟩⟩
      · have e0 : c0 = .int .u8 ((q.toNat : Nat) : Int) := by rw [show ((q.toNat : Nat) : Int) = q by omega]; exact (List.cons.inj hq).1
        have e1 : c1 = .int .i64 i := (List.cons.inj hi).1
        have e2 : c2 = .int .i64 m := (List.cons.inj hm).1
        have e3 : c3 = .string (S s.data.toList) := by rw [S_data]; exact (List.cons.inj hs).1
        rw [e0, e1, e2, e3, hk]
        rfl
      · rw [hk] at hki
        exact hki
set_option maxRecDepth 100000 in
theorem open_do {H : Type} {enc : TypeId × Value → H} {W : World} {base b0 : Nat} {held : Bool} {v : Value} {d : DataW H} {p : List MemPlace}
    (hval : Value.okWide Try.prog W .any base 37 v) (h : DataW.Trod enc Try.prog W b0 (fun _ => true) held 37 v d p) :
    ∃ x : DoX, v = .agg x.v ∧ x.ok W := by
  obtain ⟨cs, rfl, hsz⟩ := okWide_struct Try.underlying37 hval
  obtain ⟨fuel, hf⟩ := h
  obtain ⟨x, hx, hok⟩ := do_cells (cs := cs.toList) (by simpa [Value.cells] using hf)
  exact ⟨x, by rw [Array.toList_inj.1 hx], hok⟩
end Go.Proofs.Ythlaackalmgfnaa
