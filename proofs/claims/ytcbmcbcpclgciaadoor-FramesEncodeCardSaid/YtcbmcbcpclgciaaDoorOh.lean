/- How a frame, as an argument, is opened. -/
import Derived.Test.YtcbmcbcpclgciaaDoorO0
import Derived.Test.YtcbmcbcpclgciaaDoorFh
namespace Go.Proofs.YtcbmcbcpclgciaaDoor
open Go.ChangeShapes Go.WideShapes Go.ChangeAt Go.RowKit

theorem cells_fr : Tryd.prog.cellsOf 23 = 4 := by kernel_rfl
theorem cells_fu8 : Tryd.prog.cellsOf 5 = 1 := by kernel_rfl
theorem cells_fint : Tryd.prog.cellsOf 3 = 1 := by kernel_rfl
theorem cells_fstr : Tryd.prog.cellsOf 9 = 1 := by kernel_rfl
set_option maxRecDepth 100000 in
theorem fr_cells {H : Type} {enc : TypeId × Value → H} {W : World} {b0 fuel : Nat} {held : Bool} {cs : List Value} {y : DataW H × List MemPlace} (h : DataW.trod enc Tryd.prog W b0 (fun _ => true) held fuel 23 cs = some y) :
    ∃ f : Fr, cs = (frC f).toList := by
  obtain ⟨xs, n, _, rfl, hl, hlen, hf⟩ := DataW.trod_struct Tryd.underlying23 h
  rw [cells_fr] at hl
  match cs, hl with
  | [c0, c1, c2, c3], _ =>
    match xs, hlen with
    | [y0, y1, y2, y3], _ =>
      have f0 : DataW.trod enc Tryd.prog W b0 (fun _ => true) held n 5 [c0] = some y0 := by
        have g : DataW.trod enc Tryd.prog W b0 (fun _ => true) held n 5 (([c0, c1, c2, c3].drop 0).take (Tryd.prog.cellsOf 5)) = some y0 := hf 0 _ rfl
        rw [cells_fu8] at g
        exact g
      have f1 : DataW.trod enc Tryd.prog W b0 (fun _ => true) held n 3 [c1] = some y1 := by
        have g : DataW.trod enc Tryd.prog W b0 (fun _ => true) held n 3 (([c0, c1, c2, c3].drop 1).take (Tryd.prog.cellsOf 3)) = some y1 := hf 1 _ rfl
        rw [cells_fint] at g
        exact g
      have f2 : DataW.trod enc Tryd.prog W b0 (fun _ => true) held n 3 [c2] = some y2 := by
        have g : DataW.trod enc Tryd.prog W b0 (fun _ => true) held n 3 (([c0, c1, c2, c3].drop 2).take (Tryd.prog.cellsOf 3)) = some y2 := hf 2 _ rfl
        rw [cells_fint] at g
        exact g
      have f3 : DataW.trod enc Tryd.prog W b0 (fun _ => true) held n 9 [c3] = some y3 := by
        have g : DataW.trod enc Tryd.prog W b0 (fun _ => true) held n 9 (([c0, c1, c2, c3].drop 3).take (Tryd.prog.cellsOf 9)) = some y3 := hf 3 _ rfl
        rw [cells_fstr] at g
        exact g
      obtain ⟨q, hq, _, _⟩ := DataW.trod_int (fuel := n) (cs := [c0]) Tryd.underlying5 f0
      obtain ⟨i, hi, _, _⟩ := DataW.trod_int (fuel := n) (cs := [c1]) Tryd.underlying3 f1
      obtain ⟨m, hm, _, _⟩ := DataW.trod_int (fuel := n) (cs := [c2]) Tryd.underlying3 f2
      obtain ⟨s, hs, _, _⟩ := DataW.trod_string (fuel := n) (cs := [c3]) Tryd.underlying9 f3
      refine ⟨⟨q, i, m, s.data.toList⟩, ?_⟩
      have e0 : c0 = .int .u8 q := (List.cons.inj hq).1
      have e1 : c1 = .int .i64 i := (List.cons.inj hi).1
      have e2 : c2 = .int .i64 m := (List.cons.inj hm).1
      have e3 : c3 = .string (S s.data.toList) := by rw [S_data]; exact (List.cons.inj hs).1
      rw [e0, e1, e2, e3]
      rfl
set_option maxRecDepth 100000 in
theorem open_fr {H : Type} {enc : TypeId × Value → H} {W : World} {base b0 : Nat} {held : Bool} {v : Value} {d : DataW H} {p : List MemPlace}
    (hval : Value.okWide Tryd.prog W .any base 23 v) (h : DataW.Trod enc Tryd.prog W b0 (fun _ => true) held 23 v d p) :
    ∃ f : Fr, v = frV f := by
  obtain ⟨cs, rfl, hsz⟩ := okWide_struct Tryd.underlying23 hval
  obtain ⟨fuel, hf⟩ := h
  obtain ⟨f, hx⟩ := fr_cells (cs := cs.toList) (by simpa [Value.cells] using hf)
  exact ⟨f, by rw [frV_c, Array.toList_inj.1 hx]⟩
end Go.Proofs.YtcbmcbcpclgciaaDoor
