/- How an array of three small numbers, as an argument, is opened. -/
import Derived.Test.YtalofhnjlmgloaaDoorO0
import Derived.Deep.Slices
namespace Go.Proofs.YtalofhnjlmgloaaDoor
open Go.ChangeShapes Go.WideShapes Go.ChangeAt Go.RowKit

theorem okWide_ar3b {P : Program} {w : World} {r : Reach} {base n : Nat} {t e : TypeId} {v : Value} (ht : P.underlying t = some (.array n e)) (h : Value.okWide P w r base t v) : ∃ cs, v = .agg cs ∧ cs.size = P.cellsOf t := by
  unfold Value.okWide at h
  rw [ht] at h
  cases v <;> simp at h
  all_goals first | exact ⟨_, rfl, h.1⟩ | exact ⟨_, rfl, h⟩
theorem cells_u8x3 : Tryd.prog.cellsOf 43 = 3 := by kernel_rfl
theorem cells_u8v : Tryd.prog.cellsOf 5 = 1 := by kernel_rfl
set_option maxRecDepth 100000 in
theorem open_u8x3 {H : Type} {enc : TypeId × Value → H} {W : World} {base b0 : Nat} {held : Bool} {v : Value} {d : DataW H} {p : List MemPlace}
    (hval : Value.okWide Tryd.prog W .any base 43 v) (h : DataW.Trod enc Tryd.prog W b0 (fun _ => true) held 43 v d p) :
    ∃ x : Int × Int × Int, v = .agg #[.int .u8 x.1, .int .u8 x.2.1, .int .u8 x.2.2] ∧ (0 ≤ x.1 ∧ x.1 ≤ 255) ∧ (0 ≤ x.2.1 ∧ x.2.1 ≤ 255) ∧ (0 ≤ x.2.2 ∧ x.2.2 ≤ 255) := by
  obtain ⟨cs, rfl, hsz⟩ := okWide_ar3b Tryd.underlying43 hval
  obtain ⟨fuel, hf⟩ := h
  obtain ⟨xs, m, _, _, hl, hxs, hall⟩ := DataW.trod_array Tryd.underlying43 (cs := cs.toList) (by simpa [Value.cells] using hf)
  rw [cells_u8x3] at hl
  obtain ⟨l⟩ := cs
  match l, hl with
  | [c0, c1, c2], _ =>
    have g0 := hall 0 (by omega)
    have g1 := hall 1 (by omega)
    have g2 := hall 2 (by omega)
    rw [cells_u8v] at g0 g1 g2
    have e0 : DataW.trod enc Tryd.prog W b0 (fun _ => true) held m 5 [c0] = xs[0]? := g0
    have e1 : DataW.trod enc Tryd.prog W b0 (fun _ => true) held m 5 [c1] = xs[1]? := g1
    have e2 : DataW.trod enc Tryd.prog W b0 (fun _ => true) held m 5 [c2] = xs[2]? := g2
    rw [List.getElem?_eq_getElem (by omega)] at e0 e1 e2
    obtain ⟨q, hq, _, wq⟩ := DataW.trod_int (cs := [c0]) Tryd.underlying5 e0
    obtain ⟨r, hr, _, wr⟩ := DataW.trod_int (cs := [c1]) Tryd.underlying5 e1
    obtain ⟨s, hs, _, ws⟩ := DataW.trod_int (cs := [c2]) Tryd.underlying5 e2
    have bq := bounds_u8 wq
    have br := bounds_u8 wr
    have bs := bounds_u8 ws
    refine ⟨(q, r, s), ?_, by simpa using bq, by simpa using br, by simpa using bs⟩
    rw [(List.cons.inj hq).1, (List.cons.inj hr).1, (List.cons.inj hs).1]
end Go.Proofs.YtalofhnjlmgloaaDoor
