/- How an array of two small numbers, as an argument, is opened. -/
import Derived.Test.YtficmbaffkkfhaaDoorWo
import Derived.Deep.Slices
namespace Go.Proofs.YtficmbaffkkfhaaDoor
open Go.ChangeShapes Go.WideShapes Go.ChangeAt Go.RowKit

theorem okWide_ar2b {P : Program} {w : World} {r : Reach} {base n : Nat} {t e : TypeId} {v : Value} (ht : P.underlying t = some (.array n e)) (h : Value.okWide P w r base t v) : ∃ cs, v = .agg cs ∧ cs.size = P.cellsOf t := by
  unfold Value.okWide at h
  rw [ht] at h
  cases v <;> simp at h
  all_goals first | exact ⟨_, rfl, h.1⟩ | exact ⟨_, rfl, h⟩
theorem cells_u8x2 : Tryd.prog.cellsOf 47 = 2 := by kernel_rfl
theorem cells_u8w : Tryd.prog.cellsOf 5 = 1 := by kernel_rfl
set_option maxRecDepth 100000 in
theorem open_u8x2 {H : Type} {enc : TypeId × Value → H} {W : World} {base b0 : Nat} {held : Bool} {v : Value} {d : DataW H} {p : List MemPlace}
    (hval : Value.okWide Tryd.prog W .any base 47 v) (h : DataW.Trod enc Tryd.prog W b0 (fun _ => true) held 47 v d p) :
    ∃ x : Int × Int, v = .agg #[.int .u8 x.1, .int .u8 x.2] ∧ (0 ≤ x.1 ∧ x.1 ≤ 255) ∧ (0 ≤ x.2 ∧ x.2 ≤ 255) := by
  obtain ⟨cs, rfl, hsz⟩ := okWide_ar2b Tryd.underlying47 hval
  obtain ⟨fuel, hf⟩ := h
  obtain ⟨xs, m, _, _, hl, hxs, hall⟩ := DataW.trod_array Tryd.underlying47 (cs := cs.toList) (by simpa [Value.cells] using hf)
  rw [cells_u8x2] at hl
  obtain ⟨l⟩ := cs
  match l, hl with
  | [c0, c1], _ =>
    have g0 := hall 0 (by omega)
    have g1 := hall 1 (by omega)
    rw [cells_u8w] at g0 g1
    have e0 : DataW.trod enc Tryd.prog W b0 (fun _ => true) held m 5 [c0] = xs[0]? := g0
    have e1 : DataW.trod enc Tryd.prog W b0 (fun _ => true) held m 5 [c1] = xs[1]? := g1
    rw [List.getElem?_eq_getElem (by omega)] at e0 e1
    obtain ⟨q, hq, _, wq⟩ := DataW.trod_int (cs := [c0]) Tryd.underlying5 e0
    obtain ⟨r, hr, _, wr⟩ := DataW.trod_int (cs := [c1]) Tryd.underlying5 e1
    have bq := bounds_u8 wq
    have br := bounds_u8 wr
    refine ⟨(q, r), ?_, by simpa using bq, by simpa using br⟩
    rw [(List.cons.inj hq).1, (List.cons.inj hr).1]
end Go.Proofs.YtficmbaffkkfhaaDoor
