/- How an array of two numbers, as an argument, is opened. -/
import Derived.Test.YtalofhnjlmgloaaDoorO0
import Derived.Deep.Slices
namespace Go.Proofs.YtalofhnjlmgloaaDoor
open Go.ChangeShapes Go.WideShapes Go.ChangeAt Go.RowKit

theorem okWide_ar2 {P : Program} {w : World} {r : Reach} {base n : Nat} {t e : TypeId} {v : Value} (ht : P.underlying t = some (.array n e)) (h : Value.okWide P w r base t v) : ∃ cs, v = .agg cs ∧ cs.size = P.cellsOf t := by
  unfold Value.okWide at h
  rw [ht] at h
  cases v <;> simp at h
  all_goals first | exact ⟨_, rfl, h.1⟩ | exact ⟨_, rfl, h⟩
theorem cells_int2 : Tryd.prog.cellsOf 22 = 2 := by kernel_rfl
theorem cells_int : Tryd.prog.cellsOf 3 = 1 := by kernel_rfl
set_option maxRecDepth 100000 in
theorem open_int2 {H : Type} {enc : TypeId × Value → H} {W : World} {base b0 : Nat} {held : Bool} {v : Value} {d : DataW H} {p : List MemPlace}
    (hval : Value.okWide Tryd.prog W .any base 22 v) (h : DataW.Trod enc Tryd.prog W b0 (fun _ => true) held 22 v d p) :
    ∃ x : Int × Int, v = .agg #[.int .i64 x.1, .int .i64 x.2] ∧ (-9223372036854775808 ≤ x.1 ∧ x.1 ≤ 9223372036854775807) ∧ (-9223372036854775808 ≤ x.2 ∧ x.2 ≤ 9223372036854775807) := by
  obtain ⟨cs, rfl, hsz⟩ := okWide_ar2 Tryd.underlying22 hval
  obtain ⟨fuel, hf⟩ := h
  obtain ⟨xs, m, _, _, hl, hxs, hall⟩ := DataW.trod_array Tryd.underlying22 (cs := cs.toList) (by simpa [Value.cells] using hf)
  rw [cells_int2] at hl
  obtain ⟨l⟩ := cs
  match l, hl with
  | [c0, c1], _ =>
    have g0 := hall 0 (by omega)
    have g1 := hall 1 (by omega)
    rw [cells_int] at g0 g1
    have e0 : DataW.trod enc Tryd.prog W b0 (fun _ => true) held m 3 [c0] = xs[0]? := g0
    have e1 : DataW.trod enc Tryd.prog W b0 (fun _ => true) held m 3 [c1] = xs[1]? := g1
    rw [List.getElem?_eq_getElem (by omega)] at e0 e1
    obtain ⟨q, hq, _, wq⟩ := DataW.trod_int (cs := [c0]) Tryd.underlying3 e0
    obtain ⟨r, hr, _, wr⟩ := DataW.trod_int (cs := [c1]) Tryd.underlying3 e1
    have bq := bounds_i64 wq
    have br := bounds_i64 wr
    refine ⟨(q, r), ?_, by simpa using bq, by simpa using br⟩
    rw [(List.cons.inj hq).1, (List.cons.inj hr).1]
end Go.Proofs.YtalofhnjlmgloaaDoor
