/- How a claim, as an argument, is opened. -/
import Derived.Test.YtficmbaffkkfhaaDoorO9
import Derived.Test.YtficmbaffkkfhaaDoor11k
namespace Go.Proofs.YtficmbaffkkfhaaDoor
open Go.ChangeShapes Go.WideShapes Go.ChangeAt Go.RowKit

theorem cells_clm : Tryd.prog.cellsOf 31 = 67 := by kernel_rfl
theorem cells_ci : Tryd.prog.cellsOf 3 = 1 := by kernel_rfl
theorem cells_cs : Tryd.prog.cellsOf 22 = 1 := by kernel_rfl
theorem hs_cells {H : Type} {enc : TypeId × Value → H} {W : World} {b0 fuel : Nat} {held : Bool} {cs : List Value} {y : DataW H × List MemPlace} (hf : DataW.trod enc Tryd.prog W b0 (fun _ => true) held fuel 22 cs = some y) :
    ∃ (L : List (List UInt8)) (a : Option Addr) (c : Nat), cs = [.slice a L.length c] ∧ HsAt W (.slice a L.length c) L ∧ L.length ≤ c := by
  rcases Go.Deep.open_slice Tryd.underlying22 hf with ⟨hcs, _⟩ | ⟨x, l, c, m, n, D, Pl, hcs, _, hl, hm, hmm, _, hall⟩
  · exact ⟨[], none, 0, hcs, ⟨_, _, rfl, fun i x hx => by cases hx⟩, Nat.le_refl _⟩
  · have hm' : m = c := by simpa using hmm
    rw [cells_h32t] at hall
    obtain ⟨g, hg⟩ := Go.Deep.choose_lt (α := List UInt8) (n := m) (p := fun i l => l.length = 32 ∧ ∀ j, j < 32 → W.cell? ((x.add (i * 32)).add j) = (l.map fun b => Value.int .u8 (b.toNat : Int))[j]?) (fun i hi => by
      obtain ⟨cs', h1, h2⟩ := hall i hi
      obtain ⟨l, hl, rfl⟩ := cells_bytes Tryd.underlying23 Tryd.underlying5 cells_u8t cells_h32t h2
      exact ⟨l, hl, (World.cells?_some h1).2.2⟩)
    have hlen : ((List.range l).map g).length = l := by simp
    refine ⟨(List.range l).map g, some x, c, by rw [hlen]; exact hcs, ⟨some x, c, rfl, fun i y hy => ?_⟩, by rw [hlen]; omega⟩
    have hi : i < l := by have := (List.getElem?_eq_some_iff.1 hy).1; simpa using this
    rw [List.getElem?_map, List.getElem?_range hi] at hy
    obtain rfl : g i = y := by simpa using hy
    have hgi := hg i (by omega)
    obtain ⟨b, off, spot⟩ := x
    have hg0 := hg 0 (by omega)
    have h0 := hg0.2 0 (by omega)
    rw [List.getElem?_eq_getElem (by simp [hg0.1])] at h0
    have hspot : spot = none := by simpa [Addr.add] using World.cell?_spot h0
    subst hspot
    refine ⟨hgi.1, b, off, rfl, fun j v hj => ?_⟩
    have hj' : (g i)[j]?.map (fun b => Value.int .u8 (b.toNat : Int)) = some v := by simpa [hv] using hj
    have hlt : j < 32 := by
      rcases Nat.lt_or_ge j 32 with h | h
      · exact h
      · rw [List.getElem?_eq_none (by omega)] at hj'; cases hj'
    have := hgi.2 j hlt
    rw [List.getElem?_map, hj'] at this
    rw [← this]
    congr 1
    rw [Go.Addr.add_mid, Go.Addr.add_mid]
set_option maxRecDepth 100000 in
theorem cl_cells {H : Type} {enc : TypeId × Value → H} {W : World} {b0 fuel : Nat} {held : Bool} {cs : List Value} {y : DataW H × List MemPlace} (h : DataW.trod enc Tryd.prog W b0 (fun _ => true) held fuel 31 cs = some y) :
    ∃ (x r : List UInt8) (i n : Int) (P : List (List UInt8)) (a : Option Addr) (c : Nat), cs = (clC x r i n (.slice a P.length c)).toList ∧ x.length = 32 ∧ r.length = 32 ∧ n < 9223372036854775808 ∧ HsAt W (.slice a P.length c) P ∧ P.length ≤ c := by
  obtain ⟨xs, m, _, rfl, hl, hlen, hf⟩ := DataW.trod_struct Tryd.underlying31 h
  rw [cells_clm] at hl
  match xs, hlen with
  | [y0, y1, y2, y3, y4], _ =>
    have f0 : DataW.trod enc Tryd.prog W b0 (fun _ => true) held m 23 ((cs.drop 0).take (Tryd.prog.cellsOf 23)) = some y0 := hf 0 _ rfl
    have f1 : DataW.trod enc Tryd.prog W b0 (fun _ => true) held m 23 ((cs.drop 32).take (Tryd.prog.cellsOf 23)) = some y1 := hf 1 _ rfl
    have f2 : DataW.trod enc Tryd.prog W b0 (fun _ => true) held m 3 ((cs.drop 64).take (Tryd.prog.cellsOf 3)) = some y2 := hf 2 _ rfl
    have f3 : DataW.trod enc Tryd.prog W b0 (fun _ => true) held m 3 ((cs.drop 65).take (Tryd.prog.cellsOf 3)) = some y3 := hf 3 _ rfl
    have f4 : DataW.trod enc Tryd.prog W b0 (fun _ => true) held m 22 ((cs.drop 66).take (Tryd.prog.cellsOf 22)) = some y4 := hf 4 _ rfl
    rw [cells_h32t] at f0 f1
    rw [cells_ci] at f2 f3
    rw [cells_cs] at f4
    obtain ⟨x, hx, e0⟩ := cells_bytes Tryd.underlying23 Tryd.underlying5 cells_u8t cells_h32t f0
    obtain ⟨r, hr, e1⟩ := cells_bytes Tryd.underlying23 Tryd.underlying5 cells_u8t cells_h32t f1
    obtain ⟨i, e2, _, _⟩ := DataW.trod_int (fuel := m) Tryd.underlying3 f2
    obtain ⟨n, e3, _, w3⟩ := DataW.trod_int (fuel := m) Tryd.underlying3 f3
    obtain ⟨P, a, c, e4, hA, hc⟩ := hs_cells f4
    have bn := bounds_i64 w3
    refine ⟨x, r, i, n, P, a, c, ?_, hx, hr, by omega, hA, hc⟩
    have hs : cs = (cs.drop 0).take 32 ++ ((cs.drop 32).take 32 ++ ((cs.drop 64).take 1 ++ ((cs.drop 65).take 1 ++ (cs.drop 66).take 1))) := by
      have h5 : (cs.drop 66).take 1 = cs.drop 66 := List.take_of_length_le (by rw [List.length_drop]; omega)
      have h4 : (cs.drop 65).take 1 ++ cs.drop 66 = cs.drop 65 := by have := List.take_append_drop 1 (cs.drop 65); rwa [List.drop_drop] at this
      have h3 : (cs.drop 64).take 1 ++ cs.drop 65 = cs.drop 64 := by have := List.take_append_drop 1 (cs.drop 64); rwa [List.drop_drop] at this
      have h2 : (cs.drop 32).take 32 ++ cs.drop 64 = cs.drop 32 := by have := List.take_append_drop 32 (cs.drop 32); rwa [List.drop_drop] at this
      have h1 : (cs.drop 0).take 32 ++ cs.drop 32 = cs := by rw [List.drop_zero]; exact List.take_append_drop 32 cs
      rw [h5, h4, h3, h2, h1]
    rw [hs, e0, e1, e2, e3, e4]
    simp [clC, hv]
theorem open_claim {H : Type} {enc : TypeId × Value → H} {W : World} {base b0 : Nat} {held : Bool} {v : Value} {d : DataW H} {p : List MemPlace}
    (hval : Value.okWide Tryd.prog W .any base 31 v) (h : DataW.Trod enc Tryd.prog W b0 (fun _ => true) held 31 v d p) :
    ∃ (x r : List UInt8) (i n : Int) (P : List (List UInt8)) (a : Option Addr) (c : Nat), v = .agg (clC x r i n (.slice a P.length c)) ∧ x.length = 32 ∧ r.length = 32 ∧ n < 9223372036854775808 ∧ HsAt W (.slice a P.length c) P ∧ P.length ≤ c := by
  obtain ⟨cs, rfl, hsz⟩ := okWide_struct Tryd.underlying31 hval
  obtain ⟨fuel, hf⟩ := h
  obtain ⟨x, r, i, n, P, a, c, e, h1, h2, h3, h4, h5⟩ := cl_cells (cs := cs.toList) (by simpa [Value.cells] using hf)
  exact ⟨x, r, i, n, P, a, c, by rw [Array.toList_inj.1 e], h1, h2, h3, h4, h5⟩
end Go.Proofs.YtficmbaffkkfhaaDoor
