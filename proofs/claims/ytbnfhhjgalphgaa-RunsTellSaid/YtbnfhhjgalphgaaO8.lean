/- How a list of numbers, a run, a list of runs, as arguments, are opened (layer 7). -/
import Derived.Test.YtbnfhhjgalphgaaO0
import Derived.Test.YtbnfhhjgalphgaaY1
namespace Go.Proofs.Ytbnfhhjgalphgaa
open Go.ChangeShapes Go.WideShapes Go.ChangeAt Go.RowKit

theorem cells_nint : Try.prog.cellsOf 3 = 1 := by kernel_rfl
theorem cells_run : Try.prog.cellsOf 24 = 2 := by kernel_rfl
set_option maxRecDepth 100000 in
theorem open_nums {H : Type} {enc : TypeId × Value → H} {W : World} {base b0 : Nat} {held : Bool} {v : Value} {d : DataW H} {p : List MemPlace}
    (hval : Value.okWide Try.prog W .any base 35 v) (h : DataW.Trod enc Try.prog W b0 (fun _ => true) held 35 v d p) :
    ∃ (a : Option Addr) (cc : Nat) (k : List Int), v = .slice a k.length cc ∧ NumsAt W (.slice a k.length cc) k ∧ k.length ≤ cc := by
  obtain ⟨a0, len, cap, rfl⟩ := okWide_slice Try.underlying35 hval
  obtain ⟨fuel, hf⟩ := h
  have hf : DataW.trod enc Try.prog W b0 (fun _ => true) held fuel 35 [.slice a0 len cap] = some (d, p) := by simpa [Value.cells] using hf
  rcases open_ints Try.underlying35 Try.underlying3 cells_nint hf with ⟨hcs, _⟩ | ⟨x, l, cc, zs, hcs, _, hl, hm, hz, _, hcell, hwz⟩
  · simp at hcs
    obtain ⟨rfl, rfl, rfl⟩ := hcs
    exact ⟨none, 0, [], rfl, ⟨none, 0, rfl, fun i n hi => by simp at hi⟩, by simp⟩
  · simp at hcs
    obtain ⟨rfl, rfl, rfl⟩ := hcs
    have hz' : zs.length = cap := by simpa using hz
    have hlt : (zs.take len).length = len := by rw [List.length_take, Nat.min_eq_left (by omega)]
    refine ⟨some x, cap, zs.take len, by rw [hlt], ⟨some x, cap, by rw [hlt], fun i n hi => ?_⟩, by omega⟩
    have hil : i < len := by have := (List.getElem?_eq_some_iff.1 hi).1; omega
    obtain ⟨b, off, spot⟩ := x
    have h0 := hcell 0 (by omega)
    have hspot : spot = none := by simpa [Addr.add] using World.cell?_spot h0
    subst hspot
    refine ⟨b, off, rfl, ?_⟩
    have hc := hcell i (by omega)
    rw [List.getElem?_take, if_pos hil] at hi
    have e : zs.getD i 0 = n := by rw [List.getD_eq_getElem?_getD, hi]; rfl
    rw [e] at hc
    by_cases e0 : i = 0
    · subst e0; simpa [Addr.add] using hc
    · simpa [Addr.add, e0] using hc
def fit1 (r : Rn) : Prop := (-9223372036854775808 ≤ r.s ∧ r.s < 9223372036854775808) ∧ (-9223372036854775808 ≤ r.c ∧ r.c < 9223372036854775808)
set_option maxRecDepth 100000 in
theorem run_cells {H : Type} {enc : TypeId × Value → H} {W : World} {b0 fuel : Nat} {held : Bool} {cs : List Value} {y : DataW H × List MemPlace} (h : DataW.trod enc Try.prog W b0 (fun _ => true) held fuel 24 cs = some y) :
    ∃ r : Rn, cs = [.int .i64 r.s, .int .i64 r.c] ∧ fit1 r := by
  obtain ⟨xs, n, _, rfl, hl, hlen, hf⟩ := DataW.trod_struct Try.underlying24 h
  rw [cells_run] at hl
  match cs, hl with
  | [c0, c1], _ =>
    match xs, hlen with
    | [y0, y1], _ =>
      have f0 : DataW.trod enc Try.prog W b0 (fun _ => true) held n 3 [c0] = some y0 := by
        have g : DataW.trod enc Try.prog W b0 (fun _ => true) held n 3 (([c0, c1].drop 0).take (Try.prog.cellsOf 3)) = some y0 := hf 0 _ rfl
        rw [cells_nint] at g
        exact g
      have f1 : DataW.trod enc Try.prog W b0 (fun _ => true) held n 3 [c1] = some y1 := by
        have g : DataW.trod enc Try.prog W b0 (fun _ => true) held n 3 (([c0, c1].drop 1).take (Try.prog.cellsOf 3)) = some y1 := hf 1 _ rfl
        rw [cells_nint] at g
        exact g
      obtain ⟨i, hi, _, wi⟩ := DataW.trod_int (fuel := n) (cs := [c0]) Try.underlying3 f0
      obtain ⟨m, hm, _, wm⟩ := DataW.trod_int (fuel := n) (cs := [c1]) Try.underlying3 f1
      have bi := bounds_i64 wi
      have bm := bounds_i64 wm
      refine ⟨⟨i, m⟩, ?_, ⟨⟨by show _ ≤ i; omega, by show i < _; omega⟩, ⟨by show _ ≤ m; omega, by show m < _; omega⟩⟩⟩
      rw [(List.cons.inj hi).1, (List.cons.inj hm).1]
set_option maxRecDepth 100000 in
theorem open_run {H : Type} {enc : TypeId × Value → H} {W : World} {base b0 : Nat} {held : Bool} {v : Value} {d : DataW H} {p : List MemPlace}
    (hval : Value.okWide Try.prog W .any base 24 v) (h : DataW.Trod enc Try.prog W b0 (fun _ => true) held 24 v d p) :
    ∃ r : Rn, v = .agg #[.int .i64 r.s, .int .i64 r.c] ∧ fit1 r := by
  obtain ⟨cs, rfl, hsz⟩ := okWide_struct Try.underlying24 hval
  obtain ⟨fuel, hf⟩ := h
  obtain ⟨x, hx, hok⟩ := run_cells (cs := cs.toList) (by simpa [Value.cells] using hf)
  exact ⟨x, by rw [show cs = #[.int .i64 x.s, .int .i64 x.c] from Array.toList_inj.1 hx], hok⟩
set_option maxRecDepth 100000 in
theorem open_runs {H : Type} {enc : TypeId × Value → H} {W : World} {base b0 : Nat} {held : Bool} {v : Value} {d : DataW H} {p : List MemPlace}
    (hval : Value.okWide Try.prog W .any base 22 v) (h : DataW.Trod enc Try.prog W b0 (fun _ => true) held 22 v d p) :
    ∃ (a : Option Addr) (cc : Nat) (l : List Rn), v = .slice a l.length cc ∧ RunsAt W (.slice a l.length cc) l ∧ fitR l ∧ l.length ≤ cc := by
  obtain ⟨a0, len, cap, rfl⟩ := okWide_slice Try.underlying22 hval
  obtain ⟨fuel, hf⟩ := h
  have hf : DataW.trod enc Try.prog W b0 (fun _ => true) held fuel 22 [.slice a0 len cap] = some (d, p) := by simpa [Value.cells] using hf
  rcases DataW.trod_slice Try.underlying22 hf with ⟨hcs, _⟩ | ⟨a, len', cap', elems, rest, n, _, hcs, _, hb, hl, hm, hlen, hel, hsp, hns⟩
  · simp at hcs
    obtain ⟨rfl, rfl, rfl⟩ := hcs
    exact ⟨none, 0, [], rfl, ⟨none, 0, rfl, fun j x hj => by simp at hj⟩, fun r hr => (by cases hr), by simp⟩
  · simp at hcs
    obtain ⟨rfl, rfl, rfl⟩ := hcs
    have each : ∀ i, i < len → ∃ cs, ∃ x : Rn, W.cells? b0 (a.add (i * 2)) 2 = some cs ∧ cs = [.int .i64 x.s, .int .i64 x.c] ∧ fit1 x := fun i hi => by
      have h1 := hel i hi
      rw [cells_run, List.getElem?_eq_getElem (by omega)] at h1
      cases hc : W.cells? b0 (a.add (i * 2)) 2 with
      | none => rw [hc] at h1; cases h1
      | some cs =>
        rw [hc] at h1
        obtain ⟨x, hx1, hx2⟩ := run_cells (cs := cs) h1
        exact ⟨cs, x, rfl, hx1, hx2⟩
    obtain ⟨L, hLl, hL⟩ : ∃ L : List Rn, L.length = len ∧ ∀ i x, L[i]? = some x → ∃ cs, W.cells? b0 (a.add (i * 2)) 2 = some cs ∧ cs = [.int .i64 x.s, .int .i64 x.c] ∧ fit1 x := by
      refine ⟨(List.range len).map fun i => if h : i < len then (each i h).choose_spec.choose else ⟨0, 0⟩, by simp, fun j x hj => ?_⟩
      have hjl : j < len := by have := (List.getElem?_eq_some_iff.1 hj).1; simpa using this
      rw [List.getElem?_map, List.getElem?_range hjl] at hj
      simp only [Option.map_some, dif_pos hjl, Option.some.injEq] at hj
      have hh := (each j hjl).choose_spec.choose_spec
      rw [hj] at hh
      exact ⟨_, hh⟩
    subst hLl
    refine ⟨some a, cap, L, rfl, ⟨some a, cap, rfl, fun j x hj => ?_⟩, fun r hr => ?_, by omega⟩
    · obtain ⟨cs, h1, h2, h3⟩ := hL j x hj
      obtain ⟨b, off, spot⟩ := a
      obtain ⟨_, hcl, hcc⟩ := World.cells?_some h1
      rw [h2] at hcc
      have c0 := hcc 0 (by omega)
      have c1 := hcc 1 (by omega)
      have hspot : spot = none := by
        obtain ⟨cs0, x0, g1, g2, _⟩ := each 0 (by have := (List.getElem?_eq_some_iff.1 hj).1; omega)
        obtain ⟨_, _, gcc⟩ := World.cells?_some g1
        have c0 := gcc 0 (by omega)
        rw [g2, show ([Value.int .i64 x0.s, .int .i64 x0.c])[0]? = some (Value.int .i64 x0.s) from rfl] at c0
        simpa [Addr.add] using World.cell?_spot c0
      subst hspot
      rw [Addr.add_mid, Addr.add_mid] at c0 c1
      exact ⟨b, off, rfl, c0, c1⟩
    · obtain ⟨j, hj⟩ := List.getElem?_of_mem hr
      obtain ⟨_, _, _, h3⟩ := hL j r hj
      exact h3
end Go.Proofs.Ytbnfhhjgalphgaa
