/- How a list of what is asked of a device, as an argument, is opened. -/
import Derived.Test.YthlaackalmgfnaaOd
namespace Go.Proofs.Ythlaackalmgfnaa
open Go.ChangeShapes Go.WideShapes Go.ChangeAt Go.RowKit

set_option maxRecDepth 100000 in
theorem dos_cells {H : Type} {enc : TypeId × Value → H} {W : World} {b0 fuel : Nat} {held : Bool} {c : Value} {y : DataW H × List MemPlace} (h : DataW.trod enc Try.prog W b0 (fun _ => true) held fuel 22 [c] = some y) :
    ∃ (a : Option Addr) (xs : List DoX) (cc : Nat), c = .slice a xs.length cc ∧ DosAt W a xs := by
  rcases DataW.trod_slice Try.underlying22 h with ⟨hcs, _⟩ | ⟨a, len, cap, elems, rest, n, _, hcs, _, hb, hl, hm, hlen, hel, hsp, hns⟩
  · obtain rfl : c = .slice none 0 0 := by simpa using hcs
    exact ⟨none, [], 0, rfl, fun j x hj => by simp at hj⟩
  · obtain rfl : c = .slice (some a) len cap := by simpa using hcs
    have each : ∀ i, i < len → ∃ cs x, W.cells? b0 (a.add (i * 5)) 5 = some cs ∧ cs = (DoX.v x).toList ∧ DoX.ok W x := fun i hi => by
      have h1 := hel i hi
      rw [cells_do, List.getElem?_eq_getElem (by omega)] at h1
      cases hc : W.cells? b0 (a.add (i * 5)) 5 with
      | none => rw [hc] at h1; cases h1
      | some cs =>
        rw [hc] at h1
        obtain ⟨x, hx1, hx2⟩ := do_cells (cs := cs) h1
        exact ⟨cs, x, rfl, hx1, hx2⟩
    refine ⟨some a, (List.range len).map fun i => if h : i < len then (each i h).choose_spec.choose else ⟨0, 0, 0, [], [], none, 0⟩, cap, by simp, fun j x hj => ?_⟩
    have hjl : j < len := by have := (List.getElem?_eq_some_iff.1 hj).1; simpa using this
    rw [List.getElem?_map, List.getElem?_range hjl] at hj
    simp only [Option.map_some, dif_pos hjl, Option.some.injEq] at hj
    obtain ⟨h1, h2, h3⟩ := (each j hjl).choose_spec.choose_spec
    rw [hj] at h2 h3
    refine ⟨h3, ?_⟩
    obtain ⟨b, off, spot⟩ := a
    obtain ⟨_, hcl, hcc⟩ := World.cells?_some h1
    rw [h2] at hcl hcc
    have hspot : spot = none := by
      obtain ⟨cs0, x0, g1, g2, _⟩ := each 0 (by omega)
      obtain ⟨_, _, gcc⟩ := World.cells?_some g1
      have c0 := gcc 0 (by omega)
      rw [g2, show x0.v.toList[0]? = some (Value.int .u8 (x0.q : Int)) from rfl] at c0
      simpa [Addr.add] using World.cell?_spot c0
    subst hspot
    refine ⟨b, off, rfl, fun i v hv => ?_⟩
    have hi : i < 5 := by have := (List.getElem?_eq_some_iff.1 hv).1; rw [DoX.size] at this; exact this
    have hc := hcc i hi
    rw [Addr.add_mid, Addr.add_mid] at hc
    rw [hc]; exact hv
set_option maxRecDepth 100000 in
theorem open_dos {H : Type} {enc : TypeId × Value → H} {W : World} {base b0 : Nat} {held : Bool} {v : Value} {d : DataW H} {p : List MemPlace}
    (_ : Value.okWide Try.prog W .any base 22 v) (h : DataW.Trod enc Try.prog W b0 (fun _ => true) held 22 v d p) :
    ∃ (a : Option Addr) (cc : Nat) (xs : List DoX), v = .slice a xs.length cc ∧ DosAt W a xs := by
  rename_i hval
  obtain ⟨a0, len, cap, rfl⟩ := okWide_slice Try.underlying22 hval
  obtain ⟨fuel, hf⟩ := h
  obtain ⟨a, xs, cc, h1, h2⟩ := dos_cells (c := .slice a0 len cap) (by simpa [Value.cells] using hf)
  exact ⟨a, cc, xs, h1, h2⟩
end Go.Proofs.Ythlaackalmgfnaa
