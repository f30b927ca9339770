/- How an argument that is a list of hashes is opened. -/
import Derived.Test.YtficmbaffkkfhaaDoorOa
import Derived.Test.YtficmbaffkkfhaaDoorW3
import Derived.Deep.Slices
import Derived.Deep.MidRow
namespace Go.Proofs.YtficmbaffkkfhaaDoor
open Go.ChangeShapes Go.WideShapes Go.ChangeAt Go.RowKit

theorem open_hs {H : Type} {enc : TypeId × Value → H} {W : World} {base b0 : Nat} {held : Bool} {v : Value} {d : DataW H} {p : List MemPlace}
    (hval : Value.okWide Tryd.prog W .any base 22 v) (h : DataW.Trod enc Tryd.prog W b0 (fun _ => true) held 22 v d p) :
    ∃ L : List (List UInt8), HsAt W v L ∧ ∀ a n c, v = .slice a n c → n ≤ c := by
  obtain ⟨a0, len, cap, rfl⟩ := okWide_slice Tryd.underlying22 hval
  obtain ⟨fuel, hf⟩ := h
  rcases Go.Deep.open_slice Tryd.underlying22 hf with ⟨hcs, _⟩ | ⟨x, l, c, m, n, D, Pl, hcs, _, hl, hm, hmm, _, hall⟩
  · simp [Value.cells] at hcs
    obtain ⟨rfl, rfl, rfl⟩ := hcs
    exact ⟨[], ⟨_, _, rfl, fun i x hx => by cases hx⟩, fun a n c e => by have := Value.slice.inj e; omega⟩
  · simp [Value.cells] at hcs
    obtain ⟨rfl, rfl, rfl⟩ := hcs
    have hm' : m = cap := by simpa using hmm
    rw [cells_h32t] at hall
    obtain ⟨g, hg⟩ := Go.Deep.choose_lt (α := List UInt8) (n := m) (p := fun i l => l.length = 32 ∧ ∀ j, j < 32 → W.cell? ((x.add (i * 32)).add j) = (l.map fun b => Value.int .u8 (b.toNat : Int))[j]?) (fun i hi => by
      obtain ⟨cs', h1, h2⟩ := hall i hi
      obtain ⟨l, hl, rfl⟩ := cells_bytes Tryd.underlying23 Tryd.underlying5 cells_u8t cells_h32t h2
      exact ⟨l, hl, (World.cells?_some h1).2.2⟩)
    refine ⟨(List.range len).map g, ⟨some x, cap, by simp, fun i y hy => ?_⟩, fun a n c e => by have := Value.slice.inj e; omega⟩
    have hi : i < len := by have := (List.getElem?_eq_some_iff.1 hy).1; simpa using this
    rw [List.getElem?_map, List.getElem?_range hi] at hy
    obtain rfl : g i = y := by simpa using hy
    have hgi := hg i (by omega)
    obtain ⟨b, off, spot⟩ := x
    have hg0 := hg 0 (by omega)
    have h0 := hg0.2 0 (by omega)
    rw [List.getElem?_eq_getElem (by simp [hg0.1])] at h0
    have hspot : spot = none := by simpa [Addr.add] using World.cell?_spot h0
    subst hspot
    refine ⟨hgi.1, b, off, rfl, fun j v hj => ?_⟩
    have hj' : (g i)[j]?.map (fun b => Value.int .u8 (b.toNat : Int)) = some v := by simpa [hv] using hj
    have hlt : j < 32 := by
      rcases Nat.lt_or_ge j 32 with h | h
      · exact h
      · rw [List.getElem?_eq_none (by omega)] at hj'; cases hj'
    have := hgi.2 j hlt
    rw [List.getElem?_map, hj'] at this
    rw [← this]
    congr 1
    rw [Go.Addr.add_mid, Go.Addr.add_mid]
end Go.Proofs.YtficmbaffkkfhaaDoor
