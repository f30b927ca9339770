/- How arguments that are lists of numbers of 32 bits, or lists of hashes, are opened. -/
import Derived.Test.YthefmkmgiblngabDoorOa
import Derived.Deep.Slices
import Derived.Deep.MidRow
namespace Go.Proofs.YthefmkmgiblngabDoor
open Go.ChangeShapes Go.WideShapes Go.ChangeAt Go.RowKit

structure IsU32s (w : World) (a : Option Addr) (len : Nat) (f : Nat → Int) : Prop where
  at0 : 0 < len → ∃ b off, a = some ⟨b, off, none⟩ ∧ ∀ i, i < len → w.cell? ⟨b, off + i, none⟩ = some (.int .u32 (f i))
  small : ∀ i, i < len → 0 ≤ f i ∧ f i ≤ 4294967295
structure IsH32s (w : World) (a : Option Addr) (len : Nat) (g : Nat → List UInt8) : Prop where
  at0 : 0 < len → ∃ b off, a = some ⟨b, off, none⟩ ∧ b < w.heap.size ∧ ∀ i, i < len → w.rangeAt b (off + i * 32) (hv (g i)).toList
  full : ∀ i, i < len → (g i).length = 32

theorem open_u32s {H : Type} {enc : TypeId × Value → H} {W : World} {base b0 : Nat} {held : Bool} {v : Value} {d : DataW H} {p : List MemPlace}
    (hval : Value.okWide Tryd.prog W .any base 28 v) (h : DataW.Trod enc Tryd.prog W b0 (fun _ => true) held 28 v d p) :
    ∃ a len cap f, IsU32s W a len f ∧ v = .slice a len cap := by
  obtain ⟨a0, len, cap, rfl⟩ := okWide_slice Tryd.underlying28 hval
  obtain ⟨fuel, hf⟩ := h
  rcases open_ints Tryd.underlying28 Tryd.underlying31 (by kernel_rfl) hf with ⟨hcs, _⟩ | ⟨x, l, c, zs, hcs, _, hl, hm, hz, _, hcell, hwz⟩
  · simp [Value.cells] at hcs
    obtain ⟨rfl, rfl, rfl⟩ := hcs
    exact ⟨_, _, _, fun _ => 0, ⟨fun h => by omega, fun i h => by omega⟩, rfl⟩
  · simp [Value.cells] at hcs
    obtain ⟨rfl, rfl, rfl⟩ := hcs
    have hz' : zs.length = cap := by simpa using hz
    refine ⟨_, _, _, fun i => zs.getD i 0, ⟨fun h => ?_, fun i hi => ?_⟩, rfl⟩
    · obtain ⟨b, off, spot⟩ := x
      have h0 := hcell 0 (by omega)
      have hspot : spot = none := by simpa [Addr.add] using World.cell?_spot h0
      subst hspot
      refine ⟨b, off, rfl, fun i hi => ?_⟩
      have := hcell i (by omega)
      by_cases e : i = 0
      · subst e; simpa [Addr.add] using this
      · simpa [Addr.add, e] using this
    · have := bounds_u32 (hwz (zs.getD i 0) (by
        rw [List.getD_eq_getElem?_getD, List.getElem?_eq_getElem (by omega)]
        exact List.getElem_mem _))
      omega
theorem open_h32s {H : Type} {enc : TypeId × Value → H} {W : World} {base b0 : Nat} {held : Bool} {v : Value} {d : DataW H} {p : List MemPlace}
    (hval : Value.okWide Tryd.prog W .any base 29 v) (h : DataW.Trod enc Tryd.prog W b0 (fun _ => true) held 29 v d p) :
    ∃ a len cap g, IsH32s W a len g ∧ v = .slice a len cap := by
  obtain ⟨a0, len, cap, rfl⟩ := okWide_slice Tryd.underlying29 hval
  obtain ⟨fuel, hf⟩ := h
  rcases Go.Deep.open_slice Tryd.underlying29 hf with ⟨hcs, _⟩ | ⟨x, l, c, m, n, D, Pl, hcs, _, hl, hm, hmm, _, hall⟩
  · simp [Value.cells] at hcs
    obtain ⟨rfl, rfl, rfl⟩ := hcs
    exact ⟨_, _, _, fun _ => [], ⟨fun h => by omega, fun i h => by omega⟩, rfl⟩
  · simp [Value.cells] at hcs
    obtain ⟨rfl, rfl, rfl⟩ := hcs
    have hm' : m = cap := by simpa using hmm
    rw [cells_h32t] at hall
    obtain ⟨g, hg⟩ := Go.Deep.choose_lt (α := List UInt8) (n := m) (p := fun i l => l.length = 32 ∧ ∀ j, j < 32 → W.cell? ((x.add (i * 32)).add j) = (l.map fun b => Value.int .u8 (b.toNat : Int))[j]?) (fun i hi => by
      obtain ⟨cs', h1, h2⟩ := hall i hi
      obtain ⟨l, hl, rfl⟩ := cells_bytes Tryd.underlying33 Tryd.underlying5 cells_u8t cells_h32t h2
      exact ⟨l, hl, (World.cells?_some h1).2.2⟩)
    refine ⟨_, _, _, g, ⟨fun h => ?_, fun i hi => (hg i (by omega)).1⟩, rfl⟩
    obtain ⟨b, off, spot⟩ := x
    have hg0 := hg 0 (by omega)
    have h0 := hg0.2 0 (by omega)
    rw [List.getElem?_eq_getElem (by simp [hg0.1])] at h0
    have hspot : spot = none := by simpa [Addr.add] using World.cell?_spot h0
    subst hspot
    refine ⟨b, off, rfl, ?_, fun i hi j v hj => ?_⟩
    · have := block_lt_of_cell h0
      simpa [Addr.add] using this
    · have hgi := hg i (by omega)
      have hj' : (g i)[j]?.map (fun b => Value.int .u8 (b.toNat : Int)) = some v := by simpa [hv] using hj
      have hlt : j < 32 := by
        rcases Nat.lt_or_ge j 32 with h | h
        · exact h
        · rw [List.getElem?_eq_none (by omega)] at hj'; cases hj'
      have := hgi.2 j hlt
      rw [List.getElem?_map, hj'] at this
      rw [← this]
      congr 1
      rw [Go.Addr.add_mid, Go.Addr.add_mid]
end Go.Proofs.YthefmkmgiblngabDoor
