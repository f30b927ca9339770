/- How a list of small numbers, as an argument, is opened (layer 7). -/
import Derived.Test.YtbnfhhjgalphgaaO0
import Derived.Test.YtbnfhhjgalphgaaZk
namespace Go.Proofs.Ytbnfhhjgalphgaa
open Go.ChangeShapes Go.WideShapes Go.ChangeAt Go.RowKit

theorem cells_su8 : Try.prog.cellsOf 5 = 1 := by kernel_rfl
set_option maxRecDepth 100000 in
theorem open_u8s {H : Type} {enc : TypeId × Value → H} {W : World} {base b0 : Nat} {held : Bool} {v : Value} {d : DataW H} {p : List MemPlace}
    (hval : Value.okWide Try.prog W .any base 38 v) (h : DataW.Trod enc Try.prog W b0 (fun _ => true) held 38 v d p) :
    ∃ (a : Option Addr) (cc : Nat) (k : List Int), v = .slice a k.length cc ∧ U8At W (.slice a k.length cc) k := by
  obtain ⟨a0, len, cap, rfl⟩ := okWide_slice Try.underlying38 hval
  obtain ⟨fuel, hf⟩ := h
  have hf : DataW.trod enc Try.prog W b0 (fun _ => true) held fuel 38 [.slice a0 len cap] = some (d, p) := by simpa [Value.cells] using hf
  rcases open_ints Try.underlying38 Try.underlying5 cells_su8 hf with ⟨hcs, _⟩ | ⟨x, l, cc, zs, hcs, _, hl, hm, hz, _, hcell, hwz⟩
  · simp at hcs
    obtain ⟨rfl, rfl, rfl⟩ := hcs
    exact ⟨none, 0, [], rfl, fun x hx => by simp at hx, none, 0, rfl, fun i n hi => by simp at hi⟩
  · simp at hcs
    obtain ⟨rfl, rfl, rfl⟩ := hcs
    have hz' : zs.length = cap := by simpa using hz
    have hb : ∀ z ∈ zs, 0 ≤ z ∧ z < 256 := fun z hzz => by have := bounds_u8 (hwz z hzz); omega
    have hlt : (zs.take len).length = len := by rw [List.length_take, Nat.min_eq_left (by omega)]
    refine ⟨some x, cap, zs.take len, by rw [hlt], fun n hn => hb n (List.mem_of_mem_take hn), some x, cap, by rw [hlt], fun i n hi => ?_⟩
    have hil : i < len := by have := (List.getElem?_eq_some_iff.1 hi).1; omega
    obtain ⟨b, off, spot⟩ := x
    have h0 := hcell 0 (by omega)
    have hspot : spot = none := by simpa [Addr.add] using World.cell?_spot h0
    subst hspot
    refine ⟨b, off, rfl, ?_⟩
    have hc := hcell i (by omega)
    rw [List.getElem?_take, if_pos hil] at hi
    have e : zs.getD i 0 = n := by rw [List.getD_eq_getElem?_getD, hi]; rfl
    rw [e] at hc
    by_cases e0 : i = 0
    · subst e0; simpa [Addr.add] using hc
    · simpa [Addr.add, e0] using hc
end Go.Proofs.Ytbnfhhjgalphgaa
