/- How an argument that is a list of texts is opened, with the bound on its texts. -/
import Derived.Test.YtalofhnjlmgloaaDoorOs
namespace Go.Proofs.YtalofhnjlmgloaaDoor
open Go.ChangeShapes Go.WideShapes Go.ChangeAt Go.RowKit

/-- What is known of a list of texts that came in, text by text. -/
structure IsTexts (w : World) (a : Option Addr) (len : Nat) (g : Nat → List UInt8) : Prop where
  at0 : 0 < len → ∃ b off, a = some ⟨b, off, none⟩ ∧ ∀ i, i < len → w.cell? ⟨b, off + i, none⟩ = some (.string ⟨(g i).toArray⟩)
  small : ∀ i, i < len → (g i).length ≤ 140737488351232
theorem mem_strs {H : Type} (P : Program) (e : TypeId) : ∀ (ss : List ByteArray) (i : Nat), i < ss.length → (ss.getD i ByteArray.empty).data.toList.length ∈ DataW.weightsAll P e (strs (H := H) ss)
  | s :: ss, 0, _ => by
    show _ ∈ DataW.weightsAll P e ((.lit (.string s.data.toList)) :: strs ss)
    simp [DataW.weightsAll, DataW.weights]
  | s :: ss, i + 1, h => by
    have ih := mem_strs (H := H) P e ss i (by simpa using h)
    show _ ∈ DataW.weightsAll P e ((.lit (.string s.data.toList)) :: strs ss)
    simp only [DataW.weightsAll, List.mem_append]
    exact .inr (by simpa using ih)
theorem open_texts {H : Type} {enc : TypeId × Value → H} {W : World} {base b0 : Nat} {held : Bool} {v : Value} {d : DataW H} {p : List MemPlace}
    (hval : Value.okWide Tryd.prog W .any base 23 v) (h : DataW.Trod enc Tryd.prog W b0 (fun _ => true) held 23 v d p) (hw : ∀ n ∈ d.weights Tryd.prog 23, n ≤ reachBytes) :
    ∃ a len cap g, IsTexts W a len g ∧ v = .slice a len cap := by
  obtain ⟨a0, len, cap, rfl⟩ := okWide_slice Tryd.underlying23 hval
  obtain ⟨fuel, hf⟩ := h
  rcases open_strings Tryd.underlying23 Tryd.underlying9 (by kernel_rfl) hf with ⟨hcs, _⟩ | ⟨x, l, c, ss, hcs, _, hl, hm, hz, hd, hcell, hws⟩
  · simp [Value.cells] at hcs
    obtain ⟨rfl, rfl, rfl⟩ := hcs
    exact ⟨_, _, _, fun _ => [], ⟨fun h => by omega, fun i h => by omega⟩, rfl⟩
  · simp [Value.cells] at hcs
    obtain ⟨rfl, rfl, rfl⟩ := hcs
    have hz' : ss.length = cap := by simpa using hz
    have hd' : d = .slice (strs (ss.take len)) (strs (ss.drop len)) := by
      have := congrArg Prod.fst hd
      exact this
    refine ⟨_, _, _, fun i => (ss.getD i ByteArray.empty).data.toList, ⟨fun h => ?_, fun i hi => ?_⟩, rfl⟩
    · obtain ⟨b, off, spot⟩ := x
      have h0 := hcell 0 (by omega)
      have hspot : spot = none := by simpa [Addr.add] using World.cell?_spot h0
      subst hspot
      refine ⟨b, off, rfl, fun i hi => ?_⟩
      have := hcell i (by omega)
      have e2 : (⟨((ss.getD i ByteArray.empty).data.toList).toArray⟩ : ByteArray) = ss.getD i ByteArray.empty := by simp
      rw [e2]
      by_cases e : i = 0
      · subst e; simpa [Addr.add] using this
      · simpa [Addr.add, e] using this
    · have hmem := mem_strs (H := H) Tryd.prog 9 (ss.take len) i (by simp; omega)
      have e : (ss.take len).getD i ByteArray.empty = ss.getD i ByteArray.empty := by
        rw [List.getD_eq_getElem?_getD, List.getD_eq_getElem?_getD, List.getElem?_take, if_pos hi]
      rw [e] at hmem
      have := hw _ (by
        rw [hd']
        simp only [DataW.weights, Tryd.underlying23]
        exact List.mem_cons_of_mem _ (List.mem_append_left _ hmem))
      simpa [reachBytes] using this
end Go.Proofs.YtalofhnjlmgloaaDoor
