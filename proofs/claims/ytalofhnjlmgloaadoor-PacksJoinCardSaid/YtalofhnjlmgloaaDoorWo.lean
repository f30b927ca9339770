/- A list of texts that came in, as a list. -/
import Derived.Test.YtalofhnjlmgloaaDoorRows
import Derived.Test.YtalofhnjlmgloaaDoorChecked
import Derived.ProofKit
import Derived.OpenShut
import Derived.ShutString
import Derived.ChangeOld
import Derived.SizedLaws
import Derived.Deep.DeepHandedRow
import Derived.Lib.LaidTab
import Derived.Test.YtalofhnjlmgloaaDoorVa
import Derived.Test.YtalofhnjlmgloaaDoorCa
import Derived.Stop.LaidErr
import Derived.SliceStrings
import Derived.Test.YtalofhnjlmgloaaDoorTx
/- How a row is opened: what every seat needs. -/
namespace Go.Proofs.YtalofhnjlmgloaaDoor
open Go.ChangeShapes Go.WideShapes Go.ChangeAt Go.RowKit

theorem own : ownKnob Tryd.prog.godebug = none := by kernel_rfl
theorem laidOut : laidOutB Tryd.prog = true := by kernel_rfl
end Go.Proofs.YtalofhnjlmgloaaDoor

/- The table of sizes as the row lists it. -/
namespace Go.Proofs.YtalofhnjlmgloaaDoor
open Go.ChangeShapes Go.WideShapes Go.ChangeAt Go.RowKit

theorem gTab : Tryd.prog.globalNamed "sealingwax/words.sizes" = some 0 := by kernel_rfl
theorem tab {W : World} (h : Lib.TabIs Tryd.prog W "sealingwax/words.sizes" .i64 [1, 2, 4, 8]) : Tab W := by
  unfold Lib.TabIs World.var? at h
  rw [gTab] at h
  simp only [Option.bind_some] at h
  split at h
  · rename_i cs t fr hh
    obtain rfl := Option.some.inj h
    exact ⟨t, fr, hh⟩
  · cases h
end Go.Proofs.YtalofhnjlmgloaaDoor

/- The table of sixteen as the rows list it. -/
namespace Go.Proofs.YtalofhnjlmgloaaDoor
open Go.ChangeShapes Go.WideShapes Go.ChangeAt Go.RowKit

abbrev t4Ints : List Int := [0, 498536548, 997073096, 651767980, 1994146192, 1802195444, 1303535960, 1342533948, 3988292384, 4027552580, 3604390888, 3412177804, 2607071920, 2262029012, 2685067896, 3183342108]
abbrev t4Vals : Array Value := #[.int .u32 0, .int .u32 498536548, .int .u32 997073096, .int .u32 651767980, .int .u32 1994146192, .int .u32 1802195444, .int .u32 1303535960, .int .u32 1342533948, .int .u32 3988292384, .int .u32 4027552580, .int .u32 3604390888, .int .u32 3412177804, .int .u32 2607071920, .int .u32 2262029012, .int .u32 2685067896, .int .u32 3183342108]
theorem t4Ints_cells : (t4Ints.map fun z => Value.int .u32 z).toArray = cf 16 t4 := by kernel_rfl
theorem g4 : Tryd.prog.globalNamed "sealingwax/sums.byFour" = some 1 := by kernel_rfl
theorem tab4 {W : World} (h : Lib.TabIs Tryd.prog W "sealingwax/sums.byFour" .u32 t4Ints) : Tab4 W := by
  unfold Lib.TabIs World.var? at h
  rw [g4, t4Ints_cells] at h
  simp only [Option.bind_some] at h
  split at h
  · rename_i cs t fr hh
    obtain rfl := Option.some.inj h
    exact ⟨t, fr, hh⟩
  · cases h
end Go.Proofs.YtalofhnjlmgloaaDoor

/- Both tables, of sizes and of sixteen, as the rows list them. -/

/- How an argument that is a list of texts is opened. -/
namespace Go.Proofs.YtalofhnjlmgloaaDoor
open Go.ChangeShapes Go.WideShapes Go.ChangeAt Go.RowKit

/-- What is known of a list of texts that came in. -/
structure IsStrs (w : World) (a : Option Addr) (len : Nat) (ss : List ByteArray) : Prop where
  enough : len ≤ ss.length
  at0 : 0 < len → ∃ b off, a = some ⟨b, off, none⟩ ∧ ∀ i, i < len → w.cell? ⟨b, off + i, none⟩ = some (.string (ss.getD i ByteArray.empty))
  small : ∀ i, i < len → (ss.getD i ByteArray.empty).size ≤ 9223372036854775807

theorem open_strs {H : Type} {enc : TypeId × Value → H} {W : World} {base b0 : Nat} {held : Bool} {v : Value} {d : DataW H} {p : List MemPlace}
    (hval : Value.okWide Tryd.prog W .any base 23 v) (h : DataW.Trod enc Tryd.prog W b0 (fun _ => true) held 23 v d p) :
    ∃ a len cap ss, IsStrs W a len ss ∧ v = .slice a len cap := by
  obtain ⟨a0, len, cap, rfl⟩ := okWide_slice Tryd.underlying23 hval
  obtain ⟨fuel, hf⟩ := h
  rcases open_strings Tryd.underlying23 Tryd.underlying9 (by kernel_rfl) hf with ⟨hcs, _⟩ | ⟨x, l, c, ss, hcs, _, hl, hm, hz, _, hcell, hws⟩
  · simp [Value.cells] at hcs
    obtain ⟨rfl, rfl, rfl⟩ := hcs
    exact ⟨_, _, _, [], ⟨Nat.zero_le _, fun h => by omega, fun i h => by omega⟩, rfl⟩
  · simp [Value.cells] at hcs
    obtain ⟨rfl, rfl, rfl⟩ := hcs
    have hz' : ss.length = cap := by simpa using hz
    refine ⟨_, _, _, ss, ⟨by omega, fun h => ?_, fun i hi => ?_⟩, rfl⟩
    · obtain ⟨b, off, spot⟩ := x
      have h0 := hcell 0 (by omega)
      have hspot : spot = none := by simpa [Addr.add] using World.cell?_spot h0
      subst hspot
      refine ⟨b, off, rfl, fun i hi => ?_⟩
      have := hcell i (by omega)
      by_cases e : i = 0
      · subst e; simpa [Addr.add] using this
      · simpa [Addr.add, e] using this
    · have := hws (ss.getD i ByteArray.empty) (by
        rw [List.getD_eq_getElem?_getD, List.getElem?_eq_getElem (by omega)]
        exact List.getElem_mem _)
      simpa [maxLen] using this
end Go.Proofs.YtalofhnjlmgloaaDoor

/- How an argument that is a list of texts is opened, with the bound on its texts. -/
namespace Go.Proofs.YtalofhnjlmgloaaDoor
open Go.ChangeShapes Go.WideShapes Go.ChangeAt Go.RowKit

/-- What is known of a list of texts that came in, text by text. -/
structure IsTexts (w : World) (a : Option Addr) (len : Nat) (g : Nat → List UInt8) : Prop where
  at0 : 0 < len → ∃ b off, a = some ⟨b, off, none⟩ ∧ ∀ i, i < len → w.cell? ⟨b, off + i, none⟩ = some (.string ⟨(g i).toArray⟩)
  small : ∀ i, i < len → (g i).length ≤ 140737488351232
theorem mem_strs {H : Type} (P : Program) (e : TypeId) : ∀ (ss : List ByteArray) (i : Nat), i < ss.length → (ss.getD i ByteArray.empty).data.toList.length ∈ DataW.weightsAll P e (strs (H := H) ss)
  | s :: ss, 0, _ => by
    show _ ∈ DataW.weightsAll P e ((.lit (.string s.data.toList)) :: strs ss)
    simp [DataW.weightsAll, DataW.weights]
  | s :: ss, i + 1, h => by
    have ih := mem_strs (H := H) P e ss i (by simpa using h)
    show _ ∈ DataW.weightsAll P e ((.lit (.string s.data.toList)) :: strs ss)
    simp only [DataW.weightsAll, List.mem_append]
    exact .inr (by simpa using ih)
theorem open_texts {H : Type} {enc : TypeId × Value → H} {W : World} {base b0 : Nat} {held : Bool} {v : Value} {d : DataW H} {p : List MemPlace}
    (hval : Value.okWide Tryd.prog W .any base 23 v) (h : DataW.Trod enc Tryd.prog W b0 (fun _ => true) held 23 v d p) (hw : ∀ n ∈ d.weights Tryd.prog 23, n ≤ reachBytes) :
    ∃ a len cap g, IsTexts W a len g ∧ v = .slice a len cap := by
  obtain ⟨a0, len, cap, rfl⟩ := okWide_slice Tryd.underlying23 hval
  obtain ⟨fuel, hf⟩ := h
  rcases open_strings Tryd.underlying23 Tryd.underlying9 (by kernel_rfl) hf with ⟨hcs, _⟩ | ⟨x, l, c, ss, hcs, _, hl, hm, hz, hd, hcell, hws⟩
  · simp [Value.cells] at hcs
    obtain ⟨rfl, rfl, rfl⟩ := hcs
    exact ⟨_, _, _, fun _ => [], ⟨fun h => by omega, fun i h => by omega⟩, rfl⟩
  · simp [Value.cells] at hcs
    obtain ⟨rfl, rfl, rfl⟩ := hcs
    have hz' : ss.length = cap := by simpa using hz
    have hd' : d = .slice (strs (ss.take len)) (strs (ss.drop len)) := by
      have := congrArg Prod.fst hd
      exact this
    refine ⟨_, _, _, fun i => (ss.getD i ByteArray.empty).data.toList, ⟨fun h => ?_, fun i hi => ?_⟩, rfl⟩
    · obtain ⟨b, off, spot⟩ := x
      have h0 := hcell 0 (by omega)
      have hspot : spot = none := by simpa [Addr.add] using World.cell?_spot h0
      subst hspot
      refine ⟨b, off, rfl, fun i hi => ?_⟩
      have := hcell i (by omega)
      have e2 : (⟨((ss.getD i ByteArray.empty).data.toList).toArray⟩ : ByteArray) = ss.getD i ByteArray.empty := by simp
      rw [e2]
      by_cases e : i = 0
      · subst e; simpa [Addr.add] using this
      · simpa [Addr.add, e] using this
    · have hmem := mem_strs (H := H) Tryd.prog 9 (ss.take len) i (by simp; omega)
      have e : (ss.take len).getD i ByteArray.empty = ss.getD i ByteArray.empty := by
        rw [List.getD_eq_getElem?_getD, List.getD_eq_getElem?_getD, List.getElem?_take, if_pos hi]
      rw [e] at hmem
      have := hw _ (by
        rw [hd']
        simp only [DataW.weights, Tryd.underlying23]
        exact List.mem_cons_of_mem _ (List.mem_append_left _ hmem))
      simpa [reachBytes] using this
end Go.Proofs.YtalofhnjlmgloaaDoor

namespace Go.Proofs.YtalofhnjlmgloaaDoor
open Go.RowKit

def listOf (n : Nat) (g : Nat → List UInt8) : List (List UInt8) := (List.range n).map g
theorem listOf_length (n : Nat) (g : Nat → List UInt8) : (listOf n g).length = n := by simp [listOf]
theorem listOf_small {w : World} {a : Option Addr} {len : Nat} {g : Nat → List UInt8} (h : IsTexts w a len g) : ∀ s ∈ listOf len g, s.length ≤ 140737488351232 := fun s hs => by
  unfold listOf at hs
  simp only [List.mem_map, List.mem_range] at hs
  obtain ⟨i, hi, rfl⟩ := hs
  exact h.small i hi
theorem texts_at {w : World} {a : Option Addr} {len cap : Nat} {g : Nat → List UInt8} (h : IsTexts w a len g) : TextsAt w (.slice a len cap) (listOf len g) := by
  refine ⟨a, cap, by rw [listOf_length], fun i s hi => ?_⟩
  have hl : i < len := by have := (List.getElem?_eq_some_iff.1 hi).1; rwa [listOf_length] at this
  obtain ⟨b, off, rfl, hc⟩ := h.at0 (by omega)
  refine ⟨b, off, rfl, ?_⟩
  rw [hc i hl]
  unfold listOf at hi
  rw [List.getElem?_map, List.getElem?_range hl] at hi
  simp at hi
  subst hi
  rfl
end Go.Proofs.YtalofhnjlmgloaaDoor
