/- How arguments that are arrays are opened: 32 bytes, three texts. -/
import Derived.Test.YtficmbaffkkfhaaDoorWo
import Derived.Test.YtficmbaffkkfhaaDoorW1
import Derived.Lib.SmallJoins
namespace Go.Proofs.YtficmbaffkkfhaaDoor
open Go.ChangeShapes Go.WideShapes Go.ChangeAt Go.RowKit

theorem okWide_array {P : Program} {w : World} {r : Reach} {base n : Nat} {t e : TypeId} {v : Value} (ht : P.underlying t = some (.array n e)) (h : Value.okWide P w r base t v) : ∃ cs, v = .agg cs ∧ cs.size = P.cellsOf t := by
  unfold Value.okWide at h
  rw [ht] at h
  cases v <;> simp at h
  all_goals first | exact ⟨_, rfl, h.1⟩ | exact ⟨_, rfl, h⟩

theorem map_of_each : ∀ cs : List Value, (∀ i (h : i < cs.length), ∃ b : UInt8, cs[i] = Value.int .u8 (b.toNat : Int)) → ∃ l : List UInt8, l.length = cs.length ∧ cs = l.map fun b => Value.int .u8 (b.toNat : Int)
  | [], _ => ⟨[], rfl, rfl⟩
  | c :: cs, each => by
    obtain ⟨b, hb⟩ := each 0 (by simp)
    obtain ⟨l, hl1, hl2⟩ := map_of_each cs (fun i hi => by
      obtain ⟨b, hb⟩ := each (i + 1) (by simpa using hi)
      exact ⟨b, by simpa using hb⟩)
    refine ⟨b :: l, by simp [hl1], ?_⟩
    rw [List.map_cons, ← hl2]
    simp at hb
    rw [hb]
/-- Cells that read as bytes are bytes. -/
theorem cells_bytes {H : Type} {enc : TypeId × Value → H} {P : Program} {w : World} {base : Nat} {spare : Nat → Bool} {held : Bool} {fuel n : Nat} {t e : TypeId} {cs : List Value} {x : DataW H × List MemPlace}
    (ht : P.underlying t = some (.array n e)) (he : P.underlying e = some (.int .u8)) (hc : P.cellsOf e = 1) (hct : P.cellsOf t = n) (h : DataW.trod enc P w base spare held fuel t cs = some x) :
    ∃ l : List UInt8, l.length = n ∧ cs = l.map fun b => Value.int .u8 (b.toNat : Int) := by
  obtain ⟨xs, m, _, _, hl, hxs, hall⟩ := DataW.trod_array ht h
  rw [hct] at hl
  have each : ∀ i (hi : i < n), ∃ b : UInt8, cs[i]'(by omega) = Value.int .u8 (b.toNat : Int) := by
    intro i hi
    have h1 := hall i hi
    rw [hc, Nat.mul_one] at h1
    have h2 : (cs.drop i).take 1 = [cs[i]'(by omega)] := by
      rw [List.drop_eq_getElem_cons (by omega)]; rfl
    rw [h2, List.getElem?_eq_getElem (by omega)] at h1
    obtain ⟨k, h3, _, h4⟩ := DataW.trod_int he h1
    have hb := bounds_u8 h4
    refine ⟨UInt8.ofNat k.toNat, ?_⟩
    have h5 := (List.cons.inj h3).1
    rw [h5]
    have : (UInt8.ofNat k.toNat).toNat = k.toNat % 256 := by simp
    rw [this]
    congr 1
    omega
  obtain ⟨l, h1, h2⟩ := map_of_each cs (fun i hi => each i (by omega))
  exact ⟨l, by omega, h2⟩

theorem cells_h32t : Tryd.prog.cellsOf 23 = 32 := by kernel_rfl
theorem cells_u8t : Tryd.prog.cellsOf 5 = 1 := by kernel_rfl
/-- 32 bytes, by value. -/
theorem open_h32 {H : Type} {enc : TypeId × Value → H} {W : World} {base b0 : Nat} {spare : Nat → Bool} {held : Bool} {v : Value} {d : DataW H} {p : List MemPlace}
    (hval : Value.okWide Tryd.prog W .any base 23 v) (h : DataW.Trod enc Tryd.prog W b0 spare held 23 v d p) :
    ∃ l : List UInt8, l.length = 32 ∧ v = .agg (hv l) := by
  obtain ⟨cs, rfl, hsz⟩ := okWide_array Tryd.underlying23 hval
  obtain ⟨fuel, hf⟩ := h
  obtain ⟨l, hl, hcs⟩ := cells_bytes Tryd.underlying23 Tryd.underlying5 cells_u8t cells_h32t hf
  refine ⟨l, hl, ?_⟩
  simp only [Value.cells] at hcs
  congr 1
  apply Array.toList_inj.1
  rw [hcs]; simp [hv]
end Go.Proofs.YtficmbaffkkfhaaDoor
