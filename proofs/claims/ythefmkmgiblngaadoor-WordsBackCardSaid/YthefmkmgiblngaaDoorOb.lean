/- How an argument of three texts, by value, is opened. -/
import Derived.Test.YthefmkmgiblngaaDoorOa
namespace Go.Proofs.YthefmkmgiblngaaDoor
open Go.ChangeShapes Go.WideShapes Go.ChangeAt Go.RowKit

theorem cells_s3t : Tryd.prog.cellsOf 36 = 3 := by kernel_rfl
theorem cells_strt : Tryd.prog.cellsOf 9 = 1 := by kernel_rfl
theorem open_s3 {H : Type} {enc : TypeId × Value → H} {W : World} {base b0 : Nat} {spare : Nat → Bool} {held : Bool} {v : Value} {d : DataW H} {p : List MemPlace}
    (hval : Value.okWide Tryd.prog W .any base 36 v) (h : DataW.Trod enc Tryd.prog W b0 spare held 36 v d p) :
    ∃ a b c : ByteArray, v = .agg #[.string a, .string b, .string c] := by
  obtain ⟨cs, rfl, hsz⟩ := okWide_array Tryd.underlying36 hval
  obtain ⟨c0, c1, c2, rfl⟩ := Go.Joins.array3 (hsz.trans cells_s3t)
  obtain ⟨fuel, hf⟩ := h
  obtain ⟨y0, y1, y2, n, _, h0, h1, h2⟩ := trod_array3 Tryd.underlying36 cells_strt (by simpa [Value.cells] using hf)
  obtain ⟨a, ha, _⟩ := DataW.trod_string Tryd.underlying9 h0
  obtain ⟨b, hb, _⟩ := DataW.trod_string Tryd.underlying9 h1
  obtain ⟨c, hc, _⟩ := DataW.trod_string Tryd.underlying9 h2
  refine ⟨a, b, c, ?_⟩
  rw [(List.cons.inj ha).1, (List.cons.inj hb).1, (List.cons.inj hc).1]
end Go.Proofs.YthefmkmgiblngaaDoor
