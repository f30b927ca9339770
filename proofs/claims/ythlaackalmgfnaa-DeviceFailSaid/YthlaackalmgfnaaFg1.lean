/- DeviceFail's loop: a thing that is passed over; the end. -/
import Derived.Test.YthlaackalmgfnaaFg0
namespace Go.Proofs.Ythlaackalmgfnaa
open Go.RowKit

set_option linter.unusedSimpArgs false in
set_option maxRecDepth 1000000 in
set_option maxHeartbeats 12800000 in
theorem fcase_skip {w0 : World} {a' : Option Addr} {c' : Nat} {ys : List DoX} {k : List Int} {ka : Option Addr} {kc st0 g p1 p2 left m : Nat} {ov : Dv} {wr : World} (u cc : Nat → Value) (x0 x1 x4 : Value) {Q0 : Exit → Act → World → Prop} (HFK : FK w0 g a' c' ys k ka kc st0) (HFR : FR w0 p1 p2 k st0 left m ov wr) (hlt : m < ys.length) (x : DoX) (hx : ys[m]? = some x) (hq : 7 < x.q % 13) : Code.wp Try.prog (fbodyOf Try.f7) (Exit.then (fun a1 w1 => fWI w0 cc x0 x1 x4 ka kc g p1 p2 k st0 ys.length a1 w1 ∧ fmu ys.length a1 w1 < fmu ys.length (ffr u cc x0 x1 x4 ka k.length kc g p1 p2 left m) wr) Q0) (ffr u cc x0 x1 x4 ka k.length kc g p1 p2 left m) wr := by
  conv => arg 2; whnf
  unfold ffr
  have hS := HFR.sys
  have c1 := HFK.box wr hS.base
  obtain ⟨hok, b, o, rfl, hrg⟩ := HFK.dos m x hx
  have HRg : Hid (wr.rangeAt b (o + m * 5) x.v.toList) := range_below hrg hS.base
  have hlt2 : (m : Int) < (ys.length : Int) := by omega
  have hq2 : (x.q : Int) < 256 := by have := hok.q; omega
  have HIC : Hid ((Try.prog.info? 37).map (·.size) = some x.v.toList.length) := by show _ = _; rw [DoX.size]; kernel_rfl
  have HI5 : Hid ((Try.prog.info? 37).map (·.size) = some 5) := by show _ = some 5; kernel_rfl
  have HOne : Hid (x.v.toList.toArray.all (·.oneCell') = true) := by show _ = _; simp [DoX.v, doV, DoX.kv, Value.oneCell']
  have hm60 : m ≤ 60 := by have := HFK.few; omega
  have hq3 : (7 : Int) < (x.q : Int) % 13 := by omega
  have HN : Hid (left < 20 ∧ Wf ov ∧ ov.up = true ∧ ov.starts = st0 ∧ ov.acts.length ≤ 60 + (m + 1)) := ⟨HFR.lt, HFR.wf, HFR.up, HFR.starts, by have := HFR.few; omega⟩
  have HS2 : Hid (Sys w0 [(p1, wF ov left k), (p2, ov)] [] [] [] (wr.alloc (.cells #[.int .u8 (x.q : Int), .int .i64 x.i, .int .i64 x.n, .string (S x.s), .slice x.ka x.k.length x.kc] 37))) := hS.below ((Below.refl _ _).alloc (Nat.le_refl _) _)
  clear hS hx hrg hok HFK HFR
  unfold DoX.v doV DoX.kv at HRg HIC HOne
  generalize S x.s = A at *
  go_wp2_with (first | (refine store_last rfl 37 (.tmp 11) (.tmp 68) rfl 5 _ _ _ rfl rfl HI5.out rfl rfl HOne.out ?_) | (refine wpList_load_mid rfl 37 (.tmp 67) rfl b (o + m * 5) rfl _ _ HRg.out Try.underlying37 rfl HIC.out ?_))
  refine ⟨fWI_intro (left) (m + 1) ov (by omega) ⟨HN.out.1, HN.out.2.1, HN.out.2.2.1, HN.out.2.2.2.1, HN.out.2.2.2.2, HS2.out⟩ ?_, ?_⟩
  · kernel_rfl
  · unfold fmu
    simp [intOf]
    omega
set_option linter.unusedSimpArgs false in
set_option maxRecDepth 1000000 in
set_option maxHeartbeats 12800000 in
theorem fcase_end {w0 : World} {a' : Option Addr} {c' : Nat} {ys : List DoX} {k : List Int} {ka : Option Addr} {kc st0 g p1 p2 left m : Nat} {ov : Dv} {wr : World} (u cc : Nat → Value) (x0 x1 x4 : Value) {Q0 : Exit → Act → World → Prop} (HFK : FK w0 g a' c' ys k ka kc st0) (HFR : FR w0 p1 p2 k st0 left m ov wr) (hlt : ¬ m < ys.length) (hm : m ≤ ys.length) (hexit : ∀ a1 w1, fWI w0 cc x0 x1 x4 ka kc g p1 p2 k st0 ys.length a1 w1 → Q0 (.exit 0) a1 w1) : Code.wp Try.prog (fbodyOf Try.f7) (Exit.then (fun a1 w1 => fWI w0 cc x0 x1 x4 ka kc g p1 p2 k st0 ys.length a1 w1 ∧ fmu ys.length a1 w1 < fmu ys.length (ffr u cc x0 x1 x4 ka k.length kc g p1 p2 left m) wr) Q0) (ffr u cc x0 x1 x4 ka k.length kc g p1 p2 left m) wr := by
  have HX : Hid (∀ a1 w1, fWI w0 cc x0 x1 x4 ka kc g p1 p2 k st0 ys.length a1 w1 → Q0 (.exit 0) a1 w1) := hexit
  conv => arg 2; whnf
  unfold ffr
  have c1 := HFK.box wr HFR.sys.base
  have hlt2 : ¬ (m : Int) < (ys.length : Int) := by omega
  have HR : Hid (FR w0 p1 p2 k st0 left m ov wr) := HFR
  clear HFK HFR hexit
  go_wp2
  refine HX.out _ _ (fWI_intro left m ov hm HR.out ?_)
  kernel_rfl
end Go.Proofs.Ythlaackalmgfnaa
