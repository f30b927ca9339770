/- DeviceFail's loop: a round, the loop. -/
import Derived.Test.YthlaackalmgfnaaFg1
import Derived.Test.YthlaackalmgfnaaFg2
import Derived.Test.YthlaackalmgfnaaFg3
import Derived.Test.YthlaackalmgfnaaFg4
import Derived.Test.YthlaackalmgfnaaFg5
import Derived.Test.YthlaackalmgfnaaFg6
namespace Go.Proofs.Ythlaackalmgfnaa
open Go.RowKit

theorem fround {w0 : World} {a' : Option Addr} {c' : Nat} {ys : List DoX} {k : List Int} {ka : Option Addr} {kc st0 g p1 p2 : Nat} (cc : Nat → Value) (x0 x1 x4 : Value) {Q0 : Exit → Act → World → Prop} (HFK : FK w0 g a' c' ys k ka kc st0) (hexit : ∀ a1 w1, fWI w0 cc x0 x1 x4 ka kc g p1 p2 k st0 ys.length a1 w1 → Q0 (.exit 0) a1 w1) (hret : ∀ a1 w1, a1.tmps.getD 6 undef = .bool true → a1.defers = [] → Below w0.heap.size w0 w1 → Q0 .ret a1 w1) (a : Act) (wr : World) (hI : fWI w0 cc x0 x1 x4 ka kc g p1 p2 k st0 ys.length a wr) :
    Code.wp Try.prog (fbodyOf Try.f7) (Exit.then (fun a1 w1 => fWI w0 cc x0 x1 x4 ka kc g p1 p2 k st0 ys.length a1 w1 ∧ fmu ys.length a1 w1 < fmu ys.length a wr) Q0) a wr := by
  obtain ⟨u, left, m, o, hm, HFR, rfl⟩ := hI
  by_cases hlt : m < ys.length
  · obtain ⟨x, hx⟩ : ∃ x, ys[m]? = some x := ⟨_, List.getElem?_eq_getElem hlt⟩
    by_cases hq : x.q % 13 ≤ 7
    · by_cases hl0 : left = 0
      · cases hc : cntB o x with
        | false => exact fcase_free u cc x0 x1 x4 HFK HFR hlt x hx hq hl0 hc
        | true =>
          by_cases h7 : x.q % 13 = 7
          · exact fcase_flush u cc x0 x1 x4 HFK HFR hlt x hx hq hl0 h7 hret
          · by_cases hE : (withD o x).1 = 0
            · exact fcase_act u cc x0 x1 x4 HFK HFR hlt x hx hq hl0 ⟨hc, by omega, hE⟩ hret
            · exact fcase_refused u cc x0 x1 x4 HFK HFR hlt x hx hq hl0 ⟨hc, by omega, hE⟩
      · exact fcase_pos u cc x0 x1 x4 HFK HFR hlt x hx hq hl0
    · exact fcase_skip u cc x0 x1 x4 HFK HFR hlt x hx (by omega)
  · exact fcase_end u cc x0 x1 x4 HFK HFR hlt hm hexit
theorem floop {w0 : World} {a' : Option Addr} {c' : Nat} {ys : List DoX} {k : List Int} {ka : Option Addr} {kc st0 g p1 p2 : Nat} (cc : Nat → Value) (x0 x1 x4 : Value) {Q0 : Exit → Act → World → Prop} (HFK : FK w0 g a' c' ys k ka kc st0) (u : Nat → Value) (left m : Nat) (o : Dv) (wr : World) (hm : m ≤ ys.length) (HFR : FR w0 p1 p2 k st0 left m o wr) (hexit : ∀ a1 w1, fWI w0 cc x0 x1 x4 ka kc g p1 p2 k st0 ys.length a1 w1 → Q0 (.exit 0) a1 w1) (hret : ∀ a1 w1, a1.tmps.getD 6 undef = .bool true → a1.defers = [] → Below w0.heap.size w0 w1 → Q0 .ret a1 w1) : Code.wp Try.prog (.loop (fbodyOf Try.f7)) Q0 (ffr u cc x0 x1 x4 ka k.length kc g p1 p2 left m) wr :=
  wp_loop (fWI w0 cc x0 x1 x4 ka kc g p1 p2 k st0 ys.length) (fmu ys.length) ⟨u, left, m, o, hm, HFR, rfl⟩ (fun a w1 hI => fround cc x0 x1 x4 HFK hexit hret a w1 hI)
theorem floop2 {w0 : World} {a' : Option Addr} {c' : Nat} {ys : List DoX} {k : List Int} {ka : Option Addr} {kc st0 g p1 p2 : Nat} {Q0 : Exit → Act → World → Prop} (HFK : FK w0 g a' c' ys k ka kc st0) (left m : Nat) (o : Dv) {a : Act} {wr : World} (hm : m ≤ ys.length) (HFR : FR w0 p1 p2 k st0 left m o wr)
    (ha : a = ffr (fun q => a.tmps.getD q undef) (fun q => a.tmps.getD q undef) (a.tmps.getD 0 undef) (a.tmps.getD 1 undef) (a.tmps.getD 4 undef) ka k.length kc g p1 p2 left m)
    (hexit : ∀ (u cc : Nat → Value) (x0 x1 x4 : Value) (left m : Nat) (o : Dv) (w1 : World), FR w0 p1 p2 k st0 left m o w1 → Q0 (.exit 0) (ffr u cc x0 x1 x4 ka k.length kc g p1 p2 left m) w1)
    (hret : ∀ a1 w1, a1.tmps.getD 6 undef = .bool true → a1.defers = [] → Below w0.heap.size w0 w1 → Q0 .ret a1 w1) : Code.wp Try.prog (.loop (fbodyOf Try.f7)) Q0 a wr := by
  generalize a.tmps.getD 0 undef = x0 at ha
  generalize a.tmps.getD 1 undef = x1 at ha
  generalize a.tmps.getD 4 undef = x4 at ha
  generalize (fun q => a.tmps.getD q undef) = u at ha
  subst ha
  exact floop u x0 x1 x4 HFK u left m o wr hm HFR (fun a1 w1 ⟨u1, left1, m1, o1, _, h1, e1⟩ => by rw [e1]; exact hexit u1 u x0 x1 x4 left1 m1 o1 w1 h1) hret
end Go.Proofs.Ythlaackalmgfnaa
