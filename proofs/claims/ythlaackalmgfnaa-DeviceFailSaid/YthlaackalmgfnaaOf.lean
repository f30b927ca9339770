/- How two lists of what is asked, a list of numbers, two bytes, and a torn crash, as arguments, are opened. -/
import Derived.Test.YthlaackalmgfnaaOe
namespace Go.Proofs.Ythlaackalmgfnaa
open Go.ChangeShapes Go.WideShapes Go.ChangeAt Go.RowKit

theorem okWide_arr {P : Program} {w : World} {r : Reach} {base n : Nat} {t e : TypeId} {v : Value} (ht : P.underlying t = some (.array n e)) (h : Value.okWide P w r base t v) : ∃ cs, v = .agg cs ∧ cs.size = P.cellsOf t := by
  unfold Value.okWide at h
  rw [ht] at h
  cases v <;> simp at h
  all_goals first | exact ⟨_, rfl, h.1⟩ | exact ⟨_, rfl, h⟩
set_option maxRecDepth 100000 in
theorem open_ks {H : Type} {enc : TypeId × Value → H} {W : World} {base b0 : Nat} {held : Bool} {v : Value} {d : DataW H} {p : List MemPlace}
    (hval : Value.okWide Try.prog W .any base 31 v) (h : DataW.Trod enc Try.prog W b0 (fun _ => true) held 31 v d p) :
    ∃ (a : Option Addr) (cc : Nat) (k : List Int), v = .slice a k.length cc ∧ IntsAt W (.slice a k.length cc) k := by
  obtain ⟨a0, len, cap, rfl⟩ := okWide_slice Try.underlying31 hval
  obtain ⟨fuel, hf⟩ := h
  obtain ⟨a, k, cc, h1, h2⟩ := ints_cells (c := .slice a0 len cap) (by simpa [Value.cells] using hf)
  refine ⟨a, cc, k, h1, ?_⟩
  rw [← h1]; exact h2
theorem cells_dos : Try.prog.cellsOf 22 = 1 := by kernel_rfl
theorem cells_dos2 : Try.prog.cellsOf 64 = 2 := by kernel_rfl
set_option maxRecDepth 100000 in
theorem open_dos2 {H : Type} {enc : TypeId × Value → H} {W : World} {base b0 : Nat} {held : Bool} {v : Value} {d : DataW H} {p : List MemPlace}
    (hval : Value.okWide Try.prog W .any base 64 v) (h : DataW.Trod enc Try.prog W b0 (fun _ => true) held 64 v d p) :
    ∃ (a : Option Addr) (c : Nat) (xs : List DoX) (a' : Option Addr) (c' : Nat) (ys : List DoX), v = .agg #[.slice a xs.length c, .slice a' ys.length c'] ∧ DosAt W a xs ∧ DosAt W a' ys := by
  obtain ⟨cs, rfl, hsz⟩ := okWide_arr Try.underlying64 hval
  obtain ⟨fuel, hf⟩ := h
  obtain ⟨xs, m, _, _, hl, hxs, hall⟩ := DataW.trod_array Try.underlying64 (cs := cs.toList) (by simpa [Value.cells] using hf)
  rw [cells_dos2] at hl
  obtain ⟨l⟩ := cs
  match l, hl with
  | [c0, c1], _ =>
    have g0 := hall 0 (by omega)
    have g1 := hall 1 (by omega)
    rw [cells_dos] at g0 g1
    have e0 : DataW.trod enc Try.prog W b0 (fun _ => true) held m 22 [c0] = xs[0]? := g0
    have e1 : DataW.trod enc Try.prog W b0 (fun _ => true) held m 22 [c1] = xs[1]? := g1
    rw [List.getElem?_eq_getElem (by omega)] at e0 e1
    obtain ⟨a, ys, c, r1, r2⟩ := dos_cells e0
    obtain ⟨a', zs, c', s1, s2⟩ := dos_cells e1
    exact ⟨a, c, ys, a', c', zs, by rw [r1, s1], r2, s2⟩
/-- Small numbers that a slice holds. -/
def BytesAt (w : World) (v : Value) (l : List Nat) : Prop := (∀ x ∈ l, x < 256) ∧ ∃ a c, v = .slice a l.length c ∧ ∀ (i n : Nat), l[i]? = some n → ∃ b o, a = some ⟨b, o, none⟩ ∧ w.cell? ⟨b, o + i, none⟩ = some (.int .u8 (n : Int))
set_option maxRecDepth 100000 in
theorem bytes_cells {H : Type} {enc : TypeId × Value → H} {W : World} {b0 fuel : Nat} {held : Bool} {c : Value} {y : DataW H × List MemPlace} (h : DataW.trod enc Try.prog W b0 (fun _ => true) held fuel 71 [c] = some y) :
    ∃ (ka : Option Addr) (k : List Nat) (kc : Nat), c = .slice ka k.length kc ∧ BytesAt W c k := by
  rcases open_ints Try.underlying71 Try.underlying5 cells_du8 h with ⟨hcs, _⟩ | ⟨x, l, cc, zs, hcs, _, hl, hm, hz, _, hcell, hwz⟩
  · obtain rfl : c = .slice none 0 0 := by simpa using hcs
    exact ⟨none, [], 0, rfl, fun x hx => by simp at hx, none, 0, rfl, fun i n hi => by simp at hi⟩
  · obtain rfl : c = .slice (some x) l cc := by simpa using hcs
    have hz' : zs.length = cc := by simpa using hz
    have hb : ∀ z ∈ zs, 0 ≤ z ∧ z < 256 := fun z hzz => by have := bounds_u8 (hwz z hzz); omega
    refine ⟨some x, (zs.take l).map Int.toNat, cc, by rw [List.length_map, List.length_take, Nat.min_eq_left (by omega)], fun n hn => ?_, some x, cc, by rw [List.length_map, List.length_take, Nat.min_eq_left (by omega)], fun i n hi => ?_⟩
    · obtain ⟨z, hz1, rfl⟩ := List.mem_map.1 hn
      have := hb z (List.mem_of_mem_take hz1); omega
    · have hil : i < l := by have := (List.getElem?_eq_some_iff.1 hi).1; simp at this; omega
      obtain ⟨b, off, spot⟩ := x
      have h0 := hcell 0 (by omega)
      have hspot : spot = none := by simpa [Addr.add] using World.cell?_spot h0
      subst hspot
      refine ⟨b, off, rfl, ?_⟩
      have hc := hcell i (by omega)
      rw [List.getElem?_map, List.getElem?_take, if_pos hil, List.getElem?_eq_getElem (by omega)] at hi
      have e : zs.getD i 0 = (n : Int) := by
        rw [List.getD_eq_getElem?_getD, List.getElem?_eq_getElem (by omega)]
        have := hb zs[i] (List.getElem_mem _)
        simp at hi ⊢
        omega
      rw [e] at hc
      by_cases e0 : i = 0
      · subst e0; simpa [Addr.add] using hc
      · simpa [Addr.add, e0] using hc
theorem cells_u8x2 : Try.prog.cellsOf 76 = 2 := by kernel_rfl
set_option maxRecDepth 100000 in
theorem open_u8x2 {H : Type} {enc : TypeId × Value → H} {W : World} {base b0 : Nat} {held : Bool} {v : Value} {d : DataW H} {p : List MemPlace}
    (hval : Value.okWide Try.prog W .any base 76 v) (h : DataW.Trod enc Try.prog W b0 (fun _ => true) held 76 v d p) :
    ∃ n m : Nat, v = .agg #[.int .u8 (n : Int), .int .u8 (m : Int)] ∧ n < 256 ∧ m < 256 := by
  obtain ⟨cs, rfl, hsz⟩ := okWide_arr Try.underlying76 hval
  obtain ⟨fuel, hf⟩ := h
  obtain ⟨xs, m, _, _, hl, hxs, hall⟩ := DataW.trod_array Try.underlying76 (cs := cs.toList) (by simpa [Value.cells] using hf)
  rw [cells_u8x2] at hl
  obtain ⟨l⟩ := cs
  match l, hl with
  | [c0, c1], _ =>
    have g0 := hall 0 (by omega)
    have g1 := hall 1 (by omega)
    rw [cells_du8] at g0 g1
    have e0 : DataW.trod enc Try.prog W b0 (fun _ => true) held m 5 [c0] = xs[0]? := g0
    have e1 : DataW.trod enc Try.prog W b0 (fun _ => true) held m 5 [c1] = xs[1]? := g1
    rw [List.getElem?_eq_getElem (by omega)] at e0 e1
    obtain ⟨q, hq, _, wq⟩ := DataW.trod_int (cs := [c0]) Try.underlying5 e0
    obtain ⟨r, hr, _, wr⟩ := DataW.trod_int (cs := [c1]) Try.underlying5 e1
    have bq := bounds_u8 wq
    have br := bounds_u8 wr
    refine ⟨q.toNat, r.toNat, ?_, by omega, by omega⟩
    rw [show ((q.toNat : Nat) : Int) = q by omega, show ((r.toNat : Nat) : Int) = r by omega, (List.cons.inj hq).1, (List.cons.inj hr).1]
/-- A crash in the midst of writes and erasures. -/
structure TornX where
  s : List UInt8
  ws : List Nat
  es : List Nat
  k : List Int
  wa : Option Addr
  wc : Nat
  ea : Option Addr
  ec : Nat
  ka : Option Addr
  kc : Nat
def TornX.v (x : TornX) : Array Value := #[.string (S x.s), .slice x.wa x.ws.length x.wc, .slice x.ea x.es.length x.ec, .slice x.ka x.k.length x.kc]
structure TornX.ok (w : World) (x : TornX) : Prop where
  ws : BytesAt w (.slice x.wa x.ws.length x.wc) x.ws
  es : BytesAt w (.slice x.ea x.es.length x.ec) x.es
  k : IntsAt w (.slice x.ka x.k.length x.kc) x.k
theorem cells_du8s : Try.prog.cellsOf 71 = 1 := by kernel_rfl
theorem cells_torn : Try.prog.cellsOf 73 = 4 := by kernel_rfl
set_option maxRecDepth 100000 in
theorem open_torn {H : Type} {enc : TypeId × Value → H} {W : World} {base b0 : Nat} {held : Bool} {v : Value} {d : DataW H} {p : List MemPlace}
    (hval : Value.okWide Try.prog W .any base 73 v) (h : DataW.Trod enc Try.prog W b0 (fun _ => true) held 73 v d p) :
    ∃ x : TornX, v = .agg x.v ∧ x.ok W := by
  obtain ⟨cs, rfl, hsz⟩ := okWide_struct Try.underlying73 hval
  obtain ⟨fuel, hf0⟩ := h
  obtain ⟨xs, n, _, _, hl, hlen, hf⟩ := DataW.trod_struct Try.underlying73 (cs := cs.toList) (by simpa [Value.cells] using hf0)
  rw [cells_torn] at hl
  obtain ⟨l⟩ := cs
  match l, hl with
  | [c0, c1, c2, c3], _ =>
    match xs, hlen with
    | [y0, y1, y2, y3], _ =>
      have f0 : DataW.trod enc Try.prog W b0 (fun _ => true) held n 9 [c0] = some y0 := by
        have g : DataW.trod enc Try.prog W b0 (fun _ => true) held n 9 (([c0, c1, c2, c3].drop 0).take (Try.prog.cellsOf 9)) = some y0 := hf 0 _ rfl
        rw [cells_dstr] at g
        exact g
      have f1 : DataW.trod enc Try.prog W b0 (fun _ => true) held n 71 [c1] = some y1 := by
        have g : DataW.trod enc Try.prog W b0 (fun _ => true) held n 71 (([c0, c1, c2, c3].drop 1).take (Try.prog.cellsOf 71)) = some y1 := hf 1 _ rfl
        rw [cells_du8s] at g
        exact g
      have f2 : DataW.trod enc Try.prog W b0 (fun _ => true) held n 71 [c2] = some y2 := by
        have g : DataW.trod enc Try.prog W b0 (fun _ => true) held n 71 (([c0, c1, c2, c3].drop 2).take (Try.prog.cellsOf 71)) = some y2 := hf 2 _ rfl
        rw [cells_du8s] at g
        exact g
      have f3 : DataW.trod enc Try.prog W b0 (fun _ => true) held n 31 [c3] = some y3 := by
        have g : DataW.trod enc Try.prog W b0 (fun _ => true) held n 31 (([c0, c1, c2, c3].drop 3).take (Try.prog.cellsOf 31)) = some y3 := hf 3 _ rfl
        rw [cells_dints] at g
        exact g
      obtain ⟨s, hs, _, _⟩ := DataW.trod_string (fuel := n) (cs := [c0]) Try.underlying9 f0
      obtain ⟨wa, ws, wc, hw1, hw2⟩ := bytes_cells (fuel := n) (c := c1) f1
      obtain ⟨ea, es, ec, he1, he2⟩ := bytes_cells (fuel := n) (c := c2) f2
      obtain ⟨ka, k, kc, hk1, hk2⟩ := ints_cells (fuel := n) (c := c3) f3
      rw [hw1] at hw2
      rw [he1] at he2
      rw [hk1] at hk2
      refine ⟨⟨s.data.toList, ws, es, k, wa, wc, ea, ec, ka, kc⟩, ?_, hw2, he2, hk2⟩
      have e0 : c0 = .string (S s.data.toList) := by rw [S_data]; exact (List.cons.inj hs).1
      rw [e0, hw1, he1, hk1]
      rfl
end Go.Proofs.Ythlaackalmgfnaa
