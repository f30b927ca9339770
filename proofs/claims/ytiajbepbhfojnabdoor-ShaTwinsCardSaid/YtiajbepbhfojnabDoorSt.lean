/- Two writers, and what calls make of them. -/
import Derived.Test.YtiajbepbhfojnabDoorSh
namespace Go.Proofs.YtiajbepbhfojnabDoor
open Go.RowKit

/-- Two writers of the call's own, to which l and m were written. -/
structure Two (w : World) (p q : Nat) (l m : List UInt8) (wr : World) : Prop where
  below : Below w.heap.size w wr
  k : TabK wr
  kw : 0 < w.heap.size
  hp : w.heap.size ≤ p
  hq : w.heap.size ≤ q
  ne : p ≠ q
  one : IsW wr p l
  two : IsW wr q m
theorem Two.next {w : World} {p q : Nat} {l m : List UInt8} {wr wx : World} (h : Two w p q l m wr) (hb : Below wr.heap.size wr wx) : Two w p q l m wx :=
  ⟨h.below.trans (hb.mono h.below.size), h.k.below hb h.k.lt, h.kw, h.hp, h.hq, h.ne, h.one.below hb h.one.lt, h.two.below hb h.two.lt⟩
theorem Two.drew {w : World} {p q : Nat} {l m : List UInt8} {wr : World} (h : Two w p q l m wr) : Two w p q l m wr.drew := ⟨h.below.drew, h.k, h.kw, h.hp, h.hq, h.ne, h.one, h.two⟩
theorem Two.drewN {w : World} {p q : Nat} {l m : List UInt8} {wr : World} (h : Two w p q l m wr) (n : Nat) : Two w p q l m (wr.drewN n) := ⟨below_drewN h.below n, h.k, h.kw, h.hp, h.hq, h.ne, h.one, h.two⟩
theorem Two.start {w w1 w2 : World} (hK : TabK w) (b1 : Below w.heap.size w w1) (W1 : IsW w1 w.heap.size []) (b2 : Below w1.heap.size w1 w2) (W2 : IsW w2 w1.heap.size []) : Two w w.heap.size w1.heap.size [] [] w2 := by
  have s1 := W1.lt
  exact ⟨b1.trans (b2.mono (by omega)), (hK.below b1 hK.lt).below b2 (by have := hK.lt; omega), hK.lt, Nat.le_refl _, by omega, by omega, W1.below b2 s1, W2⟩
theorem two_write1 {w : World} {p q : Nat} {l m : List UInt8} (x : List UInt8) {wr : World} (h : Two w p q l m wr) (hl : l.length + x.length ≤ 1099511627776) :
    Calls Tryd.prog 5 #[.pointer (some ⟨p, 0, none⟩), .string (S x)] wr fun e w' => e = .returned (.int .i64 0) ∧ Two w p q (l ++ x) m w' := by
  have := h.kw
  have h1 := h.hp
  refine (write_any p l x wr h.k (by omega) h.one hl).mono ?_
  rintro e w' ⟨rfl, W, B⟩
  exact ⟨rfl, h.below.trans (B.below h.hp h.below.size), h.k.but B (by omega), h.kw, h.hp, h.hq, h.ne, W, h.two.other B (fun e => h.ne e.symm) h.two.lt⟩
theorem two_write2 {w : World} {p q : Nat} {l m : List UInt8} (x : List UInt8) {wr : World} (h : Two w p q l m wr) (hl : m.length + x.length ≤ 1099511627776) :
    Calls Tryd.prog 5 #[.pointer (some ⟨q, 0, none⟩), .string (S x)] wr fun e w' => e = .returned (.int .i64 0) ∧ Two w p q l (m ++ x) w' := by
  have := h.kw
  have h1 := h.hq
  refine (write_any q m x wr h.k (by omega) h.two hl).mono ?_
  rintro e w' ⟨rfl, W, B⟩
  exact ⟨rfl, h.below.trans (B.below h.hq h.below.size), h.k.but B (by omega), h.kw, h.hp, h.hq, h.ne, h.one.other B h.ne h.one.lt, W⟩
theorem two_sum1 {w : World} {p q : Nat} {l m : List UInt8} {wr : World} (h : Two w p q l m wr) (hl : l.length ≤ 549755813888) :
    Calls Tryd.prog 6 #[.pointer (some ⟨p, 0, none⟩)] wr fun e w' => e = .returned (.agg (hv (shaL l))) ∧ Two w p q l m w' :=
  (wsum_any p l wr h.k h.one hl).mono fun _ _ hh => ⟨hh.1, h.next hh.2⟩
theorem two_sum2 {w : World} {p q : Nat} {l m : List UInt8} {wr : World} (h : Two w p q l m wr) (hl : m.length ≤ 549755813888) :
    Calls Tryd.prog 6 #[.pointer (some ⟨q, 0, none⟩)] wr fun e w' => e = .returned (.agg (hv (shaL m))) ∧ Two w p q l m w' :=
  (wsum_any q m wr h.k h.two hl).mono fun _ _ hh => ⟨hh.1, h.next hh.2⟩
theorem two_hash {w : World} {p q : Nat} {l m : List UInt8} (x : List UInt8) {wr : World} (h : Two w p q l m wr) (hl : x.length ≤ 549755813888) :
    Calls Tryd.prog 7 #[.string (S x)] wr fun e w' => e = .returned (.agg (hv (shaL x))) ∧ Two w p q l m w' :=
  (sum_any x wr h.k hl).mono fun _ _ hh => ⟨hh.1, h.next hh.2⟩
theorem two_does {w : World} {p q : Nat} {l m : List UInt8} {wr : World} (h : Two w p q l m wr) :
    Calls Tryd.prog 8 #[] wr fun e w' => e = .returned (.bool true) ∧ Two w p q l m w' :=
  (does_any wr h.k).mono fun _ _ hh => ⟨hh.1, h.next hh.2⟩
theorem eq_self (l : List UInt8) (w : World) : (binOp .eql 27 (.agg (hv (shaL l))) (.agg (hv (shaL l)))).run Tryd.prog w = .ok (.bool true) w := by
  have := eqH w (shaL l) (shaL l) (shaL_length _) (shaL_length _)
  simpa using this
theorem neq_self (l : List UInt8) (w : World) : (binOp .neq 27 (.agg (hv (shaL l))) (.agg (hv (shaL l)))).run Tryd.prog w = .ok (.bool false) w := by
  have := neqH w (shaL l) (shaL l) (shaL_length _) (shaL_length _)
  simpa using this
theorem ext_mid (l : List UInt8) (a b : Nat) : (S l).extract a b = S ((l.take b).drop a) := by
  apply ByteArray.ext
  apply Array.toList_inj.1
  rw [Lib.extract_data, S_toList, S_toList, List.drop_take]
end Go.Proofs.YtiajbepbhfojnabDoor
