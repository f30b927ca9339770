/- One device of a call's own, and what calls make of it; the chapter's examples, plainly. -/
import Derived.Test.YtdjjhiamiaialaaDoorKq
namespace Go.Proofs.YtdjjhiamiaialaaDoor
open Go.RowKit

/-- A device of the call's own. -/
structure One (w : World) (p : Nat) (d : Dv) (O : Nat → Prop) (wr : World) : Prop where
  dev : Dev wr p d O
  below : Below w.heap.size w wr
  lo : ∀ k, O k → w.heap.size ≤ k
  hi : ∀ k, O k → k < wr.heap.size
theorem One.next {w : World} {p : Nat} {d : Dv} {O : Nat → Prop} {wr wx : World} (h : One w p d O wr) (hb : Below wr.heap.size wr wx) : One w p d O wx :=
  ⟨h.dev.below hb, h.below.trans (hb.mono h.below.size), h.lo, fun k hk => by have := h.hi k hk; have := hb.size; omega⟩
theorem One.drew {w : World} {p : Nat} {d : Dv} {O : Nat → Prop} {wr : World} (h : One w p d O wr) : One w p d O wr.drew := h.next (Below.refl _ _).drew
theorem One.turn {w : World} {p : Nat} {d d' : Dv} {O : Nat → Prop} {wr wx : World} (h : One w p d O wr) (hd : Dev wx p d' (grow O wr wx)) (ht : Turn O wr wx) : One w p d' (grow O wr wx) wx :=
  ⟨hd, h.below.trans (ht.below h.lo h.below.size), fun k hk => by rcases hk with hk | hk; exact h.lo k hk; have := h.below.size; omega, fun k hk => by rcases hk with hk | hk; (have := h.hi k hk; have := ht.size; omega); exact hk.2⟩
theorem One.turn0 {w : World} {p : Nat} {d d' : Dv} {O : Nat → Prop} {wr wx : World} (h : One w p d O wr) (hd : Dev wx p d' O) (ht : Turn O wr wx) : One w p d' O wx :=
  ⟨hd, h.below.trans (ht.below h.lo h.below.size), h.lo, fun k hk => by have := h.hi k hk; have := ht.size; omega⟩
theorem one_write {w : World} {p : Nat} {d : Dv} {O : Nat → Prop} {wr : World} (h : One w p d O wr) (i : Int) (s : List UInt8) (hs : d.acts.length < 1000000) :
    Calls Tryd.prog 7 #[.pointer (some ⟨p, 0, none⟩), .int .i64 i, .string (S s)] wr fun e w' => e = .returned (.int .i64 (writeD d i s).1) ∧ One w p (writeD d i s).2 (grow O wr w') w' :=
  (write_dev h.dev i s hs).mono fun _ _ hh => ⟨hh.1, h.turn hh.2.1 hh.2.2⟩
theorem one_crash {w : World} {p : Nat} {d : Dv} {O : Nat → Prop} {wr : World} (h : One w p d O wr) {kq : Value} {k : List Int} (hk : IntsAt wr kq k) (hkb : k ≠ [] → ∀ i, kq.ownBlock = some i → i < wr.heap.size → ¬ O i) :
    Calls Tryd.prog 8 #[.pointer (some ⟨p, 0, none⟩), kq] wr fun e w' => e = .returned (.int .i64 (crashE d k).1) ∧ One w p (crashE d k).2 O w' :=
  (crash_dev h.dev hk hkb).mono fun _ _ hh => ⟨hh.1, h.turn0 hh.2.1 hh.2.2⟩
theorem one_start {w : World} {p : Nat} {d : Dv} {O : Nat → Prop} {wr : World} (h : One w p d O wr) (hs : d.starts < 1000000) :
    Calls Tryd.prog 9 #[.pointer (some ⟨p, 0, none⟩)] wr fun e w' => e = .returned (.int .i64 (startD d).1) ∧ One w p (startD d).2 O w' :=
  (start_dev h.dev hs).mono fun _ _ hh => ⟨hh.1, h.turn0 hh.2.1 hh.2.2⟩
theorem one_new (n : Nat) (h4 : 4 ≤ n) (h5 : n ≤ 512) (w : World) : Calls Tryd.prog 6 #[.int .i64 (n : Int)] w fun e w' => ∃ p, e = .returned (.tuple #[.pointer (some ⟨p, 0, none⟩), .int .i64 0]) ∧ One w p (newD n) (fun k => w.heap.size ≤ k ∧ k < w'.heap.size) w' :=
  (new_ok n h4 h5 w).mono fun _ _ ⟨p, he, hd, hb⟩ => ⟨p, he, hd, hb, fun _ hk => hk.1, fun _ hk => hk.2⟩
end Go.Proofs.YtdjjhiamiaialaaDoor
