/- One device of a call's own, and what calls make of it; the chapter's examples, plainly. -/
import Derived.Test.YthlaackalmgfnaaEa
namespace Go.Proofs.Ythlaackalmgfnaa
open Go.RowKit

/-- A device of the call's own. -/
structure One (w : World) (p : Nat) (d : Dv) (O : Nat → Prop) (wr : World) : Prop where
  dev : Dev wr p d O
  below : Below w.heap.size w wr
  lo : ∀ k, O k → w.heap.size ≤ k
  hi : ∀ k, O k → k < wr.heap.size
theorem One.next {w : World} {p : Nat} {d : Dv} {O : Nat → Prop} {wr wx : World} (h : One w p d O wr) (hb : Below wr.heap.size wr wx) : One w p d O wx :=
  ⟨h.dev.below hb, h.below.trans (hb.mono h.below.size), h.lo, fun k hk => by have := h.hi k hk; have := hb.size; omega⟩
theorem One.drew {w : World} {p : Nat} {d : Dv} {O : Nat → Prop} {wr : World} (h : One w p d O wr) : One w p d O wr.drew := h.next (Below.refl _ _).drew
theorem One.turn {w : World} {p : Nat} {d d' : Dv} {O : Nat → Prop} {wr wx : World} (h : One w p d O wr) (hd : Dev wx p d' (grow O wr wx)) (ht : Turn O wr wx) : One w p d' (grow O wr wx) wx :=
  ⟨hd, h.below.trans (ht.below h.lo h.below.size), fun k hk => by rcases hk with hk | hk; exact h.lo k hk; have := h.below.size; omega, fun k hk => by rcases hk with hk | hk; (have := h.hi k hk; have := ht.size; omega); exact hk.2⟩
theorem One.turn0 {w : World} {p : Nat} {d d' : Dv} {O : Nat → Prop} {wr wx : World} (h : One w p d O wr) (hd : Dev wx p d' O) (ht : Turn O wr wx) : One w p d' O wx :=
  ⟨hd, h.below.trans (ht.below h.lo h.below.size), h.lo, fun k hk => by have := h.hi k hk; have := ht.size; omega⟩
theorem one_write {w : World} {p : Nat} {d : Dv} {O : Nat → Prop} {wr : World} (h : One w p d O wr) (i : Int) (s : List UInt8) (hs : d.acts.length < 1000000) :
    Calls Try.prog 19 #[.pointer (some ⟨p, 0, none⟩), .int .i64 i, .string (S s)] wr fun e w' => e = .returned (.int .i64 (writeD d i s).1) ∧ One w p (writeD d i s).2 (grow O wr w') w' :=
  (write_dev h.dev i s hs).mono fun _ _ hh => ⟨hh.1, h.turn hh.2.1 hh.2.2⟩
theorem one_erase {w : World} {p : Nat} {d : Dv} {O : Nat → Prop} {wr : World} (h : One w p d O wr) (i : Int) (hs : d.acts.length < 1000000) :
    Calls Try.prog 33 #[.pointer (some ⟨p, 0, none⟩), .int .i64 i] wr fun e w' => e = .returned (.int .i64 (eraseD d i).1) ∧ One w p (eraseD d i).2 (grow O wr w') w' :=
  (erase_dev h.dev i hs).mono fun _ _ hh => ⟨hh.1, h.turn hh.2.1 hh.2.2⟩
theorem one_flush {w : World} {p : Nat} {d : Dv} {O : Nat → Prop} {wr : World} (h : One w p d O wr) :
    Calls Try.prog 29 #[.pointer (some ⟨p, 0, none⟩)] wr fun e w' => e = .returned (.int .i64 (flushD d).1) ∧ One w p (flushD d).2 O w' :=
  (flush_dev h.dev).mono fun _ _ hh => ⟨hh.1, h.turn0 hh.2.1 hh.2.2⟩
theorem one_crash {w : World} {p : Nat} {d : Dv} {O : Nat → Prop} {wr : World} (h : One w p d O wr) {kq : Value} {k : List Int} (hk : IntsAt wr kq k) (hkb : k ≠ [] → ∀ i, kq.ownBlock = some i → i < wr.heap.size → ¬ O i) :
    Calls Try.prog 31 #[.pointer (some ⟨p, 0, none⟩), kq] wr fun e w' => e = .returned (.int .i64 (crashE d k).1) ∧ One w p (crashE d k).2 O w' :=
  (crash_dev h.dev hk hkb).mono fun _ _ hh => ⟨hh.1, h.turn0 hh.2.1 hh.2.2⟩
theorem one_start {w : World} {p : Nat} {d : Dv} {O : Nat → Prop} {wr : World} (h : One w p d O wr) (hs : d.starts < 1000000) :
    Calls Try.prog 32 #[.pointer (some ⟨p, 0, none⟩)] wr fun e w' => e = .returned (.int .i64 (startD d).1) ∧ One w p (startD d).2 O w' :=
  (start_dev h.dev hs).mono fun _ _ hh => ⟨hh.1, h.turn0 hh.2.1 hh.2.2⟩
theorem one_fail {w : World} {p : Nat} {d : Dv} {O : Nat → Prop} {wr : World} (h : One w p d O wr) (n : Int) (hn : n < 9223372036854775808) {kq : Value} {k : List Int} (hk : IntsAt wr kq k) (hl : k.length ≤ 1000000) :
    Calls Try.prog 34 #[.pointer (some ⟨p, 0, none⟩), .int .i64 n, kq] wr fun e w' => e = .returned (.int .i64 (failF d n k).1) ∧ One w p (failF d n k).2 (grow O wr w') w' :=
  (fail_dev h.dev n hn hk hl).mono fun _ _ hh => ⟨hh.1, h.turn hh.2.1 hh.2.2⟩
theorem one_new (n : Nat) (h4 : 4 ≤ n) (h5 : n ≤ 512) (w : World) : Calls Try.prog 10 #[.int .i64 (n : Int)] w fun e w' => ∃ p, e = .returned (.tuple #[.pointer (some ⟨p, 0, none⟩), .int .i64 0]) ∧ One w p (newD n) (fun k => w.heap.size ≤ k ∧ k < w'.heap.size) w' :=
  (new_ok n h4 h5 w).mono fun _ _ ⟨p, he, hd, hb⟩ => ⟨p, he, hd, hb, fun _ hk => hk.1, fun _ hk => hk.2⟩
theorem one_states {w : World} {p : Nat} {d : Dv} {O : Nat → Prop} {wr : World} (h : One w p d O wr) : Calls Try.prog 24 #[.pointer (some ⟨p, 0, none⟩)] wr fun e w' => ∃ v, e = .returned v ∧ IntsAt w' v (statesD d) ∧ (∀ i, v.ownBlock = some i → wr.heap.size ≤ i ∧ i < w'.heap.size) ∧ Below wr.heap.size wr w' :=
  states_dev h.dev
/-- The examples' text. -/
def aT : List UInt8 := blockT [97]
def x1 : Dv := (writeD (newD 4) 1 aT).2
def x2 : Dv := (crashE x1 [5]).2
def x3 : Dv := (startD x2).2
def x4 : Dv := (writeD x3 2 aT).2
def x5 : Dv := (crashE x4 []).2
def x6 : Dv := (startD x5).2
def x7 : Dv := (writeD x6 2 aT).2
def x8 : Dv := (flushD x7).2
def x9 : Dv := (failF x8 0 [1]).2
def x10 : Dv := (eraseD x9 1).2
theorem e1 : (writeD (newD 4) 1 aT).1 = 0 := by kernel_rfl
theorem e1b : (writeD x1 1 aT).1 = 40 := by kernel_rfl
theorem e1c : (writeD x1 1 aT).2 = x1 := by kernel_rfl
theorem e1d : x1.acts.length = 1 := by kernel_rfl
theorem e2 : (crashE x1 [5]).1 = 0 := by kernel_rfl
theorem e3 : (startD x2).1 = 0 := by kernel_rfl
theorem e3b : x2.starts = 0 := by kernel_rfl
theorem e3c : (readD x3 1).2 = 0 := by kernel_rfl
theorem e3d : (readD x3 1).1 = List.replicate 32 97 ++ List.replicate 32 0 ++ List.replicate 32 97 ++ List.replicate 32 0 := by kernel_rfl
theorem e3e : x3.acts.length = 0 := by kernel_rfl
theorem e4 : (writeD x3 2 aT).1 = 0 := by kernel_rfl
theorem e5 : (crashE x4 []).1 = 0 := by kernel_rfl
theorem e6 : (startD x5).1 = 0 := by kernel_rfl
theorem e6b : x5.starts = 1 := by kernel_rfl
theorem e6c : (readD x6 2).2 = 41 := by kernel_rfl
theorem e6d : x6.acts.length = 0 := by kernel_rfl
theorem e7 : (writeD x6 2 aT).1 = 0 := by kernel_rfl
theorem e8 : (flushD x7).1 = 0 := by kernel_rfl
theorem e9 : (failF x8 0 [1]).1 = 0 := by kernel_rfl
theorem e9b : x9.acts.length = 0 := by kernel_rfl
theorem e10 : (eraseD x9 1).1 = 43 := by kernel_rfl
theorem e11 : statesD x10 = [0, 2, 1, 0] := by kernel_rfl
theorem e12 : x10.up = false := by kernel_rfl
theorem e13 : x10.starts = 2 := by kernel_rfl
end Go.Proofs.Ythlaackalmgfnaa
