/- A device that is not running; texts compared; what stays while a device turns. -/
import Derived.Test.YthlaackalmgfnaaEh
import Derived.Test.YthlaackalmgfnaaEj
namespace Go.Proofs.Ythlaackalmgfnaa
open Go.RowKit

theorem write_down {w : World} {p : Nat} {d : Dv} {O : Nat → Prop} (h : Dev w p d O) (hu : d.up = false) (i : Int) (s : ByteArray) : Calls Try.prog 19 #[.pointer (some ⟨p, 0, none⟩), .int .i64 i, .string s] w fun e w' => e = .returned (.int .i64 43) ∧ w' = w := by
  have hn := refuses_dev h
  rw [hu] at hn
  clear h hu
  go_enter Try.func19, Try.ntmps19
  go_wp2_with (go_at_call 51; refine hn.mono ?_; rintro e w' ⟨rfl, rfl⟩)
  go_ret
  exact ⟨rfl, rfl⟩
theorem erase_down {w : World} {p : Nat} {d : Dv} {O : Nat → Prop} (h : Dev w p d O) (hu : d.up = false) (i : Int) : Calls Try.prog 33 #[.pointer (some ⟨p, 0, none⟩), .int .i64 i] w fun e w' => e = .returned (.int .i64 43) ∧ w' = w := by
  have hn := refuses_dev h
  rw [hu] at hn
  clear h hu
  go_enter Try.func33, Try.ntmps33
  go_wp2_with (go_at_call 51; refine hn.mono ?_; rintro e w' ⟨rfl, rfl⟩)
  go_ret
  exact ⟨rfl, rfl⟩
theorem flush_down {w : World} {p : Nat} {d : Dv} {O : Nat → Prop} (h : Dev w p d O) (hu : d.up = false) : Calls Try.prog 29 #[.pointer (some ⟨p, 0, none⟩)] w fun e w' => e = .returned (.int .i64 43) ∧ w' = w := by
  have hn := refuses_dev h
  rw [hu] at hn
  clear h hu
  go_enter Try.func29, Try.ntmps29
  go_wp2_with (go_at_call 51; refine hn.mono ?_; rintro e w' ⟨rfl, rfl⟩)
  go_ret
  exact ⟨rfl, rfl⟩
theorem crash_down {w : World} {p : Nat} {d : Dv} {O : Nat → Prop} (h : Dev w p d O) (hu : d.up = false) (k : Value) : Calls Try.prog 31 #[.pointer (some ⟨p, 0, none⟩), k] w fun e w' => e = .returned (.int .i64 43) ∧ w' = w := by
  have hn := refuses_dev h
  rw [hu] at hn
  clear h hu
  go_enter Try.func31, Try.ntmps31
  go_wp2_with (go_at_call 51; refine hn.mono ?_; rintro e w' ⟨rfl, rfl⟩)
  go_ret
  exact ⟨rfl, rfl⟩
theorem fail_down {w : World} {p : Nat} {d : Dv} {O : Nat → Prop} (h : Dev w p d O) (hu : d.up = false) (n : Int) (k : Value) : Calls Try.prog 34 #[.pointer (some ⟨p, 0, none⟩), .int .i64 n, k] w fun e w' => e = .returned (.int .i64 43) ∧ w' = w := by
  have hn := refuses_dev h
  rw [hu] at hn
  clear h hu
  go_enter Try.func34, Try.ntmps34
  go_wp2_with (go_at_call 51; refine hn.mono ?_; rintro e w' ⟨rfl, rfl⟩)
  go_ret
  exact ⟨rfl, rfl⟩
theorem read_down {w : World} {p : Nat} {d : Dv} {O : Nat → Prop} (h : Dev w p d O) (hu : d.up = false) (i : Int) : Calls Try.prog 21 #[.pointer (some ⟨p, 0, none⟩), .int .i64 i] w fun e w' => e = .returned (.tuple #[.string ⟨#[]⟩, .int .i64 43]) ∧ w' = w := by
  have hn := refuses_dev h
  rw [hu] at hn
  clear h hu
  go_enter Try.func21, Try.ntmps21
  go_wp2_with (go_at_call 51; refine hn.mono ?_; rintro e w' ⟨rfl, rfl⟩)
  go_ret2
  exact ⟨rfl, rfl⟩
/-- With on a device that is not running: ErrDown, but for a start and a tampering. -/
theorem with_down {w : World} {p : Nat} {d : Dv} {O : Nat → Prop} (h : Dev w p d O) (hu : d.up = false) (q : Nat) (hq : q < 12) (h9 : q ≠ 9) (h10 : q ≠ 10) (i n : Int) (s : List UInt8) (ka : Option Addr) (kl kc : Nat) :
    Calls Try.prog 12 #[.pointer (some ⟨p, 0, none⟩), .agg (doV q i n s (.slice ka kl kc))] w (Tells fun r w' => r = 43 ∧ Below w.heap.size w w') := by
  have keep : ∀ {w1 : World} {e : Ending} {w' : World}, Below w.heap.size w w1 → e = .returned (.int .i64 43) ∧ w' = w1 → TellsK w.heap.size w1 (fun r w' => r = 43 ∧ Below w.heap.size w w') e w' := fun hb hh => ⟨43, hh.1, ⟨rfl, by rw [hh.2]; exact hb⟩, fun k _ _ => by rw [hh.2]⟩
  have hm : q % 13 = q := Nat.mod_eq_of_lt (by omega)
  by_cases h0 : q < 4
  · exact with_0 (by omega) (by omega) fun w1 hb => (write_down (h.below hb) hu i _).mono fun _ _ hh => keep hb hh
  · have hc : q = 4 ∨ q = 5 ∨ q = 6 ∨ q = 7 ∨ q = 8 ∨ q = 11 := by omega
    rcases hc with hc | hc | hc | hc | hc | hc
    · exact with_4 (by omega) (by omega) fun w1 hb => (write_down (h.below hb) hu i _).mono fun _ _ hh => keep hb hh
    · exact with_5 (by omega) (by omega) fun w1 hb => (erase_down (h.below hb) hu i).mono fun _ _ hh => keep hb hh
    · exact with_6 (by omega) (by omega) fun w1 hb => (erase_down (h.below hb) hu i).mono fun _ _ hh => keep hb hh
    · exact with_7 (by omega) (by omega) fun w1 hb => (flush_down (h.below hb) hu).mono fun _ _ hh => keep hb hh
    · exact with_8 (by omega) (by omega) fun w1 hb => (crash_down (h.below hb) hu _).mono fun _ _ hh => keep hb hh
    · exact with_11 (by omega) (by omega) fun w1 hb => (fail_down (h.below hb) hu n _).mono fun _ _ hh => keep hb hh
theorem IntsAt.turn {w w' : World} {O : Nat → Prop} {v : Value} {l : List Int} (h : IntsAt w v l) (ht : Turn O w w') (hno : ∀ i, v.ownBlock = some i → ¬ O i) : IntsAt w' v l := by
  obtain ⟨a, c, e, hh⟩ := h
  refine ⟨a, c, e, fun i s hi => ?_⟩
  obtain ⟨b, o, rfl, hc⟩ := hh i s hi
  exact ⟨b, o, rfl, by rw [World.cell?_of_block (ht.block b (World.block_lt_of_cell? w _ hc) (hno b (by rw [e]; rfl)))]; exact hc⟩
theorem TextsAt.turn {w w' : World} {O : Nat → Prop} {v : Value} {l : List (List UInt8)} (h : TextsAt w v l) (ht : Turn O w w') (hno : ∀ i, v.ownBlock = some i → ¬ O i) : TextsAt w' v l := by
  obtain ⟨a, c, e, hh⟩ := h
  refine ⟨a, c, e, fun i s hi => ?_⟩
  obtain ⟨b, o, rfl, hc⟩ := hh i s hi
  exact ⟨b, o, rfl, by rw [World.cell?_of_block (ht.block b (World.block_lt_of_cell? w _ hc) (hno b (by rw [e]; rfl)))]; exact hc⟩
theorem TextsAt.cellOf {w : World} {a : Option Addr} {n c : Nat} {l : List (List UInt8)} (h : TextsAt w (.slice a n c) l) : n = l.length ∧ ∀ i x, l[i]? = some x → ∃ b o, a = some ⟨b, o, none⟩ ∧ ∀ w', Below w.heap.size w w' → w'.cell? ⟨b, o + i, none⟩ = some (.string (S x)) := by
  obtain ⟨a', c', e, h⟩ := h
  simp at e
  obtain ⟨rfl, rfl, rfl⟩ := e
  refine ⟨rfl, fun i x hi => ?_⟩
  obtain ⟨b, o, rfl, hc⟩ := h i x hi
  refine ⟨b, o, rfl, fun w' hb => ?_⟩
  have hlt := World.block_lt_of_cell? w _ hc
  rw [World.cell?_of_block (hb.block b hlt)]
  exact hc
set_option maxRecDepth 100000 in
/-- Two lists of the same texts. -/
theorem texts_same {w : World} {v1 v2 : Value} {l : List (List UInt8)} (h1 : TextsAt w v1 l) (h2 : TextsAt w v2 l) (hl : l.length ≤ 1000000) : Calls Try.prog 35 #[v1, v2] w fun e w' => e = .returned (.bool true) ∧ Below w.heap.size w w' := by
  obtain ⟨a1, q1, rfl, -⟩ := id h1
  obtain ⟨a2, q2, rfl, -⟩ := id h2
  have H1 : Hid _ := h1.cellOf.2
  have H2 : Hid _ := h2.cellOf.2
  have hne : ((l.length : Int) != (l.length : Int)) = false := by simp
  clear h1 h2
  go_enter Try.func35, Try.ntmps35
  go_wp2
  go_loopw [5] (fun i wr => ∃ k : Nat, k ≤ l.length ∧ i = .int .i64 k ∧ Below w.heap.size w wr) (fun i _ => l.length - (intOf i).toNat)
  case atStart => exact ⟨0, Nat.zero_le _, rfl, Below.refl _ _⟩
  case round =>
    obtain ⟨k, hk, rfl, hB⟩ := hrel
    by_cases hlt : k < l.length
    · obtain ⟨x, hx⟩ : ∃ x, l[k]? = some x := ⟨_, List.getElem?_eq_getElem hlt⟩
      obtain ⟨b1, o1, rfl, k1⟩ := H1.out k x hx
      obtain ⟨b2, o2, rfl, k2⟩ := H2.out k x hx
      have c1 := k1 wr hB
      have c2 := k2 wr hB
      have hlt2 : (k : Int) < (l.length : Int) := by omega
      have HB : Hid (Below w.heap.size w wr) := hB
      clear hx hB k1 k2
      generalize S x = A at *
      go_wp2
      go_quiet (fail)
      have HBq : Hid (Below w.heap.size w (wr.drewN nq)) := below_drewN HB.out _
      generalize wr.drewN nq = wx at *
      go_wp2
      go_roundw
      case rel => exact ⟨k + 1, by omega, by go_num, HBq.out⟩
      case measure => simp [intOf]; omega
    · obtain rfl : k = l.length := by omega
      have HB : Hid _ := hB
      clear hB
      go_wp2
      go_ret
      exact ⟨rfl, HB.out⟩
end Go.Proofs.Ythlaackalmgfnaa
