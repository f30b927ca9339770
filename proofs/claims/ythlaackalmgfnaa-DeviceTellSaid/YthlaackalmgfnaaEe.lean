/- What is asked of devices, in memory; the law's Much; With on what is no device. -/
import Derived.Test.YthlaackalmgfnaaEd
namespace Go.Proofs.Ythlaackalmgfnaa
open Go.RowKit

/-- One thing that is asked. -/
structure DoX where
  q : Nat
  i : Int
  n : Int
  s : List UInt8
  k : List Int
  ka : Option Addr
  kc : Nat
def DoX.kv (x : DoX) : Value := .slice x.ka x.k.length x.kc
def DoX.v (x : DoX) : Array Value := doV x.q x.i x.n x.s x.kv
structure DoX.ok (w : World) (x : DoX) : Prop where
  q : x.q < 256
  i : x.i < 9223372036854775808
  n : x.n < 9223372036854775808
  k : IntsAt w x.kv x.k
/-- A list of them, at its place. -/
def DosAt (w : World) (a : Option Addr) (xs : List DoX) : Prop := ∀ j x, xs[j]? = some x → x.ok w ∧ ∃ b o, a = some ⟨b, o, none⟩ ∧ w.rangeAt b (o + j * 5) x.v.toList
theorem DoX.size (x : DoX) : x.v.toList.length = 5 := rfl
theorem DoX.ok.below {w w' : World} {x : DoX} (h : x.ok w) (hb : Below w.heap.size w w') : x.ok w' :=
  ⟨h.q, h.i, h.n, by
    obtain ⟨a, c, e, hh⟩ := h.k
    refine ⟨a, c, e, fun i n hi => ?_⟩
    obtain ⟨b, o, ea, hc⟩ := hh i n hi
    exact ⟨b, o, ea, by rw [World.cell?_of_block (hb.block b (World.block_lt_of_cell? w _ hc))]; exact hc⟩⟩
theorem range_below {w w' : World} {b o : Nat} {l : List Value} (h : w.rangeAt b o l) (hb : Below w.heap.size w w') : w'.rangeAt b o l := fun j v hj => by
  have := h j v hj
  rw [World.cell?_of_block (hb.block b (World.block_lt_of_cell? w _ this))]
  exact this
theorem DosAt.below {w w' : World} {a : Option Addr} {xs : List DoX} (h : DosAt w a xs) (hb : Below w.heap.size w w') : DosAt w' a xs := fun j x hj => by
  obtain ⟨h1, b, o, ea, h2⟩ := h j x hj
  exact ⟨h1.below hb, b, o, ea, range_below h2 hb⟩
/-- Is that more than is gone through? -/
def muchB (x : DoX) : Bool := decide (200 < x.s.length) || decide (100 < x.k.length)
def muchD (xs : List DoX) (many : Nat) : Bool := decide (many < xs.length) || xs.any muchB
set_option maxRecDepth 100000 in
theorem much_any {w : World} {a : Option Addr} {xs : List DoX} (h : DosAt w a xs) (c : Nat) (many : Nat) (hm : many < 1000000) : Calls Try.prog 9 #[.slice a xs.length c, .int .i64 (many : Int)] w fun e w' => e = .returned (.bool (muchD xs many)) ∧ w' = w := by
  by_cases hl : many < xs.length
  · rw [show muchD xs many = true by unfold muchD; rw [decide_eq_true hl]; rfl]
    have hl2 : (many : Int) < (xs.length : Int) := by omega
    clear hl
    go_enter Try.func9, Try.ntmps9
    go_wp2
    go_ret
    exact ⟨rfl, rfl⟩
  · obtain ⟨r, hr⟩ : ∃ r, muchD xs many = r := ⟨_, rfl⟩
    rw [hr]
    have HR : Hid (xs.any muchB = r) := by show _ = _; rw [← hr]; unfold muchD; rw [decide_eq_false hl]; rfl
    have hl2 : ¬ (many : Int) < (xs.length : Int) := by omega
    have hl3 : xs.length < 1000000 := by omega
    have HD : Hid (DosAt w a xs) := h
    clear hl hr h
    go_enter Try.func9, Try.ntmps9
    go_wp2
    go_loopw [5] (fun i wr => ∃ j : Nat, j ≤ xs.length ∧ i = .int .i64 j ∧ (xs.take j).any muchB = false ∧ wr = w) (fun i _ => xs.length - (intOf i).toNat)
    case atStart => exact ⟨0, Nat.zero_le _, rfl, rfl, rfl⟩
    case round =>
      obtain ⟨j, hj, rfl, hany, rfl⟩ := hrel
      by_cases hlt : j < xs.length
      · obtain ⟨x, hx⟩ : ∃ x, xs[j]? = some x := ⟨_, List.getElem?_eq_getElem hlt⟩
        obtain ⟨hok, b, o, rfl, hrg⟩ := HD.out j x hx
        have c3 : wr.cell? ⟨b, o + j * 5 + 3, none⟩ = some (.string (S x.s)) := hrg 3 _ rfl
        have c4 : wr.cell? ⟨b, o + j * 5 + 4, none⟩ = some (.slice x.ka x.k.length x.kc) := hrg 4 _ rfl
        have hlt2 : (j : Int) < (xs.length : Int) := by omega
        have hsz : ((S x.s).size : Int) = (x.s.length : Int) := by rw [S_size]
        have hsz2 : (S x.s).size = x.s.length := S_size _
        have HT : Hid (muchB x = true → r = true) := fun hb => by
          show _ = _
          rw [← HR.out, List.any_eq_true]
          exact ⟨x, List.mem_of_getElem? hx, hb⟩
        have HF : Hid (muchB x = false → (xs.take (j + 1)).any muchB = false) := fun hb => by
          show _ = _
          rw [List.take_add_one, hx, List.any_append, hany]
          simp [hb]
        clear hrg hok hx hany HR HD
        by_cases h1 : 200 < x.s.length
        · have hR : r = true := HT.out (by unfold muchB; rw [decide_eq_true h1]; rfl)
          have HRR : Hid (r = true) := hR
          have t1 : (200 : Int) < (x.s.length : Int) := by omega
          clear hR HT HF h1
          generalize S x.s = A at *
          go_wp2
          go_ret
          exact ⟨by rw [HRR.out]; rfl, rfl⟩
        · have t1 : ¬ (200 : Int) < (x.s.length : Int) := by omega
          by_cases h2 : 100 < x.k.length
          · have hR : r = true := HT.out (by unfold muchB; rw [decide_eq_true h2]; simp)
            have HRR : Hid (r = true) := hR
            have t2 : (100 : Int) < (x.k.length : Int) := by omega
            clear hR HT HF h1 h2
            generalize S x.s = A at *
            go_wp2
            go_ret
            exact ⟨by rw [HRR.out]; rfl, rfl⟩
          · have t2 : ¬ (100 : Int) < (x.k.length : Int) := by omega
            have HN : Hid ((xs.take (j + 1)).any muchB = false) := HF.out (by unfold muchB; rw [decide_eq_false h1, decide_eq_false h2]; rfl)
            clear HT HF h1 h2
            generalize S x.s = A at *
            go_wp2
            go_roundw
            case rel => exact ⟨j + 1, by omega, by go_num, HN.out, by first | rfl | trivial⟩
            case measure => simp [intOf]; omega
      · obtain rfl : j = xs.length := by omega
        have HF : Hid (r = false) := by
          show _ = _
          rw [← HR.out]
          rwa [List.take_of_length_le (Nat.le_refl _)] at hany
        clear hany HR HD
        go_wp2
        go_ret
        exact ⟨by rw [HF.out]; rfl, rfl⟩
theorem Non.below {w w' : World} {v : Value} (h : Non w v) (hb : Below w.heap.size w w') : Non w' v := by
  rcases h with h | ⟨p, h1, h2⟩
  · exact .inl h
  · exact .inr ⟨p, h1, by rw [World.cell?_of_block (hb.block p (World.block_lt_of_cell? w _ h2))]; exact h2⟩
set_option maxRecDepth 100000 in
theorem tamper_non {w : World} {v : Value} (h : Non w v) (i n : Int) (s : ByteArray) : Calls Try.prog 37 #[v, .int .i64 i, .int .i64 n, .string s] w fun e w' => e = .returned (.int .i64 1) ∧ Below w.heap.size w w' := by
  have HN : Hid (∀ o : Obj, Calls Try.prog 49 #[v] (w.alloc o) fun e w' => e = .returned (.bool true) ∧ w' = w.alloc o) := fun o => isNone_non (h.below ((Below.refl _ _).alloc (Nat.le_refl _) _))
  clear h
  go_enter Try.func37, Try.ntmps37
  go_wp2_with fail
  refine (HN.out _).mono ?_
  rintro e w' ⟨rfl, rfl⟩
  clear HN
  go_wp2
  go_ret
  exact ⟨rfl, (Below.refl _ _).alloc (Nat.le_refl _) _⟩
/-- With on what is no device: ErrNil. -/
theorem with_non {w : World} {v : Value} (h : Non w v) (q : Nat) (hq : q < 256) (i n : Int) (s : List UInt8) (ka : Option Addr) (kl kc : Nat) :
    Calls Try.prog 12 #[v, .agg (doV q i n s (.slice ka kl kc))] w (Tells fun r w' => r = 1 ∧ Below w.heap.size w w') := by
  have keep : ∀ {w1 : World} {e : Ending} {w' : World}, Below w.heap.size w w1 → e = .returned (.int .i64 1) ∧ w' = w1 → TellsK w.heap.size w1 (fun r w' => r = 1 ∧ Below w.heap.size w w') e w' := fun hb hh => ⟨1, hh.1, ⟨rfl, by rw [hh.2]; exact hb⟩, fun k _ _ => by rw [hh.2]⟩
  have hm : q % 13 < 13 := Nat.mod_lt _ (by omega)
  by_cases h0 : q % 13 < 4
  · exact with_0 h0 hq fun w1 hb => (write_non (h.below hb) i _).mono fun _ _ hh => keep hb hh
  · have hc : q % 13 = 4 ∨ q % 13 = 5 ∨ q % 13 = 6 ∨ q % 13 = 7 ∨ q % 13 = 8 ∨ q % 13 = 9 ∨ q % 13 = 10 ∨ q % 13 = 11 ∨ q % 13 = 12 := by omega
    rcases hc with hc | hc | hc | hc | hc | hc | hc | hc | hc
    · exact with_4 hc hq fun w1 hb => (write_non (h.below hb) i _).mono fun _ _ hh => keep hb hh
    · exact with_5 hc hq fun w1 hb => (erase_non (h.below hb) i).mono fun _ _ hh => keep hb hh
    · exact with_6 hc hq fun w1 hb => (erase_non (h.below hb) i).mono fun _ _ hh => keep hb hh
    · exact with_7 hc hq fun w1 hb => (flush_non (h.below hb)).mono fun _ _ hh => keep hb hh
    · exact with_8 hc hq fun w1 hb => (crash_non (h.below hb) _).mono fun _ _ hh => keep hb hh
    · exact with_9 hc hq fun w1 hb => (start_non (h.below hb)).mono fun _ _ hh => keep hb hh
    · exact with_10 hc hq fun w1 hb => (start_non (h.below hb)).mono fun _ _ hh => keep hb hh
    · exact with_11 hc hq fun w1 hb => (fail_non (h.below hb) n _).mono fun _ _ hh => keep hb hh
    · exact with_12 hc hq fun w1 hb => (tamper_non (h.below hb) i n _).mono fun _ _ hh => ⟨1, hh.1, ⟨rfl, hb.trans (hh.2.mono hb.size)⟩, fun k _ hk => hh.2.block k hk⟩
end Go.Proofs.Ythlaackalmgfnaa
