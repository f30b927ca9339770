/- Hashes of pieces by a writer: the sum of package leaves (layer 8). -/
import Derived.Test.YtficmbaffkkfhaaDoorUb
namespace Go.Proofs.YtficmbaffkkfhaaDoor
open Go.RowKit

/-- Texts that a slice holds. -/
def StrsAt (w : World) (v : Value) (ts : List (List UInt8)) : Prop := ∃ a c, v = .slice a ts.length c ∧ ∀ i t, ts[i]? = some t → ∃ b o, a = some ⟨b, o, none⟩ ∧ w.cell? ⟨b, o + i, none⟩ = some (.string (S t))
/-- The writer, and the box of the result. -/
structure Of (w : World) (p : Nat) (Z : Array Value) (l : List UInt8) (w' : World) : Prop where
  below : Below w.heap.size w w'
  k : TabK w'
  kw : 2 < w.heap.size
  r : w'.heap[w.heap.size]? = some (.cells Z 23 (0, 0))
  wr : IsW w' p l
  lt : w.heap.size < p
theorem Of.write {w : World} {p : Nat} {Z : Array Value} {l : List UInt8} {w' : World} (h : Of w p Z l w') (x : List UInt8) (hl : l.length + x.length ≤ 1099511627776) :
    Calls Tryd.prog 38 #[.pointer (some ⟨p, 0, none⟩), .string (S x)] w' fun e w'' => e = .returned (.int .i64 0) ∧ Of w p Z (l ++ x) w'' := by
  have := h.kw
  have h1 := h.lt
  refine (write_any p l x w' h.k (by omega) h.wr hl).mono ?_
  rintro e w'' ⟨rfl, W, B⟩
  exact ⟨rfl, h.below.trans (B.below (by omega) h.below.size), h.k.but B (by omega), h.kw, (B.block _ (Array.getElem?_eq_some_iff.1 h.r).1 (by omega)).trans h.r, W, h.lt⟩
set_option maxRecDepth 100000 in
set_option maxHeartbeats 2000000 in
theorem lsum_any {w : World} {v : Value} {ts : List (List UInt8)} (hK : TabK w) (h : StrsAt w v ts) (hn : ts.length ≤ 1000) (hl : ts.flatten.length ≤ 1000000) :
    Calls Tryd.prog 29 #[v] w fun e w' => e = .returned (.agg (hv (shaL ts.flatten))) ∧ Below w.heap.size w w' := by
  obtain ⟨a, c, rfl, hh⟩ := h
  have HL : Hid (∀ i t, ts[i]? = some t → ∃ b o, a = some ⟨b, o, none⟩ ∧ ∀ w', Below w.heap.size w w' → w'.cell? ⟨b, o + i, none⟩ = some (.string (S t))) := fun i t hi => by
    obtain ⟨b, o, e, hc⟩ := hh i t hi
    exact ⟨b, o, e, fun w' hb => by rw [World.cell?_of_block (hb.block b (World.block_lt_of_cell? w _ hc))]; exact hc⟩
  have HFl : Hid (∀ m, (ts.take m).flatten.length ≤ ts.flatten.length) := fun m => by
    have : ts.flatten = (ts.take m).flatten ++ (ts.drop m).flatten := by rw [← List.flatten_append, List.take_append_drop]
    rw [this, List.length_append]; omega
  obtain ⟨w1, hw1, b1, hg1⟩ := hash_box w
  have e4 : (hv (shaL ts.flatten)).size = 32 := by rw [hv_size, shaL_length]
  have e5 := hv_one (shaL ts.flatten)
  have z1 : Hid ((hv (padTo 32 [])).size = 32) := hz_size
  have HNw : Hid (Calls Tryd.prog 37 #[] w1 fun e w' => e = .returned (.pointer (some ⟨w1.heap.size, 0, none⟩)) ∧ IsW w' w1.heap.size [] ∧ Below w1.heap.size w1 w') := new_any w1
  have HO : Hid (∀ w', IsW w' w1.heap.size [] → Below w1.heap.size w1 w' → Of w w1.heap.size (hv (padTo 32 [])) [] w') := fun w' hW hb => by
    have b2 := b1.trans (hb.mono b1.size)
    exact ⟨b2, hK.below b2 hK.lt, hK.lt, (hb.block _ (Array.getElem?_eq_some_iff.1 hg1).1).trans hg1, hW, (Array.getElem?_eq_some_iff.1 hg1).1⟩
  obtain ⟨p, hp⟩ : ∃ p, w1.heap.size = p := ⟨_, rfl⟩
  rw [hp] at HNw HO
  obtain ⟨R, hR⟩ : ∃ R, hv (shaL ts.flatten) = R := ⟨_, rfl⟩
  have HR : Hid (hv (shaL ts.flatten) = R) := hR
  rw [hR] at e4 e5
  rw [hR]
  obtain ⟨Z, hZ⟩ : ∃ Z, hv (padTo 32 []) = Z := ⟨_, rfl⟩
  have hwz := hw1
  rw [zero_h32] at hwz
  rw [hZ] at z1 HO
  clear hg1 b1 hh hw1 hR hZ
  go_enter Tryd.func29, Tryd.ntmps29
  go_wp2_with fail
  refine HNw.out.mono ?_
  rintro e w2 ⟨rfl, W2, b2⟩
  have HX : Hid (Of w p Z [] w2) := HO.out w2 W2 b2
  clear W2 b2 HNw HO hwz hp
  go_wp2
  go_loopw [9] (fun iv wr => ∃ m : Nat, m ≤ ts.length ∧ iv = .int .i64 m ∧ Of w p Z (ts.take m).flatten wr) (fun iv _ => ts.length - (intOf iv).toNat)
  case atStart => exact ⟨0, Nat.zero_le _, rfl, HX.out⟩
  case round =>
    obtain ⟨m, hm, rfl, hX⟩ := hrel
    clear HX
    by_cases hlt : m < ts.length
    · obtain ⟨t, ht⟩ : ∃ t, ts[m]? = some t := ⟨_, List.getElem?_eq_getElem hlt⟩
      obtain ⟨b, o, rfl, hc⟩ := HL.out m t ht
      have c1 := hc wr hX.below
      have hst : Hid ((ts.take m).flatten ++ t = (ts.take (m + 1)).flatten) := by show _ = _; rw [List.take_add_one, ht]; simp
      have hle := HFl.out (m + 1)
      rw [← hst.out, List.length_append] at hle
      have HWt : Hid (Calls Tryd.prog 38 #[.pointer (some ⟨p, 0, none⟩), .string (S t)] wr fun e w'' => e = .returned (.int .i64 0) ∧ Of w p Z ((ts.take m).flatten ++ t) w'') := hX.write t (by omega)
      have hlt2 : (m : Int) < (ts.length : Int) := by omega
      rw [hst.out] at HWt
      clear hX ht hc hst hle
      generalize S t = T at *
      go_wp2_with fail
      refine HWt.out.mono ?_
      rintro e w3 ⟨rfl, hX⟩
      have HX : Hid _ := hX
      clear hX HWt c1
      go_wp2
      go_roundw
      case rel => exact ⟨m + 1, by omega, by go_num, HX.out⟩
      case measure => simp [intOf]; omega
    · obtain rfl : m = ts.length := by omega
      have hlt2 : ¬ ((ts.length : Nat) : Int) < (ts.length : Int) := by omega
      rw [List.take_of_length_le (Nat.le_refl _)] at hX
      have HS : Hid (Calls Tryd.prog 39 #[.pointer (some ⟨p, 0, none⟩)] wr fun e w' => e = .returned (.agg R) ∧ Below wr.heap.size wr w') := by rw [← HR.out]; exact wsum_any p _ wr hX.k hX.wr (by omega)
      have HG : Hid (∀ w', Below wr.heap.size wr w' → w'.heap[w.heap.size]? = some (.cells Z 23 (0, 0))) := fun w' hb => (hb.block _ (Array.getElem?_eq_some_iff.1 hX.r).1).trans hX.r
      have HB : Hid (∀ w', Below wr.heap.size wr w' → Below w.heap.size w w') := fun w' hb => hX.below.trans (hb.mono hX.below.size)
      clear hX
      go_wp2_with fail
      refine HS.out.mono ?_
      rintro e w3 ⟨rfl, b3⟩
      have g2 := HG.out w3 b3
      have HB2 : Hid _ := HB.out w3 b3
      clear b3
      go_wp2_with (refine wpList_store_row rfl 23 _ _ rfl w.heap.size R rfl rfl _ _ g2 (by rw [info_h32, e4]) (by rw [z1.out, e4]) e5 ?_)
      refine bodyPost_ret (v := .agg R) (results_cell1 (p := 2) Tryd.results29 _ _ w.heap.size 32 23 5 R (0, 0) rfl (heap_setRow_same g2) Tryd.underlying23 info_h32 e4) rfl ⟨rfl, below_setRow HB2.out (Nat.le_refl _) _⟩
end Go.Proofs.YtficmbaffkkfhaaDoor
