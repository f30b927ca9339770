/- The law's all: blocks' bytes; Texts: two lists of texts compared. -/
import Derived.Test.YthlaackalmgfnaaEg
namespace Go.Proofs.Ythlaackalmgfnaa
open Go.RowKit

/-- Texts that a slice holds. -/
def TextsAt (w : World) (v : Value) (l : List (List UInt8)) : Prop := ∃ a c, v = .slice a l.length c ∧ ∀ i s, l[i]? = some s → ∃ b o, a = some ⟨b, o, none⟩ ∧ w.cell? ⟨b, o + i, none⟩ = some (.string (S s))
theorem TextsAt.below {w w' : World} {v : Value} {l : List (List UInt8)} (h : TextsAt w v l) (hb : Below w.heap.size w w') : TextsAt w' v l := by
  obtain ⟨a, c, e, hh⟩ := h
  refine ⟨a, c, e, fun i s hi => ?_⟩
  obtain ⟨b, o, ea, hc⟩ := hh i s hi
  exact ⟨b, o, ea, by rw [World.cell?_of_block (hb.block b (World.block_lt_of_cell? w _ hc))]; exact hc⟩
theorem IntsAt.below {w w' : World} {v : Value} {l : List Int} (h : IntsAt w v l) (hb : Below w.heap.size w w') : IntsAt w' v l := by
  obtain ⟨a, c, e, hh⟩ := h
  refine ⟨a, c, e, fun i s hi => ?_⟩
  obtain ⟨b, o, ea, hc⟩ := hh i s hi
  exact ⟨b, o, ea, by rw [World.cell?_of_block (hb.block b (World.block_lt_of_cell? w _ hc))]; exact hc⟩
def allD (d : Dv) : List (List UInt8) := (List.range d.sure.length).map fun i : Nat => (readD d (i : Int)).1
theorem allD_len (d : Dv) : (allD d).length = d.sure.length := by simp [allD]
theorem allD_get (d : Dv) (i : Nat) (h : i < d.sure.length) : (allD d)[i]? = some (readD d i).1 := by
  unfold allD
  rw [List.getElem?_map, List.getElem?_range h]
  rfl
def sv (l : List (List UInt8)) : List Value := l.map fun s => .string (S s)
theorem one_news {w : World} {A : ByteArray} : ∀ j u, [Value.string A][j]? = some u → (w.alloc (.cells #[.string A] 9)).cell? ((⟨w.heap.size, 0, none⟩ : Addr).add j) = some u := fun j u hj => by
  have hj0 : j = 0 := by have := (List.getElem?_eq_some_iff.1 hj).1; simpa using this
  subst hj0
  obtain rfl : Value.string A = u := by simpa using hj
  rw [Addr.add_mid, cell_of_row _ _ _ _ _ _ (heap_alloc_last w _)]
  rfl
theorem one_cells {A : ByteArray} : ∀ u ∈ [Value.string A], u.oneCell' = true := fun u hu => by
  obtain rfl : u = .string A := by simpa using hu
  rfl
theorem info_string : ∃ i, Try.prog.info? 9 = some i ∧ i.zero = some (.string ⟨#[]⟩) ∧ i.size = 1 ∧ i.bytes = 16 := by
  have h : (Try.prog.info? 9).map (fun i => (i.zero, i.size, i.bytes)) = some (some (.string ⟨#[]⟩), 1, 16) := by kernel_rfl
  cases hq : Try.prog.info? 9 with
  | none => rw [hq] at h; cases h
  | some i =>
    rw [hq] at h
    simp at h
    exact ⟨i, rfl, h.1, h.2.1, h.2.2⟩
theorem texts_of_owns {w : World} {B : Nat} {v : Value} {l : List (List UInt8)} (h : w.ownsRow B 9 1 v l.length (sv l)) : TextsAt w v l ∧ ∀ i, v.ownBlock = some i → B ≤ i ∧ i < w.heap.size := by
  refine ⟨?_, fun i hi => World.ownsRow.lt h i hi⟩
  rcases h.2 with ⟨h1, h2⟩ | ⟨g, cap, cur, h1, _, hg, _, _, _, htk⟩
  · refine ⟨none, 0, by rw [h1, h2], fun i n hi => ?_⟩
    have := (List.getElem?_eq_some_iff.1 hi).1
    omega
  · refine ⟨_, _, h1, fun i n hi => ⟨g, 0, rfl, ?_⟩⟩
    have hl := (List.getElem?_eq_some_iff.1 hi).1
    have e : (sv l)[i]? = some (.string (S n)) := by unfold sv; rw [List.getElem?_map, hi]; rfl
    rw [cell_of_row _ _ _ _ _ _ hg, Nat.zero_add, ← Array.getElem?_toList]
    rw [← htk, List.getElem?_take] at e
    simpa [hl] using e
set_option maxRecDepth 100000 in
theorem all_dev {w : World} {p : Nat} {d : Dv} {O : Nat → Prop} (h : Dev w p d O) : Calls Try.prog 30 #[.pointer (some ⟨p, 0, none⟩)] w fun e w' => ∃ v, e = .returned v ∧ TextsAt w' v (allD d) ∧ (∀ i, v.ownBlock = some i → w.heap.size ≤ i ∧ i < w'.heap.size) ∧ Below w.heap.size w w' := by
  obtain ⟨ia, i1, i2, i3, i4⟩ := info_string
  have HIA : Hid (Try.prog.info? 9 = some ia ∧ ia.zero = some (.string ⟨#[]⟩) ∧ ia.size = 1 ∧ ia.bytes = 16) := ⟨i1, i2, i3, i4⟩
  have hsm : d.sure.length ≤ 512 := by obtain ⟨_, _, _, _, _, _, _, h⟩ := h; exact h.small
  have HD : Hid (Dev w p d O) := h
  have HG : Hid (∀ i, i < d.sure.length → (allD d)[i]? = some (readD d i).1) := allD_get d
  have HL : Hid ((allD d).length = d.sure.length) := allD_len d
  clear i1 i2 i3 i4 h
  go_enter Try.func30, Try.ntmps30
  go_wp2
  go_loopw [3, 4] (fun v i wr => ∃ m : Nat, m ≤ d.sure.length ∧ i = .int .i64 m ∧ wr.ownsRow w.heap.size 9 1 v m (sv ((allD d).take m)) ∧ Below w.heap.size w wr) (fun _ i _ => d.sure.length - (intOf i).toNat)
  case atStart => exact ⟨0, Nat.zero_le _, rfl, World.ownsRow_nil _ _ _ _, Below.refl _ _⟩
  case round =>
    obtain ⟨m, hm, rfl, hown, hB⟩ := hrel
    have hDr := HD.out.below hB
    have HLen : Hid (Calls Try.prog 22 #[.pointer (some ⟨p, 0, none⟩)] wr fun e w' => e = .returned (.int .i64 (d.sure.length : Int)) ∧ w' = wr) := len_dev hDr
    by_cases hlt : m < d.sure.length
    · have HRe : Hid (Calls Try.prog 21 #[.pointer (some ⟨p, 0, none⟩), .int .i64 (m : Int)] wr fun e w' => e = .returned (.tuple #[.string (S (readD d m).1), .int .i64 (readD d m).2]) ∧ w' = wr) := read_dev hDr m
      have hlt2 : (m : Int) < (d.sure.length : Int) := by omega
      have HOw : Hid ((wr.alloc (.cells #[.string (S (readD d m).1)] 9)).ownsRow w.heap.size 9 1 u3 m (sv ((allD d).take m))) := hown.alloc _
      have HSz : Hid (w.heap.size ≤ wr.heap.size) := hB.size
      have HTk : Hid (sv ((allD d).take m) ++ [.string (S (readD d m).1)] = sv ((allD d).take (m + 1))) := by
        show _ = _
        rw [List.take_add_one, HG.out m hlt]
        simp [sv]
      have HB : Hid (Below w.heap.size w wr) := hB
      have HK : Hid (∀ k, u3.ownBlock = some k → w.heap.size ≤ k) := fun k hk => (World.ownsRow.lt hown k hk).1
      clear hown hB hDr
      go_wp2_with fail
      refine Calls.mono HLen.out ?_
      rintro e w2 ⟨rfl, rfl⟩
      clear HLen
      go_wp2_with fail
      refine Calls.mono HRe.out ?_
      rintro e w2' ⟨rfl, rfl⟩
      clear HRe
      generalize S (readD d m).1 = A at *
      go_wp2_with (refine wpList_append_own _ rfl _ _ 32 rfl w.heap.size 9 ia (.string ⟨#[]⟩) 1 16 Try.underlying32 HIA.out.1 HIA.out.2.1 HIA.out.2.2.1 HIA.out.2.2.2 rfl (by omega) u3 m (sv ((allD d).take m)) rfl HOw.out ⟨w2'.heap.size, 0, none⟩ 1 1 [.string A] rfl rfl one_news one_cells (by simp only [maxLen]; omega) (by omega) (by have := HSz.out; simp; omega) ?_; intro v' w1 r1 r2 r3; have HR : Hid (w1.ownsRow w.heap.size 9 1 v' (m + 1) (sv ((allD d).take (m + 1))) ∧ Below w.heap.size w w1) := ⟨by rw [← HTk.out]; exact r1, (HB.out.alloc HSz.out _).grown r2 (by have := HSz.out; simp; omega) HK.out⟩; clear r1 r2 r3)
      go_roundw
      case rel => exact ⟨m + 1, by omega, by go_num, HR.out⟩
      case measure => simp [intOf]; omega
    · obtain rfl : m = d.sure.length := by omega
      have hlt2 : ¬ ((d.sure.length : Nat) : Int) < (d.sure.length : Int) := by omega
      have HR : Hid (wr.ownsRow w.heap.size 9 1 u3 (allD d).length (sv (allD d)) ∧ Below w.heap.size w wr) := ⟨by
        have := hown
        rw [List.take_of_length_le (by rw [HL.out]; omega)] at this
        rw [HL.out]; exact this, hB⟩
      clear hown hB hDr
      go_wp2_with fail
      refine Calls.mono HLen.out ?_
      rintro e w2 ⟨rfl, rfl⟩
      clear HLen
      go_wp2
      go_ret
      exact ⟨_, rfl, (texts_of_owns HR.out.1).1, (texts_of_owns HR.out.1).2, HR.out.2⟩
end Go.Proofs.Ythlaackalmgfnaa
