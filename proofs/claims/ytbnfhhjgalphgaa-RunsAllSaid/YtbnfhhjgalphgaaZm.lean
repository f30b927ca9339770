/- The law RunsAll (layer 7). -/
import Derived.Test.YtbnfhhjgalphgaaZl
namespace Go.Proofs.Ytbnfhhjgalphgaa
open Go.RowKit

theorem st_blank {st : List Int} {m : Nat} {z : Int} (h : st[m]? = some z) : blankB st m = decide (z = 0) := by unfold blankB; rw [h]; simp
set_option maxRecDepth 100000 in
set_option maxHeartbeats 4000000 in
theorem all_walk {W : World} {v : Value} {l : List Int} (h : U8At W v l) : Calls Try.prog 7 #[v] W fun e w' => e = .returned (.bool true) ∧ Below W.heap.size W w' := by
  obtain ⟨_, a, q, rfl, _⟩ := id h
  by_cases h2 : 200 < l.length
  · have h3 : (l.length : Int) > 200 := by omega
    clear h
    go_enter Try.func7, Try.ntmps7
    go_wp2
    go_ret
    exact ⟨rfl, Below.refl _ _⟩
  have h3 : ¬ (l.length : Int) > 200 := by omega
  have HSt : Hid (Calls Try.prog 23 #[.slice a l.length q] W fun e w' => ∃ a c, e = .returned (.slice a l.length c) ∧ Nu W W.heap.size (.slice a l.length c) (stL l) w') := states_any h (by omega)
  clear h
  go_enter Try.func7, Try.ntmps7
  go_wp2_with fail
  refine HSt.out.mono ?_
  rintro e w1 ⟨sa, sc, rfl, hN⟩
  have hlen : (stL l).length = l.length := stL_length l
  obtain ⟨_, _, hsl, hsc⟩ := hN.slice
  have hcap : ∀ a n c, Value.slice sa l.length sc = .slice a n c → n ≤ c := fun a n c e => by have e1 := Value.slice.inj e; have e2 := Value.slice.inj hsl; omega
  have HFr := free_rl hN.nums hcap (by omega)
  have HNs : Hid (∀ w', Below w1.heap.size w1 w' → NumsAt w' (.slice sa l.length sc) (stL l)) := fun w' hb => hN.nums.below hb
  have HB1 : Hid (∀ w', Below w1.heap.size w1 w' → Below W.heap.size W w') := fun w' hb => hN.below.trans (hb.mono hN.size)
  have HOk := freeL_ok (stL l) (by omega)
  generalize stL l = st at *
  have HFr : Hid (Calls Try.prog 21 #[.slice sa l.length sc] w1 fun e w' => ∃ a c, e = .returned (.slice a (freeL st).length c) ∧ RL w' (.slice a (freeL st).length c) (freeL st) ∧ Below w1.heap.size w1 w') := HFr
  have HLn : Hid (st.length = l.length) := hlen
  have HH0 : Hid (∀ j : Int, hasB (freeL st) j = true ↔ ((0 : Nat) : Int) ≤ j ∧ j < st.length ∧ blankB st j.toNat = true) := fun j => by rw [HOk.has j]; rfl
  clear hN HSt hlen hsl hsc hcap HOk
  go_wp2_with fail
  refine HFr.out.mono ?_
  rintro e w2 ⟨fa, fc, rfl, hF, b2⟩
  have HR2 : Hid (RL w2 (.slice fa (freeL st).length fc) (freeL st)) := hF
  have HB2 : Hid (Below w1.heap.size w1 w2) := b2
  clear hF b2 HFr
  obtain ⟨N, hN⟩ : ∃ N, l.length = N := ⟨_, rfl⟩
  rw [hN] at HLn HNs h2 h3
  go_wp2
  clear hN
  go_loopw [4, 5] (fun fv iv wr => ∃ (m : Nat) (F : List Rn), m ≤ N ∧ iv = .int .i64 m ∧ (∀ j : Int, hasB F j = true ↔ (m : Int) ≤ j ∧ j < st.length ∧ blankB st j.toNat = true) ∧ ∃ xa xc, fv = .slice xa F.length xc ∧ RL wr (.slice xa F.length xc) F ∧ Below w1.heap.size w1 wr) (fun _ iv _ => N - (intOf iv).toNat)
  case atStart => exact ⟨0, freeL st, Nat.zero_le _, rfl, HH0.out, fa, fc, rfl, HR2.out, HB2.out⟩
  case round =>
    obtain ⟨m, F, hm, rfl, hh, xa, xc, rfl, hR, hB⟩ := hrel
    clear HR2 HB2 HH0
    by_cases hlt : m < N
    rotate_left
    · obtain rfl : m = N := by omega
      have hF0 : F = [] := none_left hR.chk (by have := HLn.out; rw [this] at hh ⊢; exact hh)
      subst hF0
      have hlt2 : ¬ ((m : Nat) : Int) < (m : Int) := by omega
      have HT := take_rl 1 hR (by omega) (by omega)
      rw [show takeT [] 1 = none by rfl] at HT
      have HT : Hid (Calls Try.prog 10 #[.slice xa 0 xc, .int .i64 1] wr fun e w' => TakeR wr none e w') := HT
      have HR : Hid (∀ w', Below wr.heap.size wr w' → RL w' (.slice xa 0 xc) []) := fun w' hb => hR.below hb
      have HB : Hid (Below w1.heap.size w1 wr) := hB
      clear hR hB hh
      go_wp2_with fail
      refine HT.out.mono ?_
      rintro e w3 ⟨rfl, b3⟩
      have B3 : Hid (Below wr.heap.size wr w3) := b3
      have B4 : Hid (∀ o, Below wr.heap.size wr (w3.alloc o)) := fun o => b3.alloc b3.size _
      clear b3 HT
      go_wp2_with fail
      refine (total_rl (HR.out _ (B4.out _))).mono ?_
      rintro e w5 ⟨rfl, b5⟩
      have B5 : Hid (Below wr.heap.size wr w5) := (B4.out _).trans (b5.mono (B4.out _).size)
      clear b5
      rw [show totL [] = 0 by rfl]
      go_wp2_with fail
      refine (does_any w5).mono ?_
      rintro e w6 ⟨rfl, b6⟩
      have B6 : Hid (Below wr.heap.size wr w6) := B5.out.trans (b6.mono B5.out.size)
      clear b6
      go_wp2
      go_ret
      exact ⟨rfl, HB1.out _ (HB.out.trans (B6.out.mono HB.out.size))⟩
    obtain ⟨z, hz⟩ : ∃ z, st[m]? = some z := ⟨_, List.getElem?_eq_getElem (by have := HLn.out; omega)⟩
    obtain ⟨b, o, rfl, hk⟩ := (HNs.out wr hB).cells.2 m z hz
    have c1 := hk wr (Below.refl _ _)
    have hlt2 : (m : Int) < (N : Int) := by omega
    have hbl := st_blank hz
    have hml : m < st.length := by have := HLn.out; omega
    by_cases hz0 : z = 0
    · subst hz0
      obtain ⟨F', hT, hF'⟩ := one_by_one hR.chk hh hml (by rw [hbl]; rfl)
      have HT := take_rl 1 hR (by omega) (by omega)
      rw [hT] at HT
      have HT : Hid (Calls Try.prog 10 #[.slice xa F.length xc, .int .i64 1] wr fun e w' => TakeR wr (some (⟨m, 1⟩, F')) e w') := HT
      have HF' : Hid _ := hF'.2
      have HB : Hid (Below w1.heap.size w1 wr) := hB
      clear hh hR hB hk hz hbl hT hF'
      go_wp2_with fail
      refine HT.out.mono ?_
      rintro e w3 ⟨ya, yc, rfl, hR3, b3⟩
      obtain ⟨w4, hw4⟩ : ∃ w4, w3.alloc (.cells #[.int .i64 m, .int .i64 1] 24) = w4 := ⟨_, rfl⟩
      have k4 : Below w3.heap.size w3 w4 := by rw [← hw4]; exact (Below.refl _ _).alloc (Nat.le_refl _) _
      have hg4 : w4.heap[w3.heap.size]? = some (.cells #[.int .i64 m, .int .i64 1] 24 (0, 0)) := by rw [← hw4]; exact heap_alloc_last w3 _
      have B4 : Hid (Below w1.heap.size w1 w4) := HB.out.trans ((b3.trans (k4.mono b3.size)).mono HB.out.size)
      have HR4 : Hid (RL w4 (.slice ya F'.length yc) F') := hR3.below k4
      clear b3 hR3 k4 HT HB
      go_wp2_with (first | (refine load_box rfl (.tmp 6) rfl w3.heap.size (m : Int) 1 (0, 0) rfl hg4 ?_) | fail)
      go_roundw
      case rel => exact ⟨m + 1, F', by omega, by go_num, HF'.out, ya, yc, rfl, HR4.out, B4.out⟩
      case measure => simp [intOf]; omega
    · have hb2 : blankB st m = false := by rw [hbl]; simpa using hz0
      have hh2 : Hid (∀ j : Int, hasB F j = true ↔ ((m + 1 : Nat) : Int) ≤ j ∧ j < st.length ∧ blankB st j.toNat = true) := fun j => by
        rw [hh j]
        constructor
        · rintro ⟨k1, k2, k3⟩
          refine ⟨?_, k2, k3⟩
          by_cases e : j = (m : Int)
          · subst e; rw [Int.toNat_natCast, hb2] at k3; cases k3
          · omega
        · rintro ⟨k1, k2, k3⟩
          exact ⟨by omega, k2, k3⟩
      have HR : Hid _ := hR
      have HB : Hid _ := hB
      clear hh hR hB hk hz hbl hb2
      go_wp2
      go_roundw
      case rel => exact ⟨m + 1, F, by omega, by go_num, hh2.out, xa, xc, rfl, HR.out, HB.out⟩
      case measure => simp [intOf]; omega
end Go.Proofs.Ytbnfhhjgalphgaa
