/- Leaf, Empty (layer 8). -/
import Derived.Test.YtficmbaffkkfhaaDoorUc
import Derived.Test.YtficmbaffkkfhaaDoorW6
import Derived.Test.YtficmbaffkkfhaaDoorWb
import Derived.Test.YtficmbaffkkfhaaDoorWh0
namespace Go.Proofs.YtficmbaffkkfhaaDoor
open Go.RowKit

theorem head_any (n : Int) (w : World) (hK : TabL w) (h0 : 0 ≤ n) (h1 : n < 256) : Calls Tryd.prog 30 #[.int .i64 n, .int .i64 1] w fun e w' => e = .returned (.string (S [UInt8.ofNat n.toNat])) ∧ Below w.heap.size w w' := by
  have := put_1 n w hK.z h0 h1
  have e : bytesOf n 1 = [UInt8.ofNat n.toNat] := by rw [by8_of h0 rfl]; rfl
  rwa [e] at this
set_option maxRecDepth 100000 in
set_option maxHeartbeats 1000000 in
theorem empty_any (w : World) (hK : TabL w) : Calls Tryd.prog 28 #[] w fun e w' => e = .returned (.agg (hv (shaL []))) ∧ Below w.heap.size w w' := by
  obtain ⟨w1, hw1, b1, hg1⟩ := hash_box w
  have HC : Hid (Calls Tryd.prog 29 #[.slice none 0 0] w1 fun e w' => e = .returned (.agg (hv (shaL []))) ∧ Below w1.heap.size w1 w') := lsum_any (ts := []) (hK.below b1 hK.lt).k ⟨none, 0, rfl, fun i t hi => by simp at hi⟩ (by simp) (by simp)
  have HG : Hid (∀ w', Below w1.heap.size w1 w' → w'.heap[w.heap.size]? = some (.cells (hv (padTo 32 [])) 23 (0, 0))) := fun w' hb => (hb.block _ (Array.getElem?_eq_some_iff.1 hg1).1).trans hg1
  have HB : Hid (∀ w', Below w1.heap.size w1 w' → Below w.heap.size w w') := fun w' hb => b1.trans (hb.mono b1.size)
  have e4 : (hv (shaL [])).size = 32 := by rw [hv_size]; exact shaL_length _
  have e5 := hv_one (shaL [])
  generalize hv (shaL []) = R at *
  have z1 : Hid ((hv (padTo 32 [])).size = 32) := hz_size
  rw [zero_h32] at hw1 HG z1
  clear hg1 b1
  go_enter Tryd.func28, Tryd.ntmps28
  go_wp2_with fail
  refine HC.out.mono ?_
  rintro e w2 ⟨rfl, b2⟩
  have g2 := HG.out w2 b2
  have HB2 : Hid _ := HB.out w2 b2
  clear b2 hw1
  go_wp2_with (refine wpList_store_row rfl 23 _ _ rfl w.heap.size R rfl rfl _ _ g2 (by rw [info_h32, e4]) (by rw [z1.out, e4]) e5 ?_)
  refine bodyPost_ret (v := .agg R) (results_cell1 (p := 0) Tryd.results28 _ _ w.heap.size 32 23 5 R (0, 0) rfl (heap_setRow_same g2) Tryd.underlying23 info_h32 e4) rfl ⟨rfl, below_setRow HB2.out (Nat.le_refl _) _⟩
set_option maxRecDepth 100000 in
set_option maxHeartbeats 1000000 in
theorem leaf_any (d : List UInt8) (w : World) (hK : TabL w) (hd : d.length ≤ 100000) : Calls Tryd.prog 27 #[.string (S d)] w fun e w' => e = .returned (.agg (hv (leafL d))) ∧ Below w.heap.size w w' := by
  obtain ⟨w1, hw1, b1, hg1⟩ := hash_box w
  have HP : Hid (Calls Tryd.prog 30 #[.int .i64 0, .int .i64 1] w1 fun e w' => e = .returned (.string (S [0])) ∧ Below w1.heap.size w1 w') := head_any 0 w1 (hK.below b1 hK.lt) (by decide) (by decide)
  obtain ⟨X0, hX0⟩ : ∃ X, S [0] = X := ⟨_, rfl⟩
  have HC : Hid (∀ wp, Below w1.heap.size w1 wp → Calls Tryd.prog 29 #[.slice (some ⟨wp.heap.size, 0, none⟩) 2 2] (wp.alloc (.cells #[.string X0, .string (S d)] 9)) fun e w' => e = .returned (.agg (hv (leafL d))) ∧ Below w1.heap.size w1 w') := fun wp hp => by
    have b2 : Below wp.heap.size wp (wp.alloc (.cells #[.string X0, .string (S d)] 9)) := (Below.refl _ _).alloc (Nat.le_refl _) _
    have k1 := hK.below b1 hK.lt
    have k2 := k1.below hp k1.lt
    have := lsum_any (ts := [[0], d]) (v := .slice (some ⟨wp.heap.size, 0, none⟩) 2 2) (k2.below b2 k2.lt).k ⟨_, _, rfl, fun i t hi => ⟨_, _, rfl, by
      rw [cell_of_row _ _ _ _ _ _ (heap_alloc_last wp _)]
      match i, hi with
      | 0, hi => obtain rfl := Option.some.inj hi; rw [hX0]; rfl
      | 1, hi => obtain rfl := Option.some.inj hi; rfl
      | i + 2, hi => simp at hi⟩⟩ (by simp) (by simp; omega)
    refine this.mono ?_
    rintro e w' ⟨rfl, b3⟩
    exact ⟨by simp [leafL], hp.trans ((b2.trans (b3.mono b2.size)).mono hp.size)⟩
  rw [hX0] at HP
  have HG : Hid (∀ w', Below w1.heap.size w1 w' → w'.heap[w.heap.size]? = some (.cells (hv (padTo 32 [])) 23 (0, 0))) := fun w' hb => (hb.block _ (Array.getElem?_eq_some_iff.1 hg1).1).trans hg1
  have HB : Hid (∀ w', Below w1.heap.size w1 w' → Below w.heap.size w w') := fun w' hb => b1.trans (hb.mono b1.size)
  have e4 : (hv (leafL d)).size = 32 := by rw [hv_size]; exact shaL_length _
  have e5 := hv_one (leafL d)
  generalize hv (leafL d) = R at *
  have z1 : Hid ((hv (padTo 32 [])).size = 32) := hz_size
  rw [zero_h32] at hw1 HG z1
  clear hg1 b1
  generalize S d = D at *
  clear hX0
  go_enter Tryd.func27, Tryd.ntmps27
  go_wp2_with fail
  refine HP.out.mono ?_
  rintro e wp ⟨rfl, bp⟩
  have HB1 : Hid _ := bp
  clear bp HP
  go_wp2_with fail
  refine (HC.out _ HB1.out).mono ?_
  rintro e w2 ⟨rfl, b2⟩
  have g2 := HG.out w2 b2
  have HB2 : Hid _ := HB.out w2 b2
  clear b2 hw1
  go_wp2_with (refine wpList_store_row rfl 23 _ _ rfl w.heap.size R rfl rfl _ _ g2 (by rw [info_h32, e4]) (by rw [z1.out, e4]) e5 ?_)
  refine bodyPost_ret (v := .agg R) (results_cell1 (p := 2) Tryd.results27 _ _ w.heap.size 32 23 5 R (0, 0) rfl (heap_setRow_same g2) Tryd.underlying23 info_h32 e4) rfl ⟨rfl, below_setRow HB2.out (Nat.le_refl _) _⟩
end Go.Proofs.YtficmbaffkkfhaaDoor
