/- Check (layer 11). -/
import Derived.Test.YtficmbaffkkfhaaDoor11d
namespace Go.Proofs.YtficmbaffkkfhaaDoor
open Go.RowKit

/-- What Check tells. -/
def ckE (x : List UInt8) (i n : Int) (P : List (List UInt8)) (r : List UInt8) : Int := if 0 ≤ i ∧ i < n then (if ldH x i.toNat n.toNat P = some r then 0 else 110) else 2
theorem check_no {w : World} {v : Value} {x r : List UInt8} (i n : Int) (hi : ¬ (0 ≤ i ∧ i < n)) : Calls Tryd.prog 13 #[.agg (hv x), .int .i64 i, .int .i64 n, v, .agg (hv r)] w fun e w' => e = .returned (.int .i64 2) ∧ Below w.heap.size w w' := by
  have HP : Hid (∀ W, Calls Tryd.prog 21 #[.int .i64 i, .int .i64 n] W fun e w' => e = .returned (.bool false) ∧ w' = W) := fun W => by
    have := isplace_any i n W
    rwa [decide_eq_false hi] at this
  obtain ⟨w1, hw1⟩ : ∃ w1, w.alloc (.cells (hv x) 23) = w1 := ⟨_, rfl⟩
  obtain ⟨w2, hw2⟩ : ∃ w2, w1.alloc (.cells (hv r) 23) = w2 := ⟨_, rfl⟩
  have HB : Hid (Below w.heap.size w w2) := by
    show Below _ _ _
    rw [← hw2, ← hw1]
    exact ((Below.refl _ _).alloc (Nat.le_refl _) _).alloc (by simp) _
  generalize hv x = X at *
  generalize hv r = R at *
  clear hi
  go_enter Tryd.func13, Tryd.ntmps13
  go_wp2_with fail
  refine (HP.out _).mono ?_
  rintro e w' ⟨rfl, rfl⟩
  clear HP
  go_wp2
  go_ret
  exact ⟨rfl, HB.out⟩
set_option maxRecDepth 100000 in
set_option maxHeartbeats 2000000 in
set_option linter.unusedSimpArgs false in
set_option linter.unusedVariables false in
theorem check_led {w : World} {v : Value} {x y r : List UInt8} (i n : Int) (b : Bool) (hi : 0 ≤ i ∧ i < n) (hx : x.length = 32) (hy : y.length = 32) (hr : r.length = 32)
    (hL : ∀ W, Below w.heap.size w W → Calls Tryd.prog 25 #[.agg (hv x), .int .i64 i, .int .i64 n, v] W fun e w' => e = .returned (.tuple #[.agg (hv y), .bool b]) ∧ Below W.heap.size W w') :
    Calls Tryd.prog 13 #[.agg (hv x), .int .i64 i, .int .i64 n, v, .agg (hv r)] w fun e w' => e = .returned (.int .i64 (if b = true ∧ y = r then 0 else 110)) ∧ Below w.heap.size w w' := by
  have HP : Hid (∀ W, Calls Tryd.prog 21 #[.int .i64 i, .int .i64 n] W fun e w' => e = .returned (.bool true) ∧ w' = W) := fun W => by
    have := isplace_any i n W
    rwa [decide_eq_true hi] at this
  obtain ⟨w1, hw1⟩ : ∃ w1, w.alloc (.cells (hv x) 23) = w1 := ⟨_, rfl⟩
  obtain ⟨w2, hw2⟩ : ∃ w2, w1.alloc (.cells (hv r) 23) = w2 := ⟨_, rfl⟩
  have hs1 : w1.heap.size = w.heap.size + 1 := by rw [← hw1, World.size_alloc]
  have hs2 : w2.heap.size = w.heap.size + 1 + 1 := by rw [← hw2, World.size_alloc, hs1]
  have b1 : Below w.heap.size w w1 := by rw [← hw1]; exact (Below.refl _ _).alloc (Nat.le_refl _) _
  have b2 : Below w1.heap.size w1 w2 := by rw [← hw2]; exact (Below.refl _ _).alloc (Nat.le_refl _) _
  have n1 : w2.heap[w.heap.size]? = some (.cells (hv x) 23 (0, 0)) := (b2.block _ (by omega)).trans (by rw [← hw1]; exact heap_alloc_last w _)
  have n2 : w2.heap[w.heap.size + 1]? = some (.cells (hv r) 23 (0, 0)) := by
    have := heap_alloc_last w1 (.cells (hv r) 23)
    rwa [hw2, hs1] at this
  have HB : Hid (Below w.heap.size w w2) := b1.trans (b2.mono (by omega))
  have HL : Hid (Calls Tryd.prog 25 #[.agg (hv x), .int .i64 i, .int .i64 n, v] w2 fun e w' => e = .returned (.tuple #[.agg (hv y), .bool b]) ∧ Below w2.heap.size w2 w') := hL w2 HB.out
  have r1 := range_row n1
  have hxs : (hv x).size = 32 := by rw [hv_size, hx]
  have hys : (hv y).size = 32 := by rw [hv_size, hy]
  have hrs : (hv r).size = 32 := by rw [hv_size, hr]
  have icx : Hid ((Tryd.prog.info? 23).map (·.size) = some (hv x).toList.length) := by show _ = _; rw [info_h32, Array.length_toList, hxs]
  have hy1 := hv_one y
  have hzs := hz_size
  have N2 : Hid _ := n2
  have hne : ∀ w9 : World, (binOp .neq 23 (.agg (hv y)) (.agg (hv r))).run Tryd.prog w9 = .ok (.bool (!(y == r))) w9 := fun w9 => neqH w9 y r hy hr
  have hif : Hid ((if b = true ∧ y = r then (0 : Int) else 110) = if b && (y == r) then 0 else 110) := by
    show _ = _
    congr 1
    simp
  rw [hif.out]
  clear hif hi hL n1 n2 b1 b2 hx hy hr
  generalize (y == r) = t at *
  generalize hv x = X at *
  generalize hv r = R at *
  generalize hv y = Y at *
  go_enter Tryd.func13, Tryd.ntmps13
  go_wp2_with fail
  refine (HP.out _).mono ?_
  rintro e w' ⟨rfl, rfl⟩
  clear HP
  go_wp2_with (first | (refine wpList_load_mid rfl 23 _ rfl w.heap.size 0 rfl X.toList _ r1 Tryd.underlying23 rfl icx.out ?_) | fail)
  refine HL.out.mono ?_
  rintro e w3 ⟨rfl, b3⟩
  obtain ⟨w4, hw4, b4, g4⟩ := hash_box w3
  obtain ⟨w5, hw5⟩ : ∃ w5, w4.setRow w3.heap.size Y = w5 := ⟨_, rfl⟩
  have b5 : Below w3.heap.size w3 w5 := by rw [← hw5]; exact below_setRow b4 (Nat.le_refl _) _
  have g5 : w5.heap[w3.heap.size]? = some (.cells Y 23 (0, 0)) := by rw [← hw5]; exact heap_setRow_same g4
  have hs3 := b3.size
  have g2 : w5.heap[w.heap.size + 1]? = some (.cells R 23 (0, 0)) := (b5.block _ (by omega)).trans ((b3.block _ (by omega)).trans N2.out)
  have HB5 : Hid (Below w.heap.size w w5) := HB.out.trans ((b3.trans (b5.mono hs3)).mono (by omega))
  have hs4 : w4.heap.size = w3.heap.size + 1 := by rw [← hw4, World.size_alloc]
  rw [zero_h32] at hw4 g4 hzs
  have hYz := hzs.trans hys.symm
  have ry := range_row g5
  have rr := range_row g2
  have icy : Hid ((Tryd.prog.info? 23).map (·.size) = some Y.size) := by show _ = _; rw [info_h32, hys]
  clear HL HB N2 b3 b4 b5 hs1 hs2 hs3 hw1 hw2
  cases b with
  | false =>
    go_wp2_with (first | (refine wpList_store_row rfl 23 _ _ rfl w3.heap.size Y rfl rfl _ _ g4 (by rw [info_h32, hys]) hYz hy1 ?_) | fail)
    go_ret
    exact ⟨rfl, HB5.out⟩
  | true =>
    cases t with
    | false =>
      go_wp2_with (first | (refine wpList_store_row rfl 23 _ _ rfl w3.heap.size Y rfl rfl _ _ g4 (by rw [info_h32, hys]) hYz hy1 ?_) | (refine load_row_g (by rfl) 23 _ rfl w3.heap.size 32 5 _ Y _ rfl g5 Tryd.underlying23 info_h32 hys ?_) | (refine load_row_g (by rfl) 23 _ rfl (w.heap.size + 1) 32 5 _ R _ rfl g2 Tryd.underlying23 info_h32 hrs ?_) | fail)
      go_ret
      exact ⟨rfl, HB5.out⟩
    | true =>
      go_wp2_with (first | (refine wpList_store_row rfl 23 _ _ rfl w3.heap.size Y rfl rfl _ _ g4 (by rw [info_h32, hys]) hYz hy1 ?_) | (refine load_row_g (by rfl) 23 _ rfl w3.heap.size 32 5 _ Y _ rfl g5 Tryd.underlying23 info_h32 hys ?_) | (refine load_row_g (by rfl) 23 _ rfl (w.heap.size + 1) 32 5 _ R _ rfl g2 Tryd.underlying23 info_h32 hrs ?_) | fail)
      go_ret
      exact ⟨rfl, HB5.out⟩
theorem check_any {w : World} {a : Option Addr} {c : Nat} {x r : List UInt8} {P : List (List UInt8)} (i n : Int) (hn : n < 9223372036854775808) (hx : x.length = 32) (hr : r.length = 32) (hK : TabL w) (hP : HsAt w (.slice a P.length c) P) (hc : P.length ≤ c) (hl : P.length ≤ 100000) :
    Calls Tryd.prog 13 #[.agg (hv x), .int .i64 i, .int .i64 n, .slice a P.length c, .agg (hv r)] w fun e w' => e = .returned (.int .i64 (ckE x i n P r)) ∧ Below w.heap.size w w' := by
  by_cases hi : 0 ≤ i ∧ i < n
  · rw [ckE, if_pos hi]
    obtain ⟨k, rfl⟩ := Int.eq_ofNat_of_zero_le hi.1
    obtain ⟨m, rfl⟩ := Int.eq_ofNat_of_zero_le (show 0 ≤ n by omega)
    rw [Int.toNat_natCast, Int.toNat_natCast]
    have h := check_led (r := r) (v := .slice a P.length c) (w := w) (x := x) (y := (ldH x k m P).getD (padTo 32 [])) (k : Int) (m : Int) (ldH x k m P).isSome hi hx (by
      unfold ldH
      split
      · exact fold_32 _ _ hx
      · exact padTo_length (by decide)) hr (fun W hW => led_any k m (by omega) (by omega) hx (hK.below hW hK.lt) (hP.below hW) hc hl)
    have e : (if (ldH x k m P).isSome = true ∧ (ldH x k m P).getD (padTo 32 []) = r then (0 : Int) else 110) = if ldH x k m P = some r then 0 else 110 := by
      cases ldH x k m P with
      | none => simp
      | some z => simp
    rwa [e] at h
  · rw [ckE, if_neg hi]
    exact check_no i n hi
end Go.Proofs.YtficmbaffkkfhaaDoor
