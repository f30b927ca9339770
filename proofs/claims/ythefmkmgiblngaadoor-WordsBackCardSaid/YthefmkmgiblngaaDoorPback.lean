/- The walk of the law WordsBack: what was written is read, whatever stands ahead of it and behind. -/
import Derived.Test.YthefmkmgiblngaaDoorWe
import Derived.Test.YthefmkmgiblngaaDoorMw
import Derived.Test.YthefmkmgiblngaaDoorLe
import Derived.Deep.QuietTactic
import Derived.BigQuiet
namespace Go.Proofs.YthefmkmgiblngaaDoor
open Go.RowKit

theorem eqC (w : World) (a b : List UInt8) (ha : a.length = 32) (hb : b.length = 32) : (binOp .eql 32 (.agg (hv a)) (.agg (hv b))).run Tryd.prog w = .ok (.bool (a == b)) w :=
  run_eql_bytes w 32 5 32 Tryd.underlying32 Tryd.underlying5 cells_u8 (by kernel_rfl) a b ha hb
theorem cat3 (a b : ByteArray) (l : List UInt8) : a ++ S l ++ b = S (a.data.toList ++ l ++ b.data.toList) := by
  conv => lhs; rw [← S_data a, ← S_data b]
  rw [S_append, S_append]
theorem num_back (a b : ByteArray) (n : Int) (h0 : 0 ≤ n) (h1 : n ≤ 9223372036854775807) : getV (a ++ S (putL n 8) ++ b) a.size 8 = .tuple #[.int .i64 n, .int .i64 (a.size + 8), .bool true] := by
  have e : putL n 8 = bytesOf n 8 := by
    unfold putL
    rw [show fitB n 8 = true by simp [fitB, lim]; omega]; rfl
  have := num_at a.data.toList b.data.toList n 8 rfl h0 (by simp [lim]; omega)
  rw [e, cat3]; exact this
theorem txt_back (a b t : ByteArray) (h : t.size ≤ 1000) : txtV (a ++ S (putT t.data.toList) ++ b) a.size = .tuple #[.string t, .int .i64 (a.size + 2 + t.size), .bool true] := by
  have := txt_at a.data.toList t.data.toList b.data.toList (by show t.size ≤ _; omega)
  rw [cat3]
  rw [S_data] at this
  exact this
theorem hash_back (a b : ByteArray) (l : List UInt8) (hl : l.length = 32) : ghV (a ++ S l ++ b) a.size = .tuple #[.agg (hv l), .int .i64 (a.size + 32), .bool true] := by
  rw [cat3]; exact hash_at a.data.toList l b.data.toList hl

set_option maxRecDepth 100000 in
set_option maxHeartbeats 4000000 in
theorem back_rest (n : Int) (l : List UInt8) (a t b : ByteArray) (w : World) (hT : Tab w) (hl : l.length = 32) (hn : n ≤ 9223372036854775807) (ha : ¬ (1000 : Int) < a.size) (ht : ¬ (1000 : Int) < t.size) (hb : ¬ (1000 : Int) < b.size) :
    Calls Tryd.prog 5 #[.int .i64 n, .agg (hv l), .agg #[.string a, .string t, .string b]] w fun e w' => e = .returned (.bool true) ∧ Below w.heap.size w w' := by
  have hsz : (hv l).size = 32 := by rw [hv_size, hl]
  have hone : (hv l).all (·.oneCell') = true := hv_one l
  have z2 : (hv (padTo 32 [])).size = 32 := by rw [hv_size, padTo_length (by decide)]
  rw [zero_h32] at z2
  have Z2 : Hid _ := z2
  clear z2
  have he : ∀ w : World, (binOp .eql 32 (.agg (hv l)) (.agg (hv l))).run Tryd.prog w = .ok (.bool true) w := fun w => by
    have := eqC w l l hl hl
    simpa using this
  have hTx : txtV (a ++ S (putT t.data.toList) ++ b) a.size = .tuple #[.string t, .int .i64 (a.size + 2 + t.size), .bool true] := txt_back a b t (by omega)
  have hHx : ghV (a ++ S l ++ b) a.size = .tuple #[.agg (hv l), .int .i64 (a.size + 32), .bool true] := hash_back a b l hl
  have hPs : (S (putT t.data.toList)).size = t.size + 2 := by
    have : t.data.toList.length = t.size := rfl
    rw [S_size]; simp only [List.length_append, putT, bytesOf_length]; omega
  have hLs : (S l).size = 32 := by rw [S_size, hl]
  have hpc : (0 ≤ n ∧ (S (putL n 8)).size = 8 ∧ getV (a ++ S (putL n 8) ++ b) a.size 8 = .tuple #[.int .i64 n, .int .i64 (a.size + 8), .bool true]) ∨ (n < 0 ∧ (S (putL n 8)).toList = [] ∧ (S (putL n 8)).size = 0 ∧ ∃ (x y : Int) (c : Bool), getV (a ++ S (putL n 8) ++ b) a.size 8 = .tuple #[.int .i64 x, .int .i64 y, .bool c]) := by
    by_cases h0 : 0 ≤ n
    · refine .inl ⟨h0, ?_, num_back a b n h0 hn⟩
      rw [S_size]
      unfold putL
      rw [show fitB n 8 = true by simp [fitB, lim]; omega]
      show (bytesOf n 8).length = 8
      simp
    · have e : putL n 8 = [] := by
        unfold putL
        rw [show fitB n 8 = false by simp [fitB]; omega]; rfl
      refine .inr ⟨by omega, by rw [e, toList_S], by rw [e, S_size]; rfl, ?_⟩
      cases h : getB (a ++ S (putL n 8) ++ b) a.size 8 with
      | true => exact ⟨_, _, _, getV_yes h⟩
      | false => exact ⟨_, _, _, getV_no h⟩
  have HPH : Hid (∀ W, Calls Tryd.prog 20 #[.agg (hv l)] W fun e w' => e = .returned (.string (S l)) ∧ Below W.heap.size W w') := fun W => putHash_any l W hl
  generalize hv l = C at *
  generalize S l = q at *
  go_enter Tryd.func5, Tryd.ntmps5
  go_wp2_with fail
  go_quiet (fail)
  go_wp2_with fail
  have hB0 : Below w.heap.size w (((w.alloc (.cells C 32)).alloc (.cells #[.string a, .string t, .string b] 36)).drewN nq) := Go.below_drewN (((Below.refl _ _).alloc (Nat.le_refl _) _).alloc (by simp) _) nq
  have hH0 : (((w.alloc (.cells C 32)).alloc (.cells #[.string a, .string t, .string b] 36)).drewN nq).heap[w.heap.size]? = some (.cells C 32 (0, 0)) := heap_alloc2_old w _ _
  have hS0 : w.heap.size < (((w.alloc (.cells C 32)).alloc (.cells #[.string a, .string t, .string b] 36)).drewN nq).heap.size := by simp; omega
  generalize ((w.alloc (.cells C 32)).alloc (.cells #[.string a, .string t, .string b] 36)).drewN nq = W0 at *
  have T0 : Tab W0 := hT.below hB0
  clear hT
  rcases hpc with ⟨h0, hps, hG⟩ | ⟨h0, hpe, hps, x, y, c, hG⟩
  all_goals
    refine (put_any n 8 _ T0 hn).mono ?_
    rintro e W1 ⟨rfl, b1⟩
    have T1 := T0.below b1
    have hS1 := b1.size
    generalize S (putL n 8) = p at *
    have hs1 : ¬ a.size + p.size > 9223372036854775807 := by omega
    have hs2 : ¬ a.size + p.size + b.size > 9223372036854775807 := by omega
    have hs3 : (a ++ p ++ b).size ≤ 140737488351232 := by rw [ByteArray.size_append, ByteArray.size_append]; omega
    go_wp2_with fail
    refine (get_any (a ++ p ++ b) a.size 8 _ T1 hs3 (by omega)).mono ?_
    rintro e W1' ⟨rfl, hw⟩
    rw [hw]
    clear hw hs3
    go_wp2_with fail
    refine (putText_yes t _ T1 (by omega)).mono ?_
    rintro e W2 ⟨rfl, b2⟩
    have T2 := T1.below b2
    have hS2 := b2.size
    generalize S (putT t.data.toList) = r at *
    have hs4 : ¬ a.size + r.size > 9223372036854775807 := by omega
    have hs5 : ¬ a.size + r.size + b.size > 9223372036854775807 := by omega
    have hs6 : (a ++ r ++ b).size ≤ 140737488351232 := by rw [ByteArray.size_append, ByteArray.size_append]; omega
    go_wp2_with fail
    refine (getText_any (a ++ r ++ b) a.size _ T2 hs6 (by omega)).mono ?_
    rintro e W3 ⟨rfl, b3⟩
    have T3 := T2.below b3
    have hS3 := b3.size
    have hH3 : W3.heap[w.heap.size]? = some (.cells C 32 (0, 0)) := by rw [b3.block _ (by omega), b2.block _ (by omega), b1.block _ (by omega)]; exact hH0
    have HH3 : Hid _ := hH3
    clear hH3
    go_wp2_with (refine wpList_load_row rfl 32 _ rfl w.heap.size rfl _ C (0, 0) _ HH3.out Tryd.underlying32 rfl (by rw [info_h32, hsz]) ?_)
    refine (HPH.out W3).mono ?_
    rintro e W4 ⟨rfl, b4⟩
    have T4 := T3.below b4
    have hS4 := b4.size
    have hs7 : ¬ a.size + q.size > 9223372036854775807 := by omega
    have hs8 : ¬ a.size + q.size + b.size > 9223372036854775807 := by omega
    have hs9 : (a ++ q ++ b).size ≤ 140737488351232 := by rw [ByteArray.size_append, ByteArray.size_append]; omega
    go_wp2_with fail
    refine (getHash_any (a ++ q ++ b) a.size _ hs9 (by omega)).mono ?_
    rintro e W5 ⟨rfl, b5⟩
    have T5 := T4.below b5
    have hS5 := b5.size
    have hH5 : W5.heap[w.heap.size]? = some (.cells C 32 (0, 0)) := by rw [b5.block _ (by omega), b4.block _ (by omega)]; exact HH3.out
    have hH6 : (W5.alloc (.cells C 32)).heap[w.heap.size]? = some (.cells C 32 (0, 0)) := by rw [Below.heap_alloc _ _ _ (by omega)]; exact hH5
    have T6 : Tab (W5.alloc (.cells C 32)) := T5.below ((Below.refl _ _).alloc (Nat.le_refl _) _)
    have HH6 : Hid _ := hH6
    clear hH5 hH6 HH3
    have d1 : ((a.size : Int) + 2 + (t.size : Int) == (a.size : Int) + (r.size : Int)) = true := by simp; omega
    have d2 : ((q.size : Int) == 32) = true := by simp; omega
    clear hs1 hs2 hs4 hs5 hs6 hs7 hs8 hs9
    go_wp2_with (first | (refine store_last rfl 32 _ _ rfl 32 _ _ C rfl rfl info_h32 Z2.out hsz hone ?_) | (refine load_row_g rfl 32 _ rfl w.heap.size 32 5 _ C (0, 0) rfl HH6.out Tryd.underlying32 info_h32 hsz ?_) | (refine load_row_g rfl 32 _ rfl W5.heap.size 32 5 _ C (0, 0) rfl (heap_alloc_last _ _) Tryd.underlying32 info_h32 hsz ?_))
    refine (does_any _ T6).mono ?_
    rintro e W7 ⟨rfl, b7⟩
    go_wp2
    go_ret
    have hS7 := b7.size
    simp at hS7
    have c7 : Below w.heap.size W5 W7 := ((Below.refl _ _).alloc (by omega) _).trans (b7.mono (by simp; omega))
    exact ⟨rfl, ((((((hB0.trans (b1.mono (by omega))).trans (b2.mono (by omega))).trans (b3.mono (by omega))).trans (b4.mono (by omega))).trans (b5.mono (by omega))).trans c7)⟩
set_option maxRecDepth 100000 in
set_option maxHeartbeats 1600000 in
theorem back_long (n : Int) (C : Array Value) (a t b : ByteArray) (w : World) (h : (1000 : Int) < a.size ∨ (¬ (1000 : Int) < a.size ∧ (1000 : Int) < t.size) ∨ (¬ (1000 : Int) < a.size ∧ ¬ (1000 : Int) < t.size ∧ (1000 : Int) < b.size)) :
    Calls Tryd.prog 5 #[.int .i64 n, .agg C, .agg #[.string a, .string t, .string b]] w fun e w' => e = .returned (.bool true) ∧ Below w.heap.size w w' := by
  rcases h with h | ⟨h, h'⟩ | ⟨h, h', h''⟩
  all_goals
    go_enter Tryd.func5, Tryd.ntmps5
    go_wp2_with fail
    go_quiet (fail)
    go_wp2
    go_ret
    exact ⟨rfl, Go.below_drewN (((Below.refl _ _).alloc (Nat.le_refl _) _).alloc (by simp) _) nq⟩
theorem back_walk (n : Int) (l : List UInt8) (a t b : ByteArray) (w : World) (hT : Tab w) (hl : l.length = 32) (hn : n ≤ 9223372036854775807) :
    Calls Tryd.prog 5 #[.int .i64 n, .agg (hv l), .agg #[.string a, .string t, .string b]] w fun e w' => e = .returned (.bool true) ∧ Below w.heap.size w w' := by
  by_cases h : ¬ (1000 : Int) < a.size ∧ ¬ (1000 : Int) < t.size ∧ ¬ (1000 : Int) < b.size
  · exact back_rest n l a t b w hT hl hn h.1 h.2.1 h.2.2
  · exact back_long n (hv l) a t b w (by omega)
end Go.Proofs.YthefmkmgiblngaaDoor
