/- The walk of the law WordsGet: the number, the text and the hash that stand at any place are the document's. -/
import Derived.Test.YthefmkmgiblngaaDoorWe
import Derived.Test.YthefmkmgiblngaaDoorRc
import Derived.Test.YthefmkmgiblngaaDoorLe
namespace Go.Proofs.YthefmkmgiblngaaDoor
open Go.RowKit

theorem eqH (w : World) (a b : List UInt8) (ha : a.length = 32) (hb : b.length = 32) : (binOp .eql 32 (.agg (hv a)) (.agg (hv b))).run Tryd.prog w = .ok (.bool (a == b)) w :=
  run_eql_bytes w 32 5 32 Tryd.underlying32 Tryd.underlying5 cells_u8 (by kernel_rfl) a b ha hb
theorem neqH (w : World) (a b : List UInt8) (ha : a.length = 32) (hb : b.length = 32) : (binOp .neq 32 (.agg (hv a)) (.agg (hv b))).run Tryd.prog w = .ok (.bool (!(a == b))) w :=
  run_neq_bytes w 32 5 32 Tryd.underlying32 Tryd.underlying5 cells_u8 (by kernel_rfl) a b ha hb

theorem getV_ex (s : ByteArray) (a size : Int) : ∃ (n m : Int) (b : Bool), getV s a size = .tuple #[.int .i64 n, .int .i64 m, .bool b] := by
  cases h : getB s a size with
  | true => exact ⟨_, _, _, getV_yes h⟩
  | false => exact ⟨_, _, _, getV_no h⟩
theorem txtV_ex (s : ByteArray) (a : Int) : ∃ (n : ByteArray) (m : Int) (b : Bool), txtV s a = .tuple #[.string n, .int .i64 m, .bool b] := by
  cases h : txtB s a with
  | true => exact ⟨_, _, _, txtV_yes h⟩
  | false => exact ⟨_, _, _, txtV_no h⟩
theorem ghV_ex (s : ByteArray) (a : Int) : ∃ (l : List UInt8) (m : Int) (b : Bool), l.length = 32 ∧ ghV s a = .tuple #[.agg (hv l), .int .i64 m, .bool b] := by
  cases h : stB s a 32 with
  | true =>
    obtain ⟨h0, h1⟩ := stB_iff.1 h
    exact ⟨_, _, _, win_length s a.toNat 32 (by omega), ghV_yes h⟩
  | false => exact ⟨_, _, _, padTo_length (by decide), ghV_no h⟩

set_option maxRecDepth 100000 in
set_option maxHeartbeats 800000 in
theorem getlaw_walk (s : ByteArray) (a size : Int) (w : World) (hT : Tab w) (hs : s.size ≤ 140737488351232) (ha : -9223372036854775808 ≤ a ∧ a ≤ 9223372036854775807) :
    Calls Tryd.prog 4 #[.string s, .int .i64 a, .int .i64 size] w fun e w' => e = .returned (.bool true) ∧ Below w.heap.size w w' := by
  obtain ⟨n, m, b, h1⟩ := getV_ex s a size
  obtain ⟨t, u, c, h2⟩ := txtV_ex s a
  obtain ⟨l, v, d, hl, h3⟩ := ghV_ex s a
  have he : ∀ w : World, (binOp .eql 32 (.agg (hv l)) (.agg (hv l))).run Tryd.prog w = .ok (.bool true) w := fun w => by
    have := eqH w l l hl hl
    simpa using this
  have z2 : (hv (padTo 32 [])).size = 32 := by rw [hv_size, padTo_length (by decide)]
  rw [zero_h32] at z2
  have Z2 : Hid _ := z2
  clear z2
  have hsz : (hv l).size = 32 := by rw [hv_size, hl]
  have hone : (hv l).all (·.oneCell') = true := hv_one l
  have hi : (Tryd.prog.info? 32).map (·.size) = some (hv l).size := info_h32' hsz
  generalize hv l = C at *
  clear hl
  go_enter Tryd.func4, Tryd.ntmps4
  go_wp2_with fail
  refine (get_any s a size _ hT hs ha).mono ?_
  rintro e w0 ⟨rfl, rfl⟩
  go_wp2_with fail
  refine (rget_any s a size _ hs ha).mono ?_
  rintro e w1 ⟨rfl, rfl⟩
  go_wp2_with fail
  refine (getText_any s a _ hT hs ha).mono ?_
  rintro e w2 ⟨rfl, b2⟩
  have T2 := hT.below b2
  go_wp2_with fail
  refine (rgetText_any s a _ hs ha).mono ?_
  rintro e w3 ⟨rfl, rfl⟩
  go_wp2_with fail
  refine (getHash_any s a _ hs ha).mono ?_
  rintro e w4 ⟨rfl, b4⟩
  have T4 := T2.below b4
  have tok : Hid True := trivial
  go_wp2_with (have _t := tok; refine store_last rfl 32 _ _ rfl 32 _ _ C rfl rfl info_h32 Z2.out hsz hone ?_; clear tok)
  have T4' : Tab (w4.alloc (.cells C 32)) := T4.below ((Below.refl _ _).alloc (Nat.le_refl _) _)
  refine (rgetHash_any s a _ hs ha).mono ?_
  rintro e w5 ⟨rfl, b5⟩
  have T5 := T4'.below b5
  have hC : w5.heap[w4.heap.size]? = some (.cells C 32 (0, 0)) := by rw [b5.block _ (by simp)]; exact heap_alloc_last _ _
  have hlt : w4.heap.size < w5.heap.size := by have := b5.size; simp at this; omega
  have T6 : Tab (w5.alloc (.cells C 32)) := T5.below ((Below.refl _ _).alloc (Nat.le_refl _) _)
  have hC6 : (w5.alloc (.cells C 32)).heap[w4.heap.size]? = some (.cells C 32 (0, 0)) := by rw [Below.heap_alloc _ _ _ hlt]; exact hC
  have HC : Hid _ := hC
  have HC6 : Hid _ := hC6
  clear hC hC6
  go_wp2_with (first | (refine store_last rfl 32 _ _ rfl 32 _ _ C rfl rfl info_h32 Z2.out hsz hone ?_) | (refine load_row_g rfl 32 _ rfl w4.heap.size 32 5 _ C (0, 0) rfl HC6.out Tryd.underlying32 info_h32 hsz ?_) | (refine load_row_g rfl 32 _ rfl w5.heap.size 32 5 _ C (0, 0) rfl (heap_alloc_last _ _) Tryd.underlying32 info_h32 hsz ?_))
  refine (does_any _ T6).mono ?_
  rintro e w6 ⟨rfl, b6⟩
  go_wp2
  go_ret
  have s2 := b2.size
  have s4 := b4.size
  have s5 := b5.size
  have s6 := b6.size
  simp at s5 s6
  have c5 : Below w1.heap.size w4 w5 := ((Below.refl _ _).alloc (by omega) _).trans (b5.mono (by simp; omega))
  have c6 : Below w1.heap.size w5 w6 := ((Below.refl _ _).alloc (by omega) _).trans (b6.mono (by simp; omega))
  exact ⟨rfl, ((b2.trans (b4.mono (by omega))).trans c5).trans c6⟩
end Go.Proofs.YthefmkmgiblngaaDoor
