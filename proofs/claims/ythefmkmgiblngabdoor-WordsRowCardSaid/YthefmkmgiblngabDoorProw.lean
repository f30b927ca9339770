/- The walk of the law WordsRow: numbers of four bytes, and hashes behind them, that are put one behind the other are read one behind the other, up to the end. -/
import Derived.Test.YthefmkmgiblngabDoorWe
import Derived.Test.YthefmkmgiblngabDoorMw
import Derived.Test.YthefmkmgiblngabDoorLe
import Derived.Test.YthefmkmgiblngabDoorOu
import Derived.Deep.RegionHeld
import Derived.Deep.QuietTactic
import Derived.BigQuiet
import Derived.Deep.DeepCutAuto
namespace Go.Proofs.YthefmkmgiblngabDoor
open Go.RowKit

/-- Numbers, four bytes each. -/
def catN (f : Nat → Int) : Nat → List UInt8
  | 0 => []
  | k + 1 => catN f k ++ bytesOf (f k) 4
@[simp] theorem catN_length (f : Nat → Int) (k : Nat) : (catN f k).length = 4 * k := by
  induction k with
  | zero => rfl
  | succ k ih => simp [catN, ih]; omega
theorem catN_split (f : Nat → Int) (j : Nat) : ∀ k, j < k → ∃ B, catN f k = catN f j ++ bytesOf (f j) 4 ++ B
  | 0, h => by omega
  | k + 1, h => by
    by_cases e : j = k
    · subst e; exact ⟨[], by simp [catN]⟩
    · obtain ⟨B, hB⟩ := catN_split f j k (by omega)
      exact ⟨B ++ bytesOf (f k) 4, by rw [catN, hB]; simp⟩
/-- Hashes. -/
def catH (g : Nat → List UInt8) : Nat → List UInt8
  | 0 => []
  | k + 1 => catH g k ++ g k
theorem catH_length (g : Nat → List UInt8) (k : Nat) (h : ∀ i, i < k → (g i).length = 32) : (catH g k).length = 32 * k := by
  induction k with
  | zero => rfl
  | succ k ih =>
    have h1 := ih (fun i hi => h i (by omega))
    have h2 := h k (by omega)
    simp [catH, h1, h2]; omega
theorem catH_split (g : Nat → List UInt8) (j : Nat) : ∀ k, j < k → ∃ B, catH g k = catH g j ++ g j ++ B
  | 0, h => by omega
  | k + 1, h => by
    by_cases e : j = k
    · subst e; exact ⟨[], by simp [catH]⟩
    · obtain ⟨B, hB⟩ := catH_split g j k (by omega)
      exact ⟨B ++ g k, by rw [catH, hB]; simp⟩
theorem row_num (f : Nat → Int) (g : Nat → List UInt8) (n m j : Nat) (hj : j < n) (h : 0 ≤ f j ∧ f j ≤ 4294967295) : getV (S (catN f n ++ catH g m)) (4 * j : Nat) 4 = .tuple #[.int .i64 (f j), .int .i64 ((4 * j : Nat) + 4), .bool true] := by
  obtain ⟨B, hB⟩ := catN_split f j n hj
  have := num_at (catN f j) (B ++ catH g m) (f j) 4 rfl h.1 (by simp [lim]; omega)
  rw [catN_length] at this
  rw [hB, List.append_assoc]
  exact this
theorem row_hash (f : Nat → Int) (g : Nat → List UInt8) (n m j : Nat) (hj : j < m) (h : ∀ i, i < m → (g i).length = 32) : ghV (S (catN f n ++ catH g m)) (4 * n + 32 * j : Nat) = .tuple #[.agg (hv (g j)), .int .i64 ((4 * n + 32 * j : Nat) + 32), .bool true] := by
  obtain ⟨B, hB⟩ := catH_split g j m hj
  have := hash_at (catN f n ++ catH g j) (g j) B (h j hj)
  rw [List.length_append, catN_length, catH_length g j (fun i hi => h i (by omega))] at this
  rw [hB, show catN f n ++ (catH g j ++ g j ++ B) = catN f n ++ catH g j ++ g j ++ B by simp]
  exact this
theorem row_end (s : ByteArray) (a : Int) (h : a = s.size) : getV s a 1 = .tuple #[.int .i64 0, .int .i64 0, .bool false] := by
  apply getV_no
  unfold getB
  rw [show stB s a 1 = false from stB_not.2 (by omega)]
  rfl
theorem neqC (w : World) (a : List UInt8) (ha : a.length = 32) : (binOp .neq 33 (.agg (hv a)) (.agg (hv a))).run Tryd.prog w = .ok (.bool false) w := by
  have := run_neq_bytes (P := Tryd.prog) w 33 5 32 Tryd.underlying33 Tryd.underlying5 cells_u8 (by kernel_rfl) a a ha ha
  simpa using this
theorem eqIn (w : World) (a : List UInt8) (ha : a.length = 32) : (Op.equalIn 10000 33 (.agg (hv a)) (.agg (hv a))).run Tryd.prog w = .ok true w := by
  have h := neqC w a ha
  rw [run_neq_struct] at h
  cases hr : (Op.equalIn 10000 33 (.agg (hv a)) (.agg (hv a))).run Tryd.prog w with
  | ok b w' =>
    rw [hr] at h
    simp [Result.andThen] at h
    rw [h.1, h.2]
  | halt x w' => rw [hr] at h; simp [Result.andThen] at h
theorem load_midC {P : Program} {ops : Array Oper} {rest : List Oper} {op : Oper} {a : Act} {w : World} {Q : Exit → Act → World → Prop} (hgd : op.guard = none) (ty : TypeId) (x : Operand) (ho : op.op = .load ty x)
    (b o n : Nat) (e : TypeId) (C : Array Value) (hx : a.eval x = .pointer (some ⟨b, o, none⟩)) (hc : w.rangeAt b o C.toList) (hu : P.underlying ty = some (.array n e)) (hi : (P.info? ty).map (·.size) = some n) (hn : C.size = n)
    (h : wpList P ops Q rest (a.put op.dst (.agg C)) w) : wpList P ops Q (op :: rest) a w :=
  wpList_load_mid hgd ty x ho b o hx C.toList _ hc hu rfl (by rw [hi, Array.length_toList, hn]) h
theorem loadFrom {P : Program} (w : World) (b o : Nat) (C : Array Value) (n : Nat) (hn : C.size = n) (h : w.rangeAt b o C.toList) : (loadCellsFrom ⟨b, o, none⟩ 0 n #[]).run P w = .ok C w := by
  subst hn
  have := run_loadCells_list (P := P) w ⟨b, o, none⟩ C.toList (fun j v hv => by
    rw [Addr.add_mid]; exact h j v hv)
  simpa [loadCells] using this
/-- A load of a whole array in a region that only reads. -/
theorem quiet_load_mid {P : Program} {ops : Array Oper} {Cw : World → Prop} {Q : Act → Prop} {a : Act} {o : Oper} {rest : List Oper} (hw : Region.wanted o (yielded ops a.tmps) = true) (ty : TypeId) (x : Operand) (ho : o.op = .load ty x) (b off n : Nat) (e : TypeId) (C : Array Value)
    (hx : a.eval x = .pointer (some ⟨b, off, none⟩)) (hc : ∀ w, Cw w → w.rangeAt b off C.toList) (hu : P.underlying ty = some (.array n e)) (hi : (P.info? ty).map (·.size) = some n) (hn : C.size = n)
    (h : wpQuiet P ops Cw Q rest (a.put o.dst (.agg C))) : wpQuiet P ops Cw Q (o :: rest) a :=
  wpQuiet_step fun K hK => by
    rw [if_pos hw]
    refine ⟨.agg C, fun w hw => ?_, hK _ h⟩
    have hl := run_loadVar_mid (P := P) w b off ty C.toList _ (hc w hw) hu rfl (by rw [hi, Array.length_toList, hn])
    unfold Oper.quietAt execOp
    simp only [ho, hx, Instr.loadAt, Instr.sureAddr, Sem.run_bind, Sem.run_pure, Result.andThen_ok, hl]
    exact ⟨rfl, rfl⟩
theorem rangeAt_below {n b o : Nat} {w w' : World} {cs : List Value} (h : w.rangeAt b o cs) (hb : Below n w w') (hlt : b < n) : w'.rangeAt b o cs := fun j v hj => by
  rw [hb.cell (p := ⟨b, o + j, none⟩) hlt]; exact h j v hj

set_option maxRecDepth 100000 in
set_option maxHeartbeats 8000000 in
theorem row_walk (b1 o1 n cap1 b2 o2 m cap2 : Nat) (f : Nat → Int) (g : Nat → List UInt8) (w : World) (hT : Tab w) (hn : ¬ (60 : Int) < n) (hm : ¬ (20 : Int) < m)
    (hc1 : ∀ i, i < n → w.cell? ⟨b1, o1 + i, none⟩ = some (.int .u32 (f i))) (hs1 : ∀ i, i < n → 0 ≤ f i ∧ f i ≤ 4294967295) (a1 : Option Addr) (ha1 : 0 < n → a1 = some ⟨b1, o1, none⟩)
    (hb2 : 0 < m → b2 < w.heap.size) (hc2 : ∀ i, i < m → w.rangeAt b2 (o2 + i * 32) (hv (g i)).toList) (hs2 : ∀ i, i < m → (g i).length = 32) (a2 : Option Addr) (ha2 : 0 < m → a2 = some ⟨b2, o2, none⟩) :
    Calls Tryd.prog 4 #[.slice a1 n cap1, .slice a2 m cap2] w fun e w' => e = .returned (.bool true) ∧ Below w.heap.size w w' := by
  have hb1 : Hid (0 < n → b1 < w.heap.size) := fun h => block_lt_of_cell (hc1 0 h)
  have HC1 : Hid _ := hc1
  have HS1 : Hid _ := hs1
  have HA1 : Hid _ := ha1
  have HB2 : Hid _ := hb2
  have HC2 : Hid _ := hc2
  have HS2 : Hid _ := hs2
  have HA2 : Hid _ := ha2
  clear hc1 hs1 ha1 hb2 hc2 hs2 ha2
  go_enter Tryd.func4, Tryd.ntmps4
  go_wp2
  go_loopw [5, 6] (fun s i wr => ∃ k : Nat, k ≤ n ∧ i = .int .i64 k ∧ s = .string (S (catN f k)) ∧ Below w.heap.size w wr) (fun _ i _ => n - (intOf i).toNat)
  case atStart => exact ⟨0, Nat.zero_le _, rfl, rfl, Below.refl _ _⟩
  case round =>
    obtain ⟨k, hk, rfl, rfl, hb⟩ := hrel
    by_cases hlt : k < n
    · have hcx : wr.cell? ⟨b1, o1 + k, none⟩ = some (.int .u32 (f k)) := (hb.cell (by exact hb1.out (by omega))).trans (HC1.out k hlt)
      obtain rfl := HA1.out (by omega)
      obtain ⟨hf0, hf1⟩ := HS1.out k hlt
      have HS : Hid (S (catN f k) ++ S (putL (f k) 4) = S (catN f (k + 1))) := by
        show _ = _
        rw [putL, show fitB (f k) 4 = true by simp [fitB, lim]; omega, S_append]; rfl
      have hps : (S (putL (f k) 4)).size = 4 := by
        rw [S_size, putL, show fitB (f k) 4 = true by simp [fitB, lim]; omega]
        show (bytesOf (f k) 4).length = 4
        simp
      have hsz : (S (catN f k)).size ≤ 240 := by rw [S_size, catN_length]; omega
      have HT : Hid (Tab wr) := hT.below hb
      generalize S (catN f k) = A at *
      go_wp2_with fail
      refine (put_any (f k) 4 _ HT.out (by omega)).mono ?_
      rintro e w1 ⟨rfl, c1⟩
      have hbb : Below w.heap.size w w1 := hb.trans (c1.mono hb.size)
      generalize S (putL (f k) 4) = p at *
      have hsum : ¬ A.size + p.size > 9223372036854775807 := by omega
      go_wp2
      go_roundw
      case rel => exact ⟨k + 1, by omega, by go_num, by rw [HS.out], hbb⟩
      case measure => simp [intOf]; omega
    · obtain rfl : k = n := by omega
      go_wp2
      obtain ⟨wo, rfl⟩ : ∃ wo : World, wo = wr := ⟨_, rfl⟩
      go_loopw [5, 7] (fun s i wr => ∃ j : Nat, j ≤ m ∧ i = .int .i64 j ∧ s = .string (S (catN f k ++ catH g j)) ∧ Below w.heap.size w wr) (fun _ i _ => m - (intOf i).toNat)
      case atStart => exact ⟨0, Nat.zero_le _, rfl, by simp [catH], hb⟩
      case round =>
        obtain ⟨j, hj, rfl, rfl, hb'⟩ := hrel
        by_cases hlt2 : j < m
        · obtain rfl := HA2.out (by omega)
          have hg := HS2.out j hlt2
          have hrg : Hid (wr.rangeAt b2 (o2 + j * 32) (hv (g j)).toList) := rangeAt_below (HC2.out j hlt2) hb' (HB2.out (by omega))
          have HS : Hid (S (catN f k ++ catH g j) ++ S (g j) = S (catN f k ++ catH g (j + 1))) := by
            show _ = _
            rw [S_append, catH]; simp
          have hsz : (S (catN f k ++ catH g j)).size ≤ 1000 := by
            rw [S_size, List.length_append, catN_length, catH_length g j (fun i hi => HS2.out i (by omega))]; omega
          have hqs : (S (g j)).size = 32 := by rw [S_size, hg]
          have hi : Hid ((Tryd.prog.info? 33).map (·.size) = some (hv (g j)).toList.length) := by show _ = _; rw [Array.length_toList, hv_size, hg]; exact info_h32
          have HPH : Hid (∀ W, Calls Tryd.prog 9 #[.agg (hv (g j))] W fun e w' => e = .returned (.string (S (g j))) ∧ Below W.heap.size W w') := fun W => putHash_any (g j) W hg
          generalize S (catN f k ++ catH g j) = A at *
          have hCs : (hv (g j)).size = 32 := by rw [hv_size, hg]
          go_wp2_with (refine load_midC rfl 33 _ rfl b2 (o2 + j * 32) 32 5 (hv (g j)) rfl hrg.out Tryd.underlying33 info_h32 hCs ?_)
          refine (HPH.out _).mono ?_
          rintro e w1 ⟨rfl, c1⟩
          have hbb : Below w.heap.size w w1 := hb'.trans (c1.mono hb'.size)
          generalize S (g j) = q at *
          have hsum : ¬ A.size + q.size > 9223372036854775807 := by omega
          go_wp2
          go_roundw
          case rel => exact ⟨j + 1, by omega, by go_num, by rw [HS.out], hbb⟩
          case measure => simp [intOf]; omega
        · obtain rfl : j = m := by omega
          have hlen : Hid ((S (catN f k ++ catH g j)).size = 4 * k + 32 * j) := by
            show _ = _
            rw [S_size, List.length_append, catN_length, catH_length g j HS2.out]
          have HN : Hid (∀ i, i < k → getV (S (catN f k ++ catH g j)) (4 * i : Nat) 4 = .tuple #[.int .i64 (f i), .int .i64 ((4 * i : Nat) + 4), .bool true]) := fun i hi => row_num f g k j i hi (HS1.out i hi)
          have HH : Hid (∀ i, i < j → ghV (S (catN f k ++ catH g j)) (4 * k + 32 * i : Nat) = .tuple #[.agg (hv (g i)), .int .i64 ((4 * k + 32 * i : Nat) + 32), .bool true]) := fun i hi => row_hash f g k j i hi HS2.out
          generalize S (catN f k ++ catH g j) = s at *
          have hs1 : s.size ≤ 1000 := by rw [hlen.out]; omega
          have hs2 : s.size ≤ 140737488351232 := by omega
          go_wp2
          obtain ⟨wp, rfl⟩ : ∃ wp : World, wp = wr := ⟨_, rfl⟩
          go_loopw [8, 9] (fun a i wr => ∃ r : Nat, r ≤ k ∧ i = .int .i64 r ∧ a = .int .i64 (4 * r : Nat) ∧ Below w.heap.size w wr) (fun _ i _ => k - (intOf i).toNat)
          case atStart => exact ⟨0, Nat.zero_le _, rfl, rfl, hb'⟩
          case round =>
            obtain ⟨r, hr, rfl, rfl, hbr⟩ := hrel
            by_cases hlt3 : r < k
            · have hcx : wr.cell? ⟨b1, o1 + r, none⟩ = some (.int .u32 (f r)) := (hbr.cell (by exact hb1.out (by omega))).trans (HC1.out r hlt3)
              obtain rfl := HA1.out (by omega)
              obtain ⟨hf0, hf1⟩ := HS1.out r hlt3
              have hv := HN.out r hlt3
              have HT : Hid (Tab wr) := hT.below hbr
              obtain ⟨at4, hat⟩ : ∃ x : Nat, x = 4 * r := ⟨_, rfl⟩
              rw [← hat] at hv ⊢
              have HAT : Hid (at4 = 4 * r) := hat
              have hat2 : at4 ≤ 240 := by omega
              clear hat
              go_wp2_with fail
              refine (get_any s at4 4 _ HT.out hs2 (by omega)).mono ?_
              rintro e w1 ⟨rfl, rfl⟩
              go_wp2
              go_roundw
              case rel => exact ⟨r + 1, by omega, by go_num, by rw [HAT.out]; go_num, hbr⟩
              case measure => simp [intOf]; omega
            · obtain rfl : r = k := by omega
              go_wp2
              obtain ⟨wq, rfl⟩ : ∃ wq : World, wq = wr := ⟨_, rfl⟩
              have z2 : (hv (padTo 32 [])).size = 32 := by rw [hv_size, padTo_length (by decide)]
              rw [zero_h32] at z2
              have Z2 : Hid _ := z2
              clear z2
              go_loopw [8, 13] (fun a i wr => ∃ q : Nat, q ≤ j ∧ i = .int .i64 q ∧ a = .int .i64 (4 * r + 32 * q : Nat) ∧ Below w.heap.size w wr) (fun _ i _ => j - (intOf i).toNat)
              case atStart => exact ⟨0, Nat.zero_le _, rfl, rfl, hbr⟩
              case round =>
                obtain ⟨q, hq, rfl, rfl, hbq⟩ := hrel
                by_cases hlt4 : q < j
                · obtain rfl := HA2.out (by omega)
                  have hgl := HS2.out q hlt4
                  have hvq := HH.out q hlt4
                  have hrg : Hid (wr.rangeAt b2 (o2 + q * 32) (hv (g q)).toList) := rangeAt_below (HC2.out q hlt4) hbq (HB2.out (by omega))
                  have hb2' : b2 < wr.heap.size := by have := HB2.out (by omega); have := hbq.size; omega
                  have hne : ∀ w : World, (binOp .neq 33 (.agg (hv (g q))) (.agg (hv (g q)))).run Tryd.prog w = .ok (.bool false) w := fun w => neqC w (g q) hgl
                  have heq : ∀ w : World, (Op.equalIn 10000 33 (.agg (hv (g q))) (.agg (hv (g q)))).run Tryd.prog w = .ok true w := fun w => eqIn w (g q) hgl
                  have hCs : (hv (g q)).size = 32 := by rw [hv_size, hgl]
                  have hone : (hv (g q)).all (·.oneCell') = true := hv_one _
                  generalize hv (g q) = C at *
                  obtain ⟨at4, hat⟩ : ∃ x : Nat, x = 4 * r + 32 * q := ⟨_, rfl⟩
                  rw [← hat] at hvq ⊢
                  have HAT : Hid (at4 = 4 * r + 32 * q) := hat
                  have hat2 : at4 ≤ 1000 := by omega
                  clear hat
                  go_wp2_with fail
                  refine (getHash_any s at4 _ hs2 (by omega)).mono ?_
                  rintro e w1 ⟨rfl, c1⟩
                  have hsw := c1.size
                  have hbb : Below w.heap.size w (w1.alloc (.cells C 33)) := (hbq.trans (c1.mono hbq.size)).alloc (by have := hbq.size; omega) _
                  have r1 : (w1.alloc (.cells C 33)).rangeAt w1.heap.size 0 C.toList := by
                    intro i v hi
                    rw [Nat.zero_add, World.cell?_alloc_at _ _ _ _ rfl]
                    simpa using hi
                  have r2 : (w1.alloc (.cells C 33)).rangeAt b2 (o2 + q * 32) C.toList := rangeAt_below (rangeAt_below hrg.out c1 hb2') ((Below.refl w1.heap.size w1).alloc (Nat.le_refl _) _) (by omega)
                  have R1 : Hid _ := r1
                  have R2 : Hid _ := r2
                  clear r1 r2
                  go_wp2_with (refine store_last rfl 33 _ _ rfl 32 _ _ C rfl rfl info_h32 Z2.out hCs hone ?_)
                  refine wp_region_quiet_lit (by kernel_rfl) (by kernel_rfl) ?_
                  repeat (first | (refine quiet_load_mid rfl 33 _ rfl w1.heap.size 0 32 5 C rfl ?_ Tryd.underlying33 info_h32 hCs ?_; (rintro _ ⟨nq, rfl⟩; exact R1.out); simp only [Act.put, List.setIfInBounds_toArray, List.set_cons_zero, List.set_cons_succ]) | (refine quiet_load_mid rfl 33 _ rfl b2 (o2 + q * 32) 32 5 C rfl ?_ Tryd.underlying33 info_h32 hCs ?_; (rintro _ ⟨nq, rfl⟩; exact R2.out); simp only [Act.put, List.setIfInBounds_toArray, List.set_cons_zero, List.set_cons_succ]) | (go_big_quiet_step (fail)))
                  refine wpQuiet_nil ?_
                  rintro _ ⟨nq, rfl⟩
                  go_wp2
                  go_roundw
                  case rel => exact ⟨q + 1, by omega, by go_num, by rw [HAT.out]; go_num, Go.below_drewN hbb nq⟩
                  case measure => simp [intOf]; omega
                · obtain rfl : q = j := by omega
                  have HT : Hid (Tab wr) := hT.below hbq
                  have hve := row_end s (4 * r + 32 * q : Nat) (by have := hlen.out; omega)
                  have dsz : (((4 * r + 32 * q : Nat) : Int) == (s.size : Int)) = true := by have := hlen.out; simp; omega
                  have hat2 : 4 * r + 32 * q ≤ 1000 := by omega
                  generalize 4 * r + 32 * q = at4 at *
                  go_wp2_with fail
                  refine (get_any s at4 1 _ HT.out hs2 (by omega)).mono ?_
                  rintro e w1 ⟨rfl, rfl⟩
                  go_wp2_with fail
                  refine (does_any _ HT.out).mono ?_
                  rintro e w2 ⟨rfl, c2⟩
                  go_wp2
                  go_ret
                  exact ⟨rfl, hbq.trans (c2.mono hbq.size)⟩
set_option maxRecDepth 100000 in
theorem row_many (a1 : Option Addr) (n cap1 : Nat) (a2 : Option Addr) (m cap2 : Nat) (w : World) (h : (60 : Int) < n ∨ (¬ (60 : Int) < n ∧ (20 : Int) < m)) :
    Calls Tryd.prog 4 #[.slice a1 n cap1, .slice a2 m cap2] w fun e w' => e = .returned (.bool true) ∧ Below w.heap.size w w' := by
  rcases h with h | ⟨h, h'⟩
  all_goals
    go_enter Tryd.func4, Tryd.ntmps4
    go_wp2
    go_ret
    exact ⟨rfl, Below.refl _ _⟩
theorem rowlaw_walk (a1 : Option Addr) (n cap1 : Nat) (f : Nat → Int) (a2 : Option Addr) (m cap2 : Nat) (g : Nat → List UInt8) (w : World) (hT : Tab w) (h1 : IsU32s w a1 n f) (h2 : IsH32s w a2 m g) :
    Calls Tryd.prog 4 #[.slice a1 n cap1, .slice a2 m cap2] w fun e w' => e = .returned (.bool true) ∧ Below w.heap.size w w' := by
  by_cases h : ¬ (60 : Int) < n ∧ ¬ (20 : Int) < m
  · have e1 : ∃ b off, (0 < n → a1 = some ⟨b, off, none⟩) ∧ ∀ i, i < n → w.cell? ⟨b, off + i, none⟩ = some (.int .u32 (f i)) := by
      by_cases h0 : 0 < n
      · obtain ⟨b, off, ha, hc⟩ := h1.at0 h0
        exact ⟨b, off, fun _ => ha, hc⟩
      · exact ⟨0, 0, fun h => absurd h h0, fun i hi => by omega⟩
    have e2 : ∃ b off, (0 < m → a2 = some ⟨b, off, none⟩) ∧ (0 < m → b < w.heap.size) ∧ ∀ i, i < m → w.rangeAt b (off + i * 32) (hv (g i)).toList := by
      by_cases h0 : 0 < m
      · obtain ⟨b, off, ha, hb, hc⟩ := h2.at0 h0
        exact ⟨b, off, fun _ => ha, fun _ => hb, hc⟩
      · exact ⟨0, 0, fun h => absurd h h0, fun h => absurd h h0, fun i hi => by omega⟩
    obtain ⟨b1, o1, p1, p2⟩ := e1
    obtain ⟨b2, o2, q1, q2, q3⟩ := e2
    exact row_walk b1 o1 n cap1 b2 o2 m cap2 f g w hT h.1 h.2 p2 h1.small a1 p1 q2 q3 h2.full a2 q1
  · exact row_many a1 n cap1 a2 m cap2 w (by omega)
end Go.Proofs.YthefmkmgiblngabDoor
