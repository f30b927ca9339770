/- The walk of the law ShaWrites: the hash that a writer tells, asked behind each Write, is the document's of all that was written so far. -/
import Derived.Test.YtiajbepbhfojnaaDoorSh
import Derived.Test.YtiajbepbhfojnaaDoorTd
import Derived.Test.YtiajbepbhfojnaaDoorOt
namespace Go.Proofs.YtiajbepbhfojnaaDoor
open Go.RowKit

/-- A writer of the call's own, and both tables. -/
structure One (w : World) (p : Nat) (l : List UInt8) (wr : World) : Prop where
  below : Below w.heap.size w wr
  k : TabK wr
  r : TabR wr
  kw : 1 < w.heap.size
  rw' : 0 < w.heap.size
  hp : w.heap.size ≤ p
  one : IsW wr p l
theorem One.next {w : World} {p : Nat} {l : List UInt8} {wr wx : World} (h : One w p l wr) (hb : Below wr.heap.size wr wx) : One w p l wx :=
  ⟨h.below.trans (hb.mono h.below.size), h.k.below hb h.k.lt, h.r.below hb h.r.lt, h.kw, h.rw', h.hp, h.one.below hb h.one.lt⟩
theorem one_write {w : World} {p : Nat} {l : List UInt8} (x : List UInt8) {wr : World} (h : One w p l wr) (hl : l.length + x.length ≤ 1099511627776) :
    Calls Tryd.prog 15 #[.pointer (some ⟨p, 0, none⟩), .string (S x)] wr fun e w' => e = .returned (.int .i64 0) ∧ One w p (l ++ x) w' := by
  have h0 := h.kw
  have h1 := h.hp
  have h2 := h.rw'
  refine (write_any p l x wr h.k (by omega) h.one hl).mono ?_
  rintro e w' ⟨rfl, W, B⟩
  have hb := B.below (B := w.heap.size) h.hp h.below.size
  exact ⟨rfl, h.below.trans hb, h.k.but B (by omega), h.r.below hb (by omega), h.kw, h.rw', h.hp, W⟩
theorem one_sum {w : World} {p : Nat} {l : List UInt8} {wr : World} (h : One w p l wr) (hl : l.length ≤ 549755813888) :
    Calls Tryd.prog 16 #[.pointer (some ⟨p, 0, none⟩)] wr fun e w' => e = .returned (.agg (hv (shaL l))) ∧ One w p l w' :=
  (wsum_any p l wr h.k h.one hl).mono fun _ _ hh => ⟨hh.1, h.next hh.2⟩
theorem one_ref {w : World} {p : Nat} {l : List UInt8} (x : List UInt8) {wr : World} (h : One w p l wr) (hl : x.length ≤ 549755813888) :
    Calls Tryd.prog 10 #[.string (S x)] wr fun e w' => e = .returned (.agg (hv (shaL x))) ∧ One w p l w' :=
  (rsum_any x wr h.r hl).mono fun _ _ hh => ⟨hh.1, h.next hh.2⟩
theorem one_does {w : World} {p : Nat} {l : List UInt8} {wr : World} (h : One w p l wr) :
    Calls Tryd.prog 13 #[] wr fun e w' => e = .returned (.bool true) ∧ One w p l w' :=
  (does_any wr h.k).mono fun _ _ hh => ⟨hh.1, h.next hh.2⟩
theorem eq_sha (l : List UInt8) (w : World) : (binOp .eql 22 (.agg (hv (shaL l))) (.agg (hv (shaL l)))).run Tryd.prog w = .ok (.bool true) w := by
  have := eqH w (shaL l) (shaL l) (shaL_length _) (shaL_length _)
  simpa using this
theorem neq_sha (l : List UInt8) (w : World) : (binOp .neq 22 (.agg (hv (shaL l))) (.agg (hv (shaL l)))).run Tryd.prog w = .ok (.bool false) w := by
  have := neqH w (shaL l) (shaL l) (shaL_length _) (shaL_length _)
  simpa using this
set_option maxRecDepth 100000 in
set_option maxHeartbeats 3200000 in
theorem writes_walk (ba oa la ca : Nat) (ga : Nat → List UInt8) (w : World) (hK : TabK w) (hR : TabR w) (hna : la ≤ 20)
    (hca : ∀ i, i < la → w.cell? ⟨ba, oa + i, none⟩ = some (.string (S (ga i)))) (hsa : ∀ i, i < la → (ga i).length ≤ 140737488351232) (ao : Option Addr) (hao : 0 < la → ao = some ⟨ba, oa, none⟩) :
    Calls Tryd.prog 4 #[.slice ao la ca] w fun e w' => e = .returned (.bool true) ∧ Below w.heap.size w w' := by
  have hn1 : decide ((20 : Int) < (la : Int)) = false := decide_eq_false (by omega)
  have hbwa : 0 < la → ba < w.heap.size := fun h => World.block_lt_of_cell? w _ (hca 0 h)
  have hgk := hK.lt
  have hgr := hR.lt
  go_enter Tryd.func4, Tryd.ntmps4
  go_wp2_with fail
  refine (new_any _).mono ?_
  rintro e w1 ⟨rfl, W1, b1⟩
  have HT : Hid (One w w.heap.size [] w1) := ⟨b1, hK.below b1 hgk, hR.below b1 hgr, hgk, hgr, Nat.le_refl _, W1⟩
  clear W1 b1
  go_wp2
  go_loopw [4, 5] (fun s i wr => ∃ (k : Nat) (x : List UInt8), k ≤ la ∧ x.length ≤ 2000 ∧ s = .string (S x) ∧ i = .int .i64 k ∧ One w w.heap.size x wr) (fun _ i _ => la - (intOf i).toNat)
  case atStart => exact ⟨0, [], by omega, by decide, rfl, rfl, HT.out⟩
  case round =>
    obtain ⟨k, x, hk, hx, rfl, rfl, hT⟩ := hrel
    clear HT
    by_cases ha : k < la
    · have haa := hao (by omega)
      subst haa
      have hcx : wr.cell? ⟨ba, oa + k, none⟩ = some (.string (S (ga k))) := (hT.below.cell (by exact hbwa (by omega))).trans (hca k ha)
      have hsx := hsa k ha
      have i1 : (k : Int) < (la : Int) := by omega
      have HT : Hid _ := hT
      clear hT hca hsa
      by_cases hov : 2000 < x.length + (ga k).length
      · by_cases ho1 : 2000 < (ga k).length
        · have t1 : (2000 : Int) < ((ga k).length : Int) := by omega
          go_wp2
          go_ret
          exact ⟨rfl, HT.out.below⟩
        · have t1 : ¬ (2000 : Int) < ((ga k).length : Int) := by omega
          have t2 : (2000 : Int) < (x.length : Int) + ((ga k).length : Int) := by omega
          go_wp2
          go_ret
          exact ⟨rfl, HT.out.below⟩
      · have t1 : ¬ (2000 : Int) < ((ga k).length : Int) := by omega
        have t2 : ¬ (2000 : Int) < (x.length : Int) + ((ga k).length : Int) := by omega
        have hcat : S x ++ S (ga k) = S (x ++ ga k) := S_append _ _
        have hsum : ¬ 9223372036854775807 < x.length + (ga k).length := by omega
        have hxl : (x ++ ga k).length ≤ 2000 := by simp; omega
        have HA : Hid (Calls Tryd.prog 15 #[.pointer (some ⟨w.heap.size, 0, none⟩), .string (S (ga k))] wr fun e w' => e = .returned (.int .i64 0) ∧ One w w.heap.size (x ++ ga k) w') := one_write (ga k) HT.out (by omega)
        have HB : Hid (∀ wx, One w w.heap.size (x ++ ga k) wx → Calls Tryd.prog 16 #[.pointer (some ⟨w.heap.size, 0, none⟩)] wx fun e w' => e = .returned (.agg (hv (shaL (x ++ ga k)))) ∧ One w w.heap.size (x ++ ga k) w') := fun wx h => one_sum h (by omega)
        have HC : Hid (∀ wx, One w w.heap.size (x ++ ga k) wx → Calls Tryd.prog 10 #[.string (S (x ++ ga k))] wx fun e w' => e = .returned (.agg (hv (shaL (x ++ ga k)))) ∧ One w w.heap.size (x ++ ga k) w') := fun wx h => one_ref (x ++ ga k) h (by omega)
        have hne := neq_sha (x ++ ga k)
        have HLx : Hid ((x ++ ga k).length ≤ 2000) := hxl
        clear hxl
        generalize hv (shaL (x ++ ga k)) = D at *
        generalize hSx : S (x ++ ga k) = Sx at *
        have HX : Hid (Value.string Sx = .string (S (x ++ ga k))) := by show _ = _; rw [hSx]
        clear hSx
        go_wp2_with fail
        refine HA.out.mono ?_
        rintro e wa ⟨rfl, h1⟩
        go_wp2_with fail
        refine (HB.out _ h1).mono ?_
        rintro e wb ⟨rfl, h2⟩
        go_wp2_with fail
        refine (HC.out _ h2).mono ?_
        rintro e wc ⟨rfl, h3⟩
        have H3 : Hid _ := h3
        clear h1 h2 h3
        go_wp2
        go_roundw
        case rel =>
          first
          | exact ⟨k + 1, x ++ ga k, by omega, HLx.out, HX.out, by go_num, H3.out⟩
          | ((repeat apply Exists.intro); exact ⟨⟨k + 1, x ++ ga k, by omega, HLx.out, HX.out, by go_num, H3.out⟩, rfl⟩)
        case measure => simp [intOf]; omega
    · have i1 : ¬ (k : Int) < (la : Int) := by omega
      have HB : Hid (∀ wx, One w w.heap.size x wx → Calls Tryd.prog 16 #[.pointer (some ⟨w.heap.size, 0, none⟩)] wx fun e w' => e = .returned (.agg (hv (shaL x))) ∧ One w w.heap.size x w') := fun wx h => one_sum h (by omega)
      have HC : Hid (∀ wx, One w w.heap.size x wx → Calls Tryd.prog 10 #[.string (S x)] wx fun e w' => e = .returned (.agg (hv (shaL x))) ∧ One w w.heap.size x w') := fun wx h => one_ref x h (by omega)
      have heq := eq_sha x
      have HT : Hid _ := hT
      clear hT hca hsa
      generalize hv (shaL x) = D at *
      go_wp2_with fail
      refine (HB.out _ HT.out).mono ?_
      rintro e wa ⟨rfl, h1⟩
      go_wp2_with fail
      refine (HC.out _ h1).mono ?_
      rintro e wb ⟨rfl, h2⟩
      go_wp2_with fail
      refine (one_does h2).mono ?_
      rintro e wc ⟨rfl, h3⟩
      go_wp2
      go_ret
      exact ⟨rfl, h3.below⟩
theorem writes_many (ao : Option Addr) (la ca : Nat) (w : World) (h : 20 < la) :
    Calls Tryd.prog 4 #[.slice ao la ca] w fun e w' => e = .returned (.bool true) ∧ Below w.heap.size w w' := by
  have h2 : (20 : Int) < (la : Int) := by omega
  go_enter Tryd.func4, Tryd.ntmps4
  go_wp2
  go_ret
  exact ⟨rfl, Below.refl _ _⟩
theorem writes_law (ao : Option Addr) (la ca : Nat) (ga : Nat → List UInt8) (w : World) (hK : TabK w) (hR : TabR w) (ha : IsTexts w ao la ga) :
    Calls Tryd.prog 4 #[.slice ao la ca] w fun e w' => e = .returned (.bool true) ∧ Below w.heap.size w w' := by
  by_cases h : 20 < la
  · exact writes_many ao la ca w h
  · by_cases hz : 0 < la
    · obtain ⟨b, off, e, hc⟩ := ha.at0 hz
      exact writes_walk b off la ca ga w hK hR (by omega) hc ha.small ao (fun _ => e)
    · exact writes_walk 0 0 la ca ga w hK hR (by omega) (fun i hi => by omega) ha.small ao (fun h => absurd h hz)
end Go.Proofs.YtiajbepbhfojnaaDoor
