/- Leaves and nodes, plainly; a hash's box; the document's own Empty and PutHash (layer 8). -/
import Derived.Test.YtficmbaffkkfhaaDoorTd
namespace Go.Proofs.YtficmbaffkkfhaaDoor
open Go.RowKit

def leafL (d : List UInt8) : List UInt8 := shaL (0 :: d)
def nodeL (a b : List UInt8) : List UInt8 := shaL (1 :: (a ++ b))
theorem S_lead (x : UInt8) (d : List UInt8) : (⟨#[x]⟩ : ByteArray) ++ S d = S (x :: d) := by
  rw [show (⟨#[x]⟩ : ByteArray) = S [x] from rfl, S_append]
  rfl
/-- A new box for a hash. -/
theorem hash_box (w : World) : ∃ w', w.alloc (.cells (hv (padTo 32 [])) 23) = w' ∧ Below w.heap.size w w' ∧ w'.heap[w.heap.size]? = some (.cells (hv (padTo 32 [])) 23 (0, 0)) := ⟨_, rfl, (Below.refl _ _).alloc (Nat.le_refl _) _, heap_alloc_last w _⟩
theorem hz_size : (hv (padTo 32 [])).size = 32 := by rw [hv_size, padTo_length (by decide)]
set_option maxRecDepth 100000 in
theorem rempty_any (w : World) (hR : TabR w) : Calls Tryd.prog 35 #[] w fun e w' => e = .returned (.agg (hv (shaL []))) ∧ Below w.heap.size w w' := by
  obtain ⟨w1, hw1, b1, hg1⟩ := hash_box w
  have HC : Hid (Calls Tryd.prog 44 #[.string ⟨#[]⟩] w1 fun e w' => e = .returned (.agg (hv (shaL []))) ∧ Below w1.heap.size w1 w') := rsum_any [] w1 (hR.below b1 hR.lt) (by decide)
  have HG : Hid (∀ w', Below w1.heap.size w1 w' → w'.heap[w.heap.size]? = some (.cells (hv (padTo 32 [])) 23 (0, 0))) := fun w' hb => (hb.block _ (Array.getElem?_eq_some_iff.1 hg1).1).trans hg1
  have HB : Hid (∀ w', Below w1.heap.size w1 w' → Below w.heap.size w w') := fun w' hb => b1.trans (hb.mono b1.size)
  have e4 : (hv (shaL [])).size = 32 := by rw [hv_size, shaL_length]
  have e5 := hv_one (shaL [])
  generalize hv (shaL []) = R at *
  have z1 : Hid ((hv (padTo 32 [])).size = 32) := hz_size
  rw [zero_h32] at hw1 HG z1
  clear hg1 b1
  go_enter Tryd.func35, Tryd.ntmps35
  go_wp2_with fail
  refine HC.out.mono ?_
  rintro e w2 ⟨rfl, b2⟩
  have g2 := HG.out w2 b2
  have HB2 : Hid _ := HB.out w2 b2
  clear b2 hw1
  go_wp2_with (refine wpList_store_row rfl 23 _ _ rfl w.heap.size R rfl rfl _ _ g2 (by rw [info_h32, e4]) (by rw [z1.out, e4]) e5 ?_)
  refine bodyPost_ret (v := .agg R) (results_cell1 (p := 0) Tryd.results35 _ _ w.heap.size 32 23 5 R (0, 0) rfl (heap_setRow_same g2) Tryd.underlying23 info_h32 e4) rfl ⟨rfl, below_setRow HB2.out (Nat.le_refl _) _⟩
theorem S_two (l : List UInt8) (x : UInt8) : S l ++ (⟨#[x]⟩ : ByteArray) = S (l ++ [x]) := by
  rw [show (⟨#[x]⟩ : ByteArray) = S [x] from rfl, S_append]
theorem cv_one (x : UInt8) (w : World) : (convert 60 9 (.slice (some ⟨w.heap.size, 0, none⟩) 1 1)).run Tryd.prog (w.alloc (.cells #[.int .u8 (x.toNat : Int)] 5)) = .ok (.string ⟨#[x]⟩) (w.alloc (.cells #[.int .u8 (x.toNat : Int)] 5)) := by
  have := conv_row [x] (w.alloc (.cells #[.int .u8 (x.toNat : Int)] 5)) w.heap.size 1 5 (0, 0) (heap_alloc_last w _)
  exact this
set_option maxRecDepth 100000 in
set_option maxHeartbeats 1000000 in
/-- The document's own PutHash. -/
theorem rputHash_any (l : List UInt8) (w : World) (hl : l.length = 32) : Calls Tryd.prog 45 #[.agg (hv l)] w fun e w' => e = .returned (.string (S l)) ∧ Below w.heap.size w w' := by
  have hsz : (hv l).size = 32 := by rw [hv_size, hl]
  obtain ⟨w1, hw1⟩ : ∃ w1, w.alloc (.cells (hv l) 23) = w1 := ⟨_, rfl⟩
  have b1 : Below w.heap.size w w1 := by rw [← hw1]; exact (Below.refl _ _).alloc (Nat.le_refl _) _
  have hg1 : w1.heap[w.heap.size]? = some (.cells (hv l) 23 (0, 0)) := by rw [← hw1]; exact heap_alloc_last w _
  have HC : Hid (∀ (k : Nat) (x : UInt8) (w' : World), l[k]? = some x → Below w1.heap.size w1 w' → w'.cell? ⟨w.heap.size, k, none⟩ = some (.int .u8 (x.toNat : Int))) := fun k x w' hx hb => by
    rw [cell_of_row _ _ _ _ _ _ ((hb.block _ (Array.getElem?_eq_some_iff.1 hg1).1).trans hg1)]
    simp [hv, hx]
  have HB1 : Hid (∀ w', Below w1.heap.size w1 w' → Below w.heap.size w w') := fun w' hb => b1.trans (hb.mono b1.size)
  generalize hv l = C at *
  clear hg1 b1
  go_enter Tryd.func45, Tryd.ntmps45
  go_wp2
  go_loopw [3, 4] (fun sv iv wr => ∃ m : Nat, m ≤ 32 ∧ iv = .int .i64 m ∧ sv = .string (S (l.take m)) ∧ Below w1.heap.size w1 wr) (fun _ iv _ => 32 - (intOf iv).toNat)
  case atStart => exact ⟨0, Nat.zero_le _, rfl, rfl, Below.refl _ _⟩
  case round =>
    obtain ⟨m, hm, rfl, rfl, hb⟩ := hrel
    by_cases hlt : m < 32
    · obtain ⟨x, hx⟩ : ∃ x, l[m]? = some x := ⟨_, List.getElem?_eq_getElem (by omega)⟩
      have c1 := HC.out m x wr hx hb
      have hcv := cv_one x wr
      have hst : Hid (S (l.take m) ++ (⟨#[x]⟩ : ByteArray) = S (l.take (m + 1))) := by show _ = _; rw [S_two, List.take_add_one, hx]; rfl
      have hln : (S (l.take m)).size ≤ 32 := by rw [S_size, List.length_take]; omega
      have hlt2 : (m : Int) < 32 := by omega
      have HB : Hid (Below w1.heap.size w1 (wr.alloc (.cells #[.int .u8 (x.toNat : Int)] 5))) := hb.alloc hb.size _
      have hn1 : (⟨#[x]⟩ : ByteArray).size = 1 := rfl
      generalize S (l.take m) = P at *
      generalize (⟨#[x]⟩ : ByteArray) = X at *
      clear hx hb
      go_wp2
      go_roundw
      case rel => exact ⟨m + 1, by omega, by go_num, by rw [hst.out], HB.out⟩
      case measure => simp [intOf]; omega
    · obtain rfl : m = 32 := by omega
      have hR : Hid (S (l.take 32) = S l) := by show _ = _; rw [List.take_of_length_le (by omega)]
      have HB : Hid _ := HB1.out wr hb
      clear hb
      go_wp2
      go_ret
      exact ⟨by rw [← hR.out]; rfl, HB.out⟩
end Go.Proofs.YtficmbaffkkfhaaDoor
