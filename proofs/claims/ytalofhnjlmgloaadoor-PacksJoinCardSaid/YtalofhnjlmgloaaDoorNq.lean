/- The walk of the law PacksJoin. -/
import Derived.Test.YtalofhnjlmgloaaDoorNh
import Derived.Test.YtalofhnjlmgloaaDoorNl
import Derived.Test.YtalofhnjlmgloaaDoorNo
import Derived.Test.YtalofhnjlmgloaaDoorNp
namespace Go.Proofs.YtalofhnjlmgloaaDoor
open Go.RowKit

set_option maxRecDepth 100000 in
set_option maxHeartbeats 4000000 in
theorem packjoin_any {v : Value} {L : List (List UInt8)} (k n : Int) {w : World} (h : TextsAt w v L) (hs : ∀ s ∈ L, s.length ≤ 140737488351232) (hT : Tab w) (hT4 : Tab4 w) :
    Calls Tryd.prog 4 #[v, .int .u8 k, .int .i64 n] w fun e w' => e = .returned (.bool true) ∧ Below w.heap.size w w' := by
  have HGr : Hid (Calls Tryd.prog 15 #[v, .int .i64 30] w fun e w' => e = .returned (.bool (greatB L 30)) ∧ Below w.heap.size w w') := great_any 30 h (by omega) hs
  have HDo : Hid (∀ w1, Tab w1 → Tab4 w1 → Calls Tryd.prog 14 #[] w1 fun e w' => e = .returned (.bool true) ∧ Below w1.heap.size w1 w') := fun w1 a b => pdoes_any w1 a b
  have HX0 : Hid (Ts w [(v, L)] w) := (Ts.start hT hT4).add h
  obtain ⟨a, c, rfl, -⟩ := id h
  clear h hT hT4 hs
  cases hg : greatB L 30 with
  | true =>
    rw [hg] at HGr
    go_enter Tryd.func4, Tryd.ntmps4
    go_wp2_with fail
    refine HGr.out.mono ?_
    rintro r w1 ⟨rfl, b1⟩
    have HB : Hid _ := b1
    clear b1
    go_wp2
    go_ret
    exact ⟨rfl, HB.out⟩
  | false =>
    rw [hg] at HGr
    obtain ⟨h30, -⟩ := greatB_no hg
    have h30' : L.length ≤ 30 := by omega
    have HJ : Hid (∀ (w1 : World) t, Ts w [(t, L ++ [[42]]), (.slice a L.length c, L)] w1 → ∀ xa xc, t = .slice xa (L.length + 1) xc → Calls Tryd.prog 16 #[.slice xa L.length xc, .int .u8 k, .int .i64 n] w1 fun r w' => r = .returned (.tuple #[.string (S (joinL L k n)), .int .i64 (joinE L k n)]) ∧ Ts w [(t, L ++ [[42]]), (.slice a L.length c, L)] w') := fun w1 t h xa xc e => by
      subst e
      have := ts_join h (h.head.take L.length (by omega)) k n (by simp; omega)
      rwa [List.take_left' rfl] at this
    have HR : Hid (∀ (w1 : World) t, Ts w [(t, L ++ [[42]]), (.slice a L.length c, L)] w1 → Calls Tryd.prog 17 #[.slice a L.length c, .int .u8 k, .int .i64 n] w1 fun r w' => r = .returned (.tuple #[.string (S (joinL L k n)), .int .i64 (joinE L k n)]) ∧ Ts w [(t, L ++ [[42]]), (.slice a L.length c, L)] w') := fun w1 t h =>
      (rjoin_any k n h.drop.head h.tab h.tab4 (by omega)).mono fun _ _ hh => ⟨hh.1, h.next hh.2⟩
    have HTx : Hid (∀ (w1 : World) t, Ts w [(t, L ++ [[42]]), (.slice a L.length c, L)] w1 → ∀ xa xc, t = .slice xa (L.length + 1) xc → Calls Tryd.prog 11 #[.slice xa L.length xc, .slice a L.length c] w1 fun r w' => r = .returned (.bool true) ∧ Ts w [(t, L ++ [[42]]), (.slice a L.length c, L)] w') := fun w1 t h xa xc e => by
      subst e
      have h1 := h.head.take L.length (by omega)
      rw [List.take_left' rfl] at h1
      exact (texts_same h1 h.drop.head (by omega)).mono fun _ _ hh => ⟨hh.1, h.next hh.2⟩
    clear hg h30
    go_enter Tryd.func4, Tryd.ntmps4
    go_wp2_with fail
    refine HGr.out.mono ?_
    rintro r w1 ⟨rfl, b1⟩
    have HX : Hid _ := HX0.out.next b1
    clear b1 HX0 HGr
    obtain ⟨w2, hmk, o2, g2⟩ := mk_room6 w1.heap.size L.length (by omega) w1 (Nat.le_refl _)
    have HM : Mo w w1.heap.size [(.slice a L.length c, L)] (.slice (some ⟨w1.heap.size, 0, none⟩) 0 (L.length + 1)) [] w2 := (Mo.start HX.out).grow g2 o2
    have hB0 : TextsAt w2 (.slice a L.length c) L := HM.all.drop.head
    clear o2 g2
    go_wp2_with (first
      | (refine wpList_append_mo rfl (.tmp 17) (.tmp 18) rfl HM (.slice a L.length c) L L L.length rfl rfl hB0 (.inr ⟨_, _, _, rfl⟩) rfl rfl (by omega) ?_; intro xa xc w3 hc3 HM3; have hB1 : TextsAt (w3.alloc (.cells #[.string ⟨#[42]⟩] 9)) (.slice (some ⟨w3.heap.size, 0, none⟩) 1 1) [[42]] := TextsAt.made w3 [[42]] 1 1 rfl; have HM4 := HM3.alloc (.cells #[.string ⟨#[42]⟩] 9))
      | (refine wpList_append_mo rfl (.tmp 19) (.tmp 20) rfl HM4 (.slice (some ⟨w3.heap.size, 0, none⟩) 1 1) [[42]] (L ++ [[42]]) (L.length + 1) rfl rfl hB1 (Or.inl ⟨w3.heap.size, 0, 1, 1, rfl⟩) rfl (by simp) (by omega) ?_; intro ya yc w5 hc5 HM5; have hcap : (L.length : Int) ≤ (yc : Int) := (by omega); have hcap2 : (L.length : Int) + 1 ≤ (yc : Int) := (by omega); have HX5 : Hid _ := HM5.all; clear HM HM3 HM4 HM5 hB0 hB1)
      | fail)
    clear hmk HX
    refine (HJ.out _ _ HX5.out _ _ rfl).mono ?_
    rintro r w6 ⟨rfl, ht⟩
    have HX6 : Hid _ := ht
    clear ht HX5
    go_wp2_with fail
    refine (HR.out _ _ HX6.out).mono ?_
    rintro r w7 ⟨rfl, ht⟩
    have HX7 : Hid _ := ht
    clear ht HX6 HR
    go_wp2_with fail
    refine (HTx.out _ _ HX7.out _ _ rfl).mono ?_
    rintro r w8 ⟨rfl, ht⟩
    obtain ⟨b1, o1, rfl, c0⟩ := ht.head.cell L.length [42] (by simp)
    have c1 : w8.cell? ⟨b1, o1 + L.length, none⟩ = some (.string ⟨#[42]⟩) := c0
    clear c0
    have HX8 : Hid _ := ht
    clear ht HX7 HTx HJ
    go_wp2_with fail
    refine (HDo.out _ HX8.out.tab HX8.out.tab4).mono ?_
    rintro r w9 ⟨rfl, hb⟩
    have HF : Hid _ := (HX8.out.next hb).below
    clear hb
    go_wp2
    go_ret
    exact ⟨rfl, HF.out⟩
end Go.Proofs.YtalofhnjlmgloaaDoor
