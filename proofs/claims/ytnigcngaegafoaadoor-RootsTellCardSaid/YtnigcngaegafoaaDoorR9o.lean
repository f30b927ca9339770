/- The law RootsTell (layer 9). -/
import Derived.Test.YtnigcngaegafoaaDoorR9n
import Derived.Test.YtnigcngaegafoaaDoorR9g
namespace Go.Proofs.YtnigcngaegafoaaDoor
open Go.RowKit

theorem h7_eq (w : World) : (binOp .eql 23 (.agg (hv h7L)) (.agg #[.int .u8 7, .int .u8 0, .int .u8 0, .int .u8 0, .int .u8 0, .int .u8 0, .int .u8 0, .int .u8 0, .int .u8 0, .int .u8 0, .int .u8 0, .int .u8 0, .int .u8 0, .int .u8 0, .int .u8 0, .int .u8 0, .int .u8 0, .int .u8 0, .int .u8 0, .int .u8 0, .int .u8 0, .int .u8 0, .int .u8 0, .int .u8 0, .int .u8 0, .int .u8 0, .int .u8 0, .int .u8 0, .int .u8 0, .int .u8 0, .int .u8 0, .int .u8 0])).run Tryd.prog w = .ok (.bool true) w := by
  have := eqH w h7L h7L h7_len h7_len
  show (binOp .eql 23 (.agg (hv h7L)) (.agg (hv h7L))).run Tryd.prog w = _
  simpa using this
set_option maxRecDepth 100000 in
set_option maxHeartbeats 2000000 in
theorem tell_some (L : List (List UInt8)) (ad : Addr) (c : Nat) (w : World) (hK : TabL w) (hR : TabR w) (hL : HsAt w (.slice (some ad) L.length c) L) (hlc : L.length ≤ c) (hl : L.length ≤ 100) : Calls Tryd.prog 3 #[.slice (some ad) L.length c] w fun e w' => e = .returned (.bool true) ∧ Below w.heap.size w w' := by
  have h1 : ¬ (L.length : Int) > 100 := by omega
  have HS : Hid (∀ w', Below w.heap.size w w' → HsAt w' (.slice (some ad) L.length c) L) := fun w' hb => hL.below hb
  have hw1 : wrap64 ((L.length : Int) + 1) = (L.length : Int) + 1 := by unfold wrap64; omega
  go_enter Tryd.func3, Tryd.ntmps3
  go_wp2_with (first
    | (refine wpList_make_mh rfl _ _ rfl ((L.length : Int) + 1) (L.length + 1) rfl rfl (by omega) (by omega) ?_
       intro w1 hN1
       have hS1 := HS.out w1 hN1.below
       skip)
    | (refine wpList_append_mh rfl (.tmp 10) (.tmp 11) rfl hN1 _ _ rfl rfl hS1 L L.length rfl rfl (by omega) ?_
       intro g2 xc w2 hxc hN2
       have hN3 := hN2.alloc (.cells (hv h7L) 23)
       have hS7 := HsAt.made w2 h7L h7_len
       clear hN1 hS1)
    | (refine wpList_append_mh rfl (.tmp 12) (.tmp 14) rfl hN3 _ _ rfl rfl hS7 (L ++ [h7L]) (L.length + 1) rfl (by simp) (by omega) ?_
       intro g cap w3 hcap hN4
       obtain ⟨-, b, o, rfl, -⟩ := hN4.at_.cells.2 L.length h7L (by simp)
       have hc1 : (L.length : Int) ≤ (cap : Int) := by omega
       have HN : Hid _ := hN4
       clear hN2 hN3 hS7)
    | fail)
  have hc2 : (L.length : Int) + 1 ≤ (cap : Int) := by omega
  have HB3 : Hid (Below w.heap.size w w3) := HN.out.below
  have HT : Hid (∀ w', Below w3.heap.size w3 w' → HsAt w' (.slice (some ⟨b, o, none⟩) L.length cap) L ∧ w'.rangeAt b (o + L.length * 32) (hv h7L).toList) := fun w' hb => by
    have hn := (HN.out.next hb).at_
    refine ⟨?_, ?_⟩
    · have := hn.take L.length (by omega)
      rwa [List.take_left] at this
    · obtain ⟨-, b', o', e, hr⟩ := hn.cells.2 L.length h7L (by simp)
      simp at e
      obtain ⟨rfl, rfl⟩ := e
      exact hr w' (Below.refl _ _)
  have HW : Hid (∀ w', Below w3.heap.size w3 w' → Below w.heap.size w w') := fun w' hb => HB3.out.trans (hb.mono HB3.out.size)
  have HR0 : Hid (∀ w', Below w3.heap.size w3 w' → Calls Tryd.prog 9 #[.slice (some ⟨b, o, none⟩) L.length cap] w' fun e w'' => e = .returned (.agg (hv (rootH L))) ∧ Below w'.heap.size w' w'') := fun w' h => root_any (hK.below (HW.out w' h) hK.lt) (HT.out w' h).1 (fun a n c e => by have := Value.slice.inj e; omega) (by omega)
  have HR1 : Hid (∀ w', Below w3.heap.size w3 w' → Calls Tryd.prog 10 #[.slice (some ad) L.length c] w' fun e w'' => e = .returned (.agg (hv (rootH L))) ∧ Below w'.heap.size w' w'') := fun w' h => rroot_upto 100 L w' _ (by omega) (by omega) (hR.below (HW.out w' h) hR.lt) (HS.out w' (HW.out w' h)) (fun a n c e => by have := Value.slice.inj e; omega)
  have HSm : Hid (∀ w', Below w3.heap.size w3 w' → Calls Tryd.prog 11 #[.slice (some ⟨b, o, none⟩) L.length cap, .slice (some ad) L.length c] w' fun e w'' => e = .returned (.bool true) ∧ Below w'.heap.size w' w'') := fun w' h => same_hs (HT.out w' h).1 (HS.out w' (HW.out w' h)) (by omega)
  have HD : Hid (∀ w', Below w3.heap.size w3 w' → Calls Tryd.prog 12 #[] w' fun e w'' => e = .returned (.bool true) ∧ Below w'.heap.size w' w'') := fun w' h => does_any w' (hK.below (HW.out w' h) hK.lt)
  have HT2 : Hid (∀ w', Below w3.heap.size w3 w' → w'.rangeAt b (o + L.length * 32) (hv h7L).toList) := fun w' h => (HT.out w' h).2
  have he : ∀ w' : World, (binOp .eql 23 (.agg (hv (rootH L))) (.agg (hv (rootH L)))).run Tryd.prog w' = .ok (.bool true) w' := fun w' => by simpa using eqH w' (rootH L) (rootH L) (rootH_32 hL.len) (rootH_32 hL.len)
  have he7 := h7_eq
  have hC7 : (hv h7L).size = 32 := by rw [hv_size, h7_len]
  clear hN4 HN HT HS hK hR hL
  generalize hv (rootH L) = R at *
  generalize hv h7L = C7 at *
  refine (HR0.out _ (Below.refl _ _)).mono ?_
  rintro e w4 ⟨rfl, b4⟩
  have HB4 : Hid (Below w3.heap.size w3 w4) := b4
  clear b4
  go_wp2_with fail
  refine (HR1.out _ HB4.out).mono ?_
  rintro e w5 ⟨rfl, b5⟩
  have HB5 : Hid (Below w3.heap.size w3 w5) := HB4.out.trans (b5.mono HB4.out.size)
  clear b5
  go_wp2_with fail
  refine (HSm.out _ HB5.out).mono ?_
  rintro e w6 ⟨rfl, b6⟩
  have HB6 : Hid (Below w3.heap.size w3 w6) := HB5.out.trans (b6.mono HB5.out.size)
  clear b6
  have hr7 := HT2.out w6 HB6.out
  go_wp2_with (first
    | (refine load_hash (by rfl) _ rfl b (o + L.length * 32) C7 hC7 rfl hr7 ?_)
    | fail)
  refine (HD.out _ HB6.out).mono ?_
  rintro e w7 ⟨rfl, b7⟩
  have HB7 : Hid (Below w.heap.size w w7) := HW.out _ (HB6.out.trans (b7.mono HB6.out.size))
  clear b7
  go_wp2
  go_ret
  exact ⟨rfl, HB7.out⟩
/-- append of no hash (nil) to a list of one's own. -/
theorem happend_nothing {w : World} (ty : TypeId) (a : Addr) (n c c' : Nat) (hn : n ≤ c) :
    (Builtin.append_ #[22, 22] ty #[.slice (some a) n c, .slice none 0 c']).run Tryd.prog w = .ok (.slice (some a) n c) w := by
  obtain ⟨i, z, hi, -⟩ := info_hash
  simp [Builtin.append_, run_underlying Tryd.underlying22, sizeOf, typeInfo, hi, Builtin.lenOf, Builtin.firstCells, loadCells, hn, storeCells]
theorem wpList_append_mh_nil {w0 : World} {B : Nat} {M : List (List UInt8)} {ops : Array Oper} {rest : List Oper} {o : Oper} {a : Act} {W : World} {Q : Exit → Act → World → Prop} (hgd : o.guard = none) (s y : Operand) (ho : o.op = .call { callee := .builtin .append, args := #[s, y], argTypes := #[22, 22] })
    (g : Addr) (n c c' : Nat) (hs : a.eval s = .slice (some g) n c) (hy : a.eval y = .slice none 0 c') (hM : Mh w0 B (.slice (some g) n c) M W) (hn : n ≤ c)
    (h : Mh w0 B (.slice (some g) n c) M W → wpList Tryd.prog ops Q rest (a.put o.dst (.slice (some g) n c)) W) : wpList Tryd.prog ops Q (o :: rest) a W := by
  have hap := happend_nothing (w := W) o.type g n c c' hn
  refine wpList_plain hgd fun K hK => ?_
  unfold Oper.wp execOp
  simp only [ho, resolve, invoke, builtin, Sem.run_bind, Sem.run_pure, Result.andThen_ok, List.map_toArray, List.map_cons, List.map_nil, hs, hy, hap]
  exact hK _ _ (h hM)
set_option maxRecDepth 100000 in
set_option maxHeartbeats 2000000 in
theorem tell_nil (c : Nat) (w : World) (hK : TabL w) (hR : TabR w) (hL : HsAt w (.slice none 0 c) []) : Calls Tryd.prog 3 #[.slice none 0 c] w fun e w' => e = .returned (.bool true) ∧ Below w.heap.size w w' := by
  have HS : Hid (∀ w', Below w.heap.size w w' → HsAt w' (.slice none 0 c) []) := fun w' hb => hL.below hb
  go_enter Tryd.func3, Tryd.ntmps3
  go_wp2_with (first
    | (refine wpList_make_mh rfl _ _ rfl 1 1 rfl rfl (by omega) (by omega) ?_
       intro w1 hN1)
    | (refine wpList_append_mh_nil rfl (.tmp 10) (.tmp 11) rfl ⟨w.heap.size, 0, none⟩ 0 1 c rfl rfl hN1 (by omega) ?_
       intro hN2
       have hN3 := hN2.alloc (.cells (hv h7L) 23)
       have hS7 := HsAt.made w1 h7L h7_len
       clear hN1 hN2)
    | (refine wpList_append_mh rfl (.tmp 12) (.tmp 14) rfl hN3 _ _ rfl rfl hS7 [h7L] 1 rfl rfl (by omega) ?_
       intro g cap w3 hcap hN4
       obtain ⟨-, b, o, rfl, -⟩ := hN4.at_.cells.2 0 h7L rfl
       have HN : Hid _ := hN4
       clear hN3 hS7)
    | fail)
  have hc2 : (1 : Int) ≤ (cap : Int) := by omega
  have HB3 : Hid (Below w.heap.size w w3) := HN.out.below
  have HT : Hid (∀ w', Below w3.heap.size w3 w' → HsAt w' (.slice (some ⟨b, o, none⟩) 0 cap) [] ∧ w'.rangeAt b o (hv h7L).toList) := fun w' hb => by
    have hn := (HN.out.next hb).at_
    refine ⟨?_, ?_⟩
    · have := hn.take 0 (by omega)
      exact this
    · obtain ⟨-, b', o', e, hr⟩ := hn.cells.2 0 h7L rfl
      simp at e
      obtain ⟨rfl, rfl⟩ := e
      exact hr w' (Below.refl _ _)
  have HW : Hid (∀ w', Below w3.heap.size w3 w' → Below w.heap.size w w') := fun w' hb => HB3.out.trans (hb.mono HB3.out.size)
  have HR0 : Hid (∀ w', Below w3.heap.size w3 w' → Calls Tryd.prog 9 #[.slice (some ⟨b, o, none⟩) 0 cap] w' fun e w'' => e = .returned (.agg (hv (rootH []))) ∧ Below w'.heap.size w' w'') := fun w' h => root_any (hK.below (HW.out w' h) hK.lt) (HT.out w' h).1 (fun a n c e => by have := Value.slice.inj e; omega) (by simp)
  have HR1 : Hid (∀ w', Below w3.heap.size w3 w' → Calls Tryd.prog 10 #[.slice none 0 c] w' fun e w'' => e = .returned (.agg (hv (rootH []))) ∧ Below w'.heap.size w' w'') := fun w' h => rroot_upto 100 [] w' _ (by simp) (by omega) (hR.below (HW.out w' h) hR.lt) (HS.out w' (HW.out w' h)) (fun a n c e => by have := Value.slice.inj e; omega)
  have HSm : Hid (∀ w', Below w3.heap.size w3 w' → Calls Tryd.prog 11 #[.slice (some ⟨b, o, none⟩) 0 cap, .slice none 0 c] w' fun e w'' => e = .returned (.bool true) ∧ Below w'.heap.size w' w'') := fun w' h => same_hs (HT.out w' h).1 (HS.out w' (HW.out w' h)) (by simp)
  have HD : Hid (∀ w', Below w3.heap.size w3 w' → Calls Tryd.prog 12 #[] w' fun e w'' => e = .returned (.bool true) ∧ Below w'.heap.size w' w'') := fun w' h => does_any w' (hK.below (HW.out w' h) hK.lt)
  have HT2 : Hid (∀ w', Below w3.heap.size w3 w' → w'.rangeAt b o (hv h7L).toList) := fun w' h => (HT.out w' h).2
  have he : ∀ w' : World, (binOp .eql 23 (.agg (hv (rootH []))) (.agg (hv (rootH [])))).run Tryd.prog w' = .ok (.bool true) w' := fun w' => by simpa using eqH w' (rootH []) (rootH []) (rootH_32 hL.len) (rootH_32 hL.len)
  have he7 := h7_eq
  have hC7 : (hv h7L).size = 32 := by rw [hv_size, h7_len]
  clear hN4 HN HT HS hK hR hL 
  generalize hv (rootH []) = R at *
  generalize hv h7L = C7 at *
  refine (HR0.out _ (Below.refl _ _)).mono ?_
  rintro e w4 ⟨rfl, b4⟩
  have HB4 : Hid (Below w3.heap.size w3 w4) := b4
  clear b4
  go_wp2_with fail
  refine (HR1.out _ HB4.out).mono ?_
  rintro e w5 ⟨rfl, b5⟩
  have HB5 : Hid (Below w3.heap.size w3 w5) := HB4.out.trans (b5.mono HB4.out.size)
  clear b5
  go_wp2_with fail
  refine (HSm.out _ HB5.out).mono ?_
  rintro e w6 ⟨rfl, b6⟩
  have HB6 : Hid (Below w3.heap.size w3 w6) := HB5.out.trans (b6.mono HB5.out.size)
  clear b6
  have hr7 := HT2.out w6 HB6.out
  go_wp2_with (first
    | (refine load_hash (by rfl) _ rfl b o C7 hC7 rfl hr7 ?_)
    | fail)
  refine (HD.out _ HB6.out).mono ?_
  rintro e w7 ⟨rfl, b7⟩
  have HB7 : Hid (Below w.heap.size w w7) := HW.out _ (HB6.out.trans (b7.mono HB6.out.size))
  clear b7
  go_wp2
  go_ret
  exact ⟨rfl, HB7.out⟩
theorem tell_long (L : List (List UInt8)) (a : Option Addr) (c : Nat) (w : World) (hl : 100 < L.length) : Calls Tryd.prog 3 #[.slice a L.length c] w fun e w' => e = .returned (.bool true) ∧ Below w.heap.size w w' := by
  have h1 : (L.length : Int) > 100 := by omega
  go_enter Tryd.func3, Tryd.ntmps3
  go_wp2
  go_ret
  exact ⟨rfl, Below.refl _ _⟩
theorem tell_walk {L : List (List UInt8)} {v : Value} {w : World} (hK : TabL w) (hR : TabR w) (hL : HsAt w v L) (hroom : ∀ a n c, v = .slice a n c → n ≤ c) : Calls Tryd.prog 3 #[v] w fun e w' => e = .returned (.bool true) ∧ Below w.heap.size w w' := by
  obtain ⟨a, c, rfl, hh⟩ := id hL
  by_cases h : 100 < L.length
  · exact tell_long L a c w h
  cases a with
  | some ad => exact tell_some L ad c w hK hR hL (hroom _ _ _ rfl) (by omega)
  | none =>
    cases L with
    | nil => exact tell_nil c w hK hR hL
    | cons x k =>
      obtain ⟨-, b, o, e, -⟩ := hL.cells.2 0 x rfl
      cases e
end Go.Proofs.YtnigcngaegafoaaDoor
