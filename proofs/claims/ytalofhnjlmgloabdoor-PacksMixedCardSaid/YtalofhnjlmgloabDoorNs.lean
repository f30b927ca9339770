/- The walk of the law PacksMixed. -/
import Derived.Test.YtalofhnjlmgloabDoorNh
import Derived.Test.YtalofhnjlmgloabDoorNp
namespace Go.Proofs.YtalofhnjlmgloabDoor
open Go.RowKit

/-- Blocks behind which others stand that begin with one of another kind or epoch. -/
theorem mixed_no {k e k' e' : Int} {L : List (List UInt8)} {d : List UInt8} (h : splitE k' e' d = 0) (hne : ¬ (k' = k ∧ e' = e)) : joinB (L ++ blkL k' e' d) k e = false := by
  have h0 := cntN_pos d.length
  refine bad_join (i := L.length) (b := encL (frP k' e' d 0)) (by rw [List.getElem?_append_right (Nat.le_refl _), Nat.sub_self]; exact blkL_get h0) fun hg => hne ?_
  obtain ⟨_, g2, g3, _⟩ := hg
  rw [(blk_dec h h0).2] at g2 g3
  exact ⟨g2, g3⟩
theorem Mo.empty {w0 w : World} {ts : List (Value × List (List UInt8))} (h : Ts w0 ts w) : Mo w0 w.heap.size ts (.slice (some ⟨w.heap.size, 0, none⟩) 0 0) [] (w.alloc (.cells #[] 9)) :=
  (Mo.start h).keep ((Below.refl _ _).alloc (Nat.le_refl _) _) ⟨rfl, .inr ⟨w.heap.size, 0, #[], rfl, Nat.le_refl _, heap_alloc_last w _, Nat.zero_le _, Nat.zero_le _, rfl, rfl⟩⟩
set_option maxRecDepth 100000 in
set_option maxHeartbeats 4000000 in
theorem packmixed_any (x y : List UInt8) (w : World) (hT : Tab w) (hT4 : Tab4 w) :
    Calls Tryd.prog 4 #[.string (S x), .string (S y)] w fun e w' => e = .returned (.bool true) ∧ Below w.heap.size w w' := by
  by_cases hl : 1000 < x.length
  · have hsz : (1000 : Int) < ((S x).size : Int) := by rw [S_size]; omega
    generalize S x = X at *
    generalize S y = Y at *
    go_enter Tryd.func4, Tryd.ntmps4
    go_wp2
    go_ret
    exact ⟨rfl, Below.refl _ _⟩
  have hsz : ¬ (1000 : Int) < ((S x).size : Int) := by rw [S_size]; omega
  by_cases hl2 : 1000 < y.length
  · have hsz2 : (1000 : Int) < ((S y).size : Int) := by rw [S_size]; omega
    generalize S x = X at *
    generalize S y = Y at *
    go_enter Tryd.func4, Tryd.ntmps4
    go_wp2
    go_ret
    exact ⟨rfl, Below.refl _ _⟩
  have hsz2 : ¬ (1000 : Int) < ((S y).size : Int) := by rw [S_size]; omega
  have cx : cntN x.length ≤ 65536 := by unfold cntN; split <;> omega
  have cy : cntN y.length ≤ 65536 := by unfold cntN; split <;> omega
  have e1 : splitE 80 5 x = 0 := splitE_ok.2 ⟨cx, by decide⟩
  have e2 : splitE 80 6 y = 0 := splitE_ok.2 ⟨cy, by decide⟩
  have e3 : splitE 68 5 y = 0 := splitE_ok.2 ⟨cy, by decide⟩
  have sp : ∀ (k e : Int) (d : List UInt8) ts (w1 : World), splitE k e d = 0 → d.length ≤ 1000 → Ts w ts w1 → Calls Tryd.prog 5 #[.int .u8 k, .int .i64 e, .string (S d)] w1 fun r w' => ∃ b o c, r = .returned (.tuple #[.slice (some ⟨b, o, none⟩) (cntN d.length) c, .int .i64 0]) ∧ Ts w ((.slice (some ⟨b, o, none⟩) (cntN d.length) c, blkL k e d) :: ts) w' := fun k e d ts w1 he hd h => by
    refine (ts_split h k e d (by omega)).mono fun r w' hh => ?_
    obtain ⟨a, c, rfl, _, _, ht⟩ := hh
    simp only [splitL_ok he, blkL_length, he] at ht ⊢
    obtain ⟨b, o, rfl, _⟩ := ht.head.cell 0 _ (blkL_get (cntN_pos _))
    exact ⟨b, o, c, rfl, ht⟩
  have HS1 : Hid (∀ ts (w1 : World), Ts w ts w1 → Calls Tryd.prog 5 #[.int .u8 80, .int .i64 5, .string (S x)] w1 fun r w' => ∃ b o c, r = .returned (.tuple #[.slice (some ⟨b, o, none⟩) (cntN x.length) c, .int .i64 0]) ∧ Ts w ((.slice (some ⟨b, o, none⟩) (cntN x.length) c, blkL 80 5 x) :: ts) w') := fun ts w1 h => sp 80 5 x ts w1 e1 (by omega) h
  have HS2 : Hid (∀ ts (w1 : World), Ts w ts w1 → Calls Tryd.prog 5 #[.int .u8 80, .int .i64 6, .string (S y)] w1 fun r w' => ∃ b o c, r = .returned (.tuple #[.slice (some ⟨b, o, none⟩) (cntN y.length) c, .int .i64 0]) ∧ Ts w ((.slice (some ⟨b, o, none⟩) (cntN y.length) c, blkL 80 6 y) :: ts) w') := fun ts w1 h => sp 80 6 y ts w1 e2 (by omega) h
  have HS3 : Hid (∀ ts (w1 : World), Ts w ts w1 → Calls Tryd.prog 5 #[.int .u8 68, .int .i64 5, .string (S y)] w1 fun r w' => ∃ b o c, r = .returned (.tuple #[.slice (some ⟨b, o, none⟩) (cntN y.length) c, .int .i64 0]) ∧ Ts w ((.slice (some ⟨b, o, none⟩) (cntN y.length) c, blkL 68 5 y) :: ts) w') := fun ts w1 h => sp 68 5 y ts w1 e3 (by omega) h
  have jn : ∀ {w1 : World} {v : Value} {R : List (List UInt8)} {ts} (k e : Int), Ts w ((v, R) :: ts) w1 → R.length ≤ 1000 → joinB R k e = false → Calls Tryd.prog 6 #[v, .int .u8 k, .int .i64 e] w1 fun r w' => r = .returned (.tuple #[.string ⟨#[]⟩, .int .i64 10]) ∧ Ts w ts w' := fun {w1 v R ts} k e h hl hj => by
    have := ts_join h h.head k e (by omega)
    rw [(join_no hj).1, (join_no hj).2] at this
    exact this.mono fun _ _ hh => ⟨hh.1, hh.2.drop⟩
  have q1 : cntN x.length ≤ 10 := by unfold cntN; split <;> omega
  have q2 : cntN y.length ≤ 10 := by unfold cntN; split <;> omega
  have b1 := blkL_length 80 5 x
  have b2 := blkL_length 80 6 y
  have b3 := blkL_length 68 5 y
  have HJ1 : Hid (∀ (w1 : World) v ts, Ts w ((v, blkL 80 5 x ++ blkL 80 6 y) :: ts) w1 → Calls Tryd.prog 6 #[v, .int .u8 80, .int .i64 5] w1 fun r w' => r = .returned (.tuple #[.string ⟨#[]⟩, .int .i64 10]) ∧ Ts w ts w') := fun w1 v ts h => jn 80 5 h (by simp; omega) (mixed_no e2 (by decide))
  have HJ2 : Hid (∀ (w1 : World) v ts, Ts w ((v, blkL 80 5 x ++ blkL 68 5 y) :: ts) w1 → Calls Tryd.prog 6 #[v, .int .u8 80, .int .i64 5] w1 fun r w' => r = .returned (.tuple #[.string ⟨#[]⟩, .int .i64 10]) ∧ Ts w ts w') := fun w1 v ts h => jn 80 5 h (by simp; omega) (mixed_no e3 (by decide))
  have HJ3 : Hid (∀ (w1 : World) v ts, Ts w ((v, blkL 68 5 y ++ blkL 80 5 x) :: ts) w1 → Calls Tryd.prog 6 #[v, .int .u8 68, .int .i64 5] w1 fun r w' => r = .returned (.tuple #[.string ⟨#[]⟩, .int .i64 10]) ∧ Ts w ts w') := fun w1 v ts h => jn 68 5 h (by simp; omega) (mixed_no e1 (by decide))
  have HDo : Hid (∀ w1, Tab w1 → Tab4 w1 → Calls Tryd.prog 7 #[] w1 fun e w' => e = .returned (.bool true) ∧ Below w1.heap.size w1 w') := fun w1 a b => pdoes_any w1 a b
  have HX0 : Hid (Ts w [] w) := Ts.start hT hT4
  have HL1 : Hid ((blkL 80 5 x).length = cntN x.length) := b1
  have HL2 : Hid ((blkL 80 6 y).length = cntN y.length) := b2
  have HL3 : Hid ((blkL 68 5 y).length = cntN y.length) := b3
  clear jn sp e1 e2 e3 cx cy hl hl2 hT hT4 b1 b2 b3
  generalize blkL 80 5 x = L at *
  generalize blkL 80 6 y = M at *
  generalize blkL 68 5 y = N at *
  generalize hCx : cntN x.length = C at *
  generalize hCy : cntN y.length = F at *
  generalize hX : S x = X at *
  generalize hY : S y = Y at *
  clear hCx hCy hX hY
  go_enter Tryd.func4, Tryd.ntmps4
  go_wp2_with fail
  refine (HS1.out _ _ HX0.out).mono ?_
  rintro r w1 ⟨x1, x2, x3, rfl, ht⟩
  have HX1 : Hid _ := ht
  clear ht HX0 HS1
  go_wp2_with fail
  refine (HS2.out _ _ HX1.out).mono ?_
  rintro r w2 ⟨y1, y2, y3, rfl, ht⟩
  have HX2 : Hid _ := ht
  clear ht HX1 HS2
  go_wp2_with fail
  refine (HS3.out _ _ HX2.out).mono ?_
  rintro r w3 ⟨z1, z2, z3, rfl, ht⟩
  have HX3 : Hid _ := ht
  have HM := Mo.empty ht
  have t1 : TextsAt (w3.alloc (.cells #[] 9)) (.slice (some ⟨x1, x2, none⟩) C x3) L := HM.all.texts _ _ (by simp)
  clear ht HX2 HS3
  go_wp2_with (first
    | (refine wpList_append_mo rfl (.tmp 51) (.tmp 52) rfl HM (.slice (some ⟨x1, x2, none⟩) C x3) L L C rfl rfl t1 (Or.inl ⟨x1, x2, C, x3, rfl⟩) rfl HL1.out (by omega) ?_; intro xa xc w4 _ HM4; have t2 : TextsAt w4 (.slice (some ⟨y1, y2, none⟩) F y3) M := HM4.all.texts _ _ (by simp))
    | (refine wpList_append_mo rfl (.tmp 53) (.tmp 54) rfl HM4 (.slice (some ⟨y1, y2, none⟩) F y3) M (L ++ M) (C + F) rfl rfl t2 (Or.inl ⟨y1, y2, F, y3, rfl⟩) rfl (by rw [List.length_append, HL1.out, HL2.out]) (by omega) ?_; intro ya yc w5 _ HM5; have HX5 : Hid _ := HM5.all; clear HM HM4 HM5 t1 t2)
    | fail)
  refine (HJ1.out _ _ _ HX5.out).mono ?_
  rintro r w6 ⟨rfl, ht⟩
  have HX6 : Hid _ := ht
  clear ht HX5
  go_upto_region 9 with fail
  have HM := Mo.empty HX6.out
  have t1 : TextsAt (w6.alloc (.cells #[] 9)) (.slice (some ⟨x1, x2, none⟩) C x3) L := HM.all.texts _ _ (by simp)
  go_wp2_with (first
    | (refine wpList_append_mo rfl (.tmp 60) (.tmp 61) rfl HM (.slice (some ⟨x1, x2, none⟩) C x3) L L C rfl rfl t1 (Or.inl ⟨_, _, _, _, rfl⟩) rfl HL1.out (by omega) ?_; intro xa6 xc6 w46 _ HM4; have t2 : TextsAt w46 (.slice (some ⟨z1, z2, none⟩) F z3) N := HM4.all.texts _ _ (by simp))
    | (refine wpList_append_mo rfl (.tmp 62) (.tmp 63) rfl HM4 (.slice (some ⟨z1, z2, none⟩) F z3) N (L ++ N) (C + F) rfl rfl t2 (Or.inl ⟨_, _, _, _, rfl⟩) rfl (by rw [List.length_append, HL1.out, HL3.out]) (by omega) ?_; intro ya6 yc6 w56 _ HM5; have HY6 : Hid _ := HM5.all; clear HM HM4 HM5 t1 t2)
    | fail)
  refine (HJ2.out _ _ _ HY6.out).mono ?_
  rintro r w7 ⟨rfl, ht⟩
  have HX7 : Hid _ := ht
  clear ht HX6 HY6
  go_upto_region 10 with fail
  have HM := Mo.empty HX7.out
  have t1 : TextsAt (w7.alloc (.cells #[] 9)) (.slice (some ⟨z1, z2, none⟩) F z3) N := HM.all.texts _ _ (by simp)
  go_wp2_with (first
    | (refine wpList_append_mo rfl (.tmp 69) (.tmp 70) rfl HM (.slice (some ⟨z1, z2, none⟩) F z3) N N F rfl rfl t1 (Or.inl ⟨_, _, _, _, rfl⟩) rfl HL3.out (by omega) ?_; intro xa7 xc7 w47 _ HM4; have t2 : TextsAt w47 (.slice (some ⟨x1, x2, none⟩) C x3) L := HM4.all.texts _ _ (by simp))
    | (refine wpList_append_mo rfl (.tmp 71) (.tmp 72) rfl HM4 (.slice (some ⟨x1, x2, none⟩) C x3) L (N ++ L) (F + C) rfl rfl t2 (Or.inl ⟨_, _, _, _, rfl⟩) rfl (by rw [List.length_append, HL3.out, HL1.out]) (by omega) ?_; intro ya7 yc7 w57 _ HM5; have HY7 : Hid _ := HM5.all; clear HM HM4 HM5 t1 t2)
    | fail)
  refine (HJ3.out _ _ _ HY7.out).mono ?_
  rintro r w8 ⟨rfl, ht⟩
  have HX8 : Hid _ := ht
  clear ht HX7 HY7
  go_wp2_with fail
  refine (HDo.out _ HX8.out.tab HX8.out.tab4).mono ?_
  rintro r w9 ⟨rfl, hb⟩
  have HF : Hid _ := (HX8.out.next hb).below
  clear hb
  go_wp2
  go_ret
  exact ⟨rfl, HF.out⟩
end Go.Proofs.YtalofhnjlmgloabDoor
