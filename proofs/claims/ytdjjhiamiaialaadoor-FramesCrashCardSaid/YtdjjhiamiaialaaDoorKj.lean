/- Contracts of a device's Write and Erase. -/
import Derived.Test.YtdjjhiamiaialaaDoorKi
namespace Go.Proofs.YtdjjhiamiaialaaDoor
open Go.RowKit

/-- What a block is told to be. -/
def stAtD (d : Dv) (i : Int) : Int := if 0 ≤ i then (d.told[i.toNat]?.map fun b => (b.st : Int)).getD (-1) else -1
/-- What a Write tells, and makes. -/
def writeD (d : Dv) (i : Int) (s : List UInt8) : Int × Dv :=
  if d.up = false then (43, d)
  else if ¬ (0 ≤ i ∧ i < d.sure.length) ∨ s.length ≠ 128 then (2, d)
  else if stAtD d i = 1 then (40, d)
  else if stAtD d i = 2 then (42, d)
  else doD d (.wr i.toNat (ofT s))
theorem field_bk (g : Fin 128 → UInt8) (w : World) : (Instr.field 50 (.agg (bc ⟨1, g⟩).toArray) 1).run Tryd.prog w = .ok (.agg (hv (txt g))) w := by kernel_rfl
theorem wpList_field {P : Program} {ops : Array Oper} {rest : List Oper} {o : Oper} {a : Act} {w : World} {Q : Exit → Act → World → Prop} (hgd : o.guard = none) (t : TypeId) (x : Operand) (i : Nat) (ho : o.op = .field t x i)
    (u : Value) (hx : a.eval x = u) (v : Value) (hb : (Instr.field t u i).run P w = .ok v w) (h : wpList P ops Q rest (a.put o.dst v) w) : wpList P ops Q (o :: rest) a w :=
  wpList_plain hgd fun K hK => by
    unfold Oper.wp execOp
    simp only [ho]
    simp only [hx, Sem.run_bind, Sem.run_pure, hb, Result.andThen_ok]
    exact hK _ _ h
theorem grow_refl (O : Nat → Prop) (w : World) : ∀ k, O k → grow O w w k := fun _ h => .inl h
set_option maxRecDepth 100000 in
theorem write_dev {w : World} {p : Nat} {d : Dv} {O : Nat → Prop} (h : Dev w p d O) (i : Int) (s : List UInt8) (hs : d.acts.length < 1000000) :
    Calls Tryd.prog 7 #[.pointer (some ⟨p, 0, none⟩), .int .i64 i, .string (S s)] w fun e w' => e = .returned (.int .i64 (writeD d i s).1) ∧ Dev w' p (writeD d i s).2 (grow O w w') ∧ Turn O w w' := by
  have hr := refuses_dev h
  have hh := has_dev h i
  have HD : Hid (Dev w p d (grow O w w) ∧ Turn O w w) := ⟨h.mono (grow_refl O w), Turn.refl _ _⟩
  have HDV : Hid (Dev w p d O) := h
  obtain ⟨R, hR⟩ : ∃ R, writeD d i s = R := ⟨_, rfl⟩
  rw [hR]
  cases hu : d.up with
  | false =>
    rw [hu] at hr
    obtain rfl : R = (43, d) := by rw [← hR]; unfold writeD; rw [if_pos hu]
    clear h hR hu hh
    go_enter Tryd.func7, Tryd.ntmps7
    go_wp2_with (go_at_call 20; refine hr.mono ?_; rintro e w' ⟨rfl, rfl⟩)
    go_ret
    exact ⟨rfl, HD.out⟩
  | true =>
    rw [hu] at hr
    by_cases hi : 0 ≤ i ∧ i < d.sure.length
    · rw [decide_eq_true hi] at hh
      by_cases hl : s.length = 128
      · have hsz : ((S s).size : Int) = 128 := by rw [S_size]; omega
        have hsz2 : (S s).size = 128 := by rw [S_size]; omega
        obtain ⟨a, b, ca, cb, cv, fv, kv, h⟩ := h
        obtain ⟨-, c1, -⟩ := h.c
        obtain ⟨j, rfl⟩ : ∃ j : Nat, i = j := ⟨i.toNat, by omega⟩
        have hj : j < d.told.length := by have := h.len; omega
        have hc := h.told.cell (j * 129) (.int .i64 (d.told[j].st : Int)) (by
          have := rc_get d.told j 0 d.told[j] (List.getElem?_eq_getElem hj) (by omega)
          rw [Nat.add_zero] at this; rw [this]; rfl)
        have he : stAtD d j = d.told[j].st := by
          unfold stAtD
          rw [if_pos (by omega), Int.toNat_natCast, List.getElem?_eq_getElem hj]; rfl
        have HR : Hid (R = if (d.told[j].st : Int) = 1 then (40, d) else if (d.told[j].st : Int) = 2 then (42, d) else doD d (.wr j (ofT s))) := by
          show _ = _
          rw [← hR]; unfold writeD
          rw [if_neg (by rw [hu]; simp), if_neg (by rintro (h | h); exact h hi; exact h hl), he, Int.toNat_natCast]
        have hjn : (j : Int) < d.sure.length := hi.2
        have HDW : Hid (∀ w2 : World, Below w.heap.size w w2 → Calls Tryd.prog 22 #[.pointer (some ⟨p, 0, none⟩), .iface 63 (.agg (wrC j (ofT s)))] w2 fun e w' => e = .returned (.int .i64 (doD d (.wr j (ofT s))).1) ∧ Dev w' p (doD d (.wr j (ofT s))).2 (grow O w2 w') ∧ Turn O w2 w') := fun w2 b2 => do_dev (HDV.out.below b2) (.wr j (ofT s)) (show j < d.sure.length by omega) hs
        clear h hi he hR hu
        generalize d.told[j].st = st at *
        clear hj
        generalize d.sure.length = n at *
        by_cases s1 : st = 1
        · subst s1
          obtain rfl : R = (40, d) := HR.out
          go_enter Tryd.func7, Tryd.ntmps7
          go_wp2_with (first | (go_at_call 20; refine hr.mono ?_; rintro e w' ⟨rfl, rfl⟩) | (go_at_call 21; refine hh.mono ?_; rintro e w' ⟨rfl, rfl⟩))
          go_ret
          exact ⟨rfl, HD.out⟩
        · by_cases s2 : st = 2
          · subst s2
            obtain rfl : R = (42, d) := HR.out
            go_enter Tryd.func7, Tryd.ntmps7
            go_wp2_with (first | (go_at_call 20; refine hr.mono ?_; rintro e w' ⟨rfl, rfl⟩) | (go_at_call 21; refine hh.mono ?_; rintro e w' ⟨rfl, rfl⟩))
            go_ret
            exact ⟨rfl, HD.out⟩
          · have t1 : ¬ (st : Int) = 1 := by omega
            have t2 : ¬ (st : Int) = 2 := by omega
            have hRR : R = doD d (.wr j (ofT s)) := by rw [HR.out, if_neg t1, if_neg t2]
            have HRR : Hid _ := hRR
            clear s1 s2 hRR HR
            have HWr : Hid _ := written_any s hl
            go_enter Tryd.func7, Tryd.ntmps7
            go_wp2_with (first | (go_at_call 20; refine hr.mono ?_; rintro e w' ⟨rfl, rfl⟩) | (go_at_call 21; refine hh.mono ?_; rintro e w' ⟨rfl, rfl⟩))
            refine (HWr.out _).mono ?_
            rintro e w2 ⟨rfl, b2⟩
            have HDo := HDW.out w2 b2
            rw [← HRR.out] at HDo
            have HDo : Hid (Calls Tryd.prog 22 #[.pointer (some ⟨p, 0, none⟩), .iface 63 (.agg (wrC j (ofT s)))] w2 fun e w' => e = .returned (.int .i64 R.1) ∧ Dev w' p R.2 (grow O w2 w') ∧ Turn O w2 w') := HDo
            have HFi : Hid (∀ w : World, (Instr.field 50 (.agg (bc ⟨1, ofT s⟩).toArray) 1).run Tryd.prog w = .ok (.agg (hv (txt (ofT s)))) w) := field_bk (ofT s)
            have HBu : Hid (∀ w : World, (Instr.build 63 #[(0, .int .i64 (j : Int)), (1, .agg (hv (txt (ofT s))))]).run Tryd.prog w = .ok (.agg (wrC j (ofT s))) w) := fun w => run_build w _ _ _ (built_wr j (ofT s))
            have HB2 : Hid (Below w'.heap.size w' w2) := b2
            clear b2 HRR c1 hc
            generalize (bc ⟨1, ofT s⟩).toArray = X at *
            generalize hv (txt (ofT s)) = E at *
            generalize wrC j (ofT s) = C at *
            go_wp2_with (first | (refine wpList_field rfl 50 _ _ rfl _ rfl _ (HFi.out _) ?_) | (refine wpList_build rfl 63 #[(0, .tmp 35), (1, .tmp 38)] rfl #[(0, .int .i64 (j : Int)), (1, .agg E)] (by kernel_rfl) _ (HBu.out _) ?_))
            refine HDo.out.mono ?_
            rintro e w3 ⟨rfl, D3, T3⟩
            have HR3 : Hid (Dev w3 p R.2 (grow O w' w3) ∧ Turn O w' w3) := ⟨D3.mono fun k hk => by
              rcases hk with hk | hk
              · exact .inl hk
              · exact .inr ⟨by have := HB2.out.size; omega, hk.2⟩, (Turn.of_below HB2.out).trans T3 fun _ _ h => h⟩
            clear D3 T3 HDo
            go_wp2
            go_ret
            exact ⟨rfl, HR3.out.1, HR3.out.2⟩
      · have hsz : ¬ ((S s).size : Int) = 128 := by rw [S_size]; omega
        obtain rfl : R = (2, d) := by rw [← hR]; unfold writeD; rw [if_neg (by rw [hu]; simp), if_pos (.inr hl)]
        clear h hR hu
        go_enter Tryd.func7, Tryd.ntmps7
        go_wp2_with (first | (go_at_call 20; refine hr.mono ?_; rintro e w' ⟨rfl, rfl⟩) | (go_at_call 21; refine hh.mono ?_; rintro e w' ⟨rfl, rfl⟩))
        go_ret
        exact ⟨rfl, HD.out⟩
    · rw [decide_eq_false hi] at hh
      obtain rfl : R = (2, d) := by rw [← hR]; unfold writeD; rw [if_neg (by rw [hu]; simp), if_pos (.inl hi)]
      clear h hR hu hi
      go_enter Tryd.func7, Tryd.ntmps7
      go_wp2_with (first | (go_at_call 20; refine hr.mono ?_; rintro e w' ⟨rfl, rfl⟩) | (go_at_call 21; refine hh.mono ?_; rintro e w' ⟨rfl, rfl⟩))
      go_ret
      exact ⟨rfl, HD.out⟩
end Go.Proofs.YtdjjhiamiaialaaDoor
