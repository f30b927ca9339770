/- Contract of a device's Flush. -/
import Derived.Test.YthlaackalmgfnaaDl
namespace Go.Proofs.Ythlaackalmgfnaa
open Go.RowKit

/-- What is sure behind a Flush's first acts. -/
def flushN (s t : List Blk) (acts : List Ac) : Nat → List Blk
  | 0 => s
  | m + 1 =>
    match acts[m]? with
    | none => flushN s t acts m
    | some x => (flushN s t acts m).set x.at_ (t.getD x.at_ blank)
theorem flushN_len (s t : List Blk) (acts : List Ac) : ∀ m, (flushN s t acts m).length = s.length
  | 0 => rfl
  | m + 1 => by
    have h := flushN_len s t acts m
    unfold flushN
    cases acts[m]? with
    | none => exact h
    | some x => simp only [List.length_set]; exact h
theorem flushN_succ (s t : List Blk) (acts : List Ac) (m : Nat) (x : Ac) (h : acts[m]? = some x) (y : Blk) (hy : t.getD x.at_ blank = y) : flushN s t acts (m + 1) = (flushN s t acts m).set x.at_ y := by
  rw [flushN, h, ← hy]
/-- A device whose acts are sure. -/
def sureD (d : Dv) : Dv := { d with sure := flushN d.sure d.told d.acts d.acts.length, acts := [] }
/-- What a Flush tells, and makes. -/
def flushD (d : Dv) : Int × Dv :=
  if d.up = false then (43, d)
  else if (failsD d).1 then (43, crashD (failsD d).2 (keepOf (failsD d).2))
  else (0, sureD (failsD d).2)
structure InFl (w : World) (p : Nat) (d : Dv) (O : Nat → Prop) (a b ca cb : Nat) (cv fv kv : Value) (m : Nat) (wr : World) : Prop where
  dev : DevAt wr p { d with sure := flushN d.sure d.told d.acts m } O a b ca cb cv fv kv
  turn : Turn O w wr
theorem DevAt.noActs {w : World} {p : Nat} {d : Dv} {O : Nat → Prop} {a b ca cb : Nat} {cv fv kv : Value} (h : DevAt w p d O a b ca cb cv fv kv) : Dev (w.setCell ⟨p, 2, none⟩ (.slice none 0 0)) p { d with acts := [] } O := by
  obtain ⟨n1, n2, n3, n4, n5, n6⟩ := nodup_mem h.nodup
  have hne : ∀ k, k ≠ p → (w.setCell ⟨p, 2, none⟩ (.slice none 0 0)).heap[k]? = w.heap[k]? := fun k hk => Below.heap_setCell _ _ _ _ hk
  refine ⟨a, b, ca, cb, .slice none 0 0, fv, kv, { h with cells := ?_, sure := h.sure.same (hne a n1.symm), told := h.told.same (hne b n2.symm), acts := World.ownsRow_nil _ _ _ _, inr := by simp, fail := h.fail.same fun k hk => hne k ?_, nodup := ?_, own := fun k hk => ?_ }⟩
  · rw [heap_set_same h.cells]; rfl
  · rcases hk with hk | hk
    · exact (n5 k hk).1
    · exact (n6 k hk).1
  · have hn := h.nodup
    simp only [blocks, List.nodup_cons, List.mem_cons, List.mem_append, Option.mem_toList, List.nodup_append, not_or] at hn ⊢
    obtain ⟨⟨h1, h2, h3, h4, h5⟩, ⟨h6, h7, h8, h9⟩, ⟨h10, h11, h12⟩, h13, h14, h17⟩ := hn
    exact ⟨⟨h1, h2, by simp [Value.ownBlock], h4, h5⟩, ⟨h6, by simp [Value.ownBlock], h8, h9⟩, ⟨by simp [Value.ownBlock], h11, h12⟩, by simp [Value.ownBlock], h14, by simp [Value.ownBlock]⟩
  · rw [heap_set_size]
    refine h.own k ?_
    simp only [blocks, List.mem_cons, List.mem_append, Option.mem_toList] at hk ⊢
    rcases hk with hk | hk | hk | hk | hk | hk
    · exact .inl hk
    · exact .inr (.inl hk)
    · exact .inr (.inr (.inl hk))
    · simp [Value.ownBlock] at hk
    · exact .inr (.inr (.inr (.inr (.inl hk))))
    · exact .inr (.inr (.inr (.inr (.inr hk))))
/-- What lies where, of the acts. -/
theorem acts_at {w : World} {d : Dv} {x : Option Addr} {c : Nat} (h : w.ownsRow 0 100 1 (.slice x d.acts.length c) d.acts.length (d.acts.map acV)) (m : Nat) (y : Ac) (hy : d.acts[m]? = some y) : ∃ g, x = some ⟨g, 0, none⟩ ∧ ∀ wr : World, wr.ownsRow 0 100 1 (.slice x d.acts.length c) d.acts.length (d.acts.map acV) → wr.cell? ⟨g, m, none⟩ = some (acV y) := by
  have hm := (List.getElem?_eq_some_iff.1 hy).1
  rcases h.2 with ⟨h1, h2⟩ | ⟨g, cap, cur, h1, _⟩
  · omega
  · obtain ⟨rfl, -, -⟩ : x = some ⟨g, 0, none⟩ ∧ True ∧ True := by simp at h1; exact ⟨h1.1, trivial, trivial⟩
    refine ⟨g, rfl, fun wr hw => ?_⟩
    rcases hw.2 with ⟨h1, h2⟩ | ⟨g', cap', cur', h1', _, h2, _, _, _, h6⟩
    · simp at h1
    · obtain rfl : g = g' := by simp at h1'; exact h1'.1
      have e : (d.acts.map acV)[m]? = some (acV y) := by rw [List.getElem?_map, hy]; rfl
      rw [cell_of_row _ _ _ _ _ _ h2, ← Array.getElem?_toList]
      rw [← h6, List.getElem?_take] at e
      simpa [hm] using e
set_option maxRecDepth 100000 in
set_option linter.unusedSimpArgs false in
set_option maxHeartbeats 1600000 in
theorem flush_dev {w : World} {p : Nat} {d : Dv} {O : Nat → Prop} (h : Dev w p d O) : Calls Try.prog 29 #[.pointer (some ⟨p, 0, none⟩)] w fun e w' => e = .returned (.int .i64 (flushD d).1) ∧ Dev w' p (flushD d).2 O ∧ Turn O w w' := by
  have hr := refuses_dev h
  have HD : Hid (Dev w p d O ∧ Turn O w w) := ⟨h, Turn.refl _ _⟩
  have HDV : Hid (Dev w p d O) := h
  obtain ⟨R, hR⟩ : ∃ R, flushD d = R := ⟨_, rfl⟩
  rw [hR]
  cases hu : d.up with
  | false =>
    rw [hu] at hr
    obtain rfl : R = (43, d) := by rw [← hR]; unfold flushD; rw [if_pos hu]
    clear h hR hu
    go_enter Try.func29, Try.ntmps29
    go_wp2_with (go_at_call 51; refine hr.mono ?_; rintro e w' ⟨rfl, rfl⟩)
    go_ret
    exact ⟨rfl, HD.out⟩
  | true =>
    rw [hu] at hr
    clear h HD
    cases hf : (failsD d).1 with
    | true =>
      obtain ⟨k, hk1, hk2, hk3⟩ := failsD_true hf
      obtain rfl : R = (43, crashD d k) := by rw [← hR]; unfold flushD; rw [if_neg (by rw [hu]; simp), hf, hk2, hk3]; rfl
      have HF : Hid (Calls Try.prog 56 #[.pointer (some ⟨p, 0, none⟩)] w fun e w' => e = .returned (.bool true) ∧ Dev w' p d O ∧ Turn O w w' ∧ w'.heap.size = w.heap.size) := by have := fails_dev HDV.out; rw [hf, hk2] at this; exact this
      have HK1 : Hid (d.fail = some (0, k)) := hk1
      clear hf hk1 hk2 hk3 hR hu
      go_enter Try.func29, Try.ntmps29
      go_wp2_with (go_at_call 51; refine hr.mono ?_; rintro e w' ⟨rfl, rfl⟩)
      refine HF.out.mono ?_
      rintro e w7 ⟨rfl, ⟨a', b', ca', cb', cv', fv', kv', D7⟩, T7, S7⟩
      have hfl := D7.fail
      rw [HK1.out] at hfl
      obtain ⟨f, rfl, q1, q2⟩ := hfl
      obtain ⟨-, -, -, -, -, c5⟩ := D7.c
      have cf : w7.cell? ⟨f, 1, none⟩ = some kv' := by rw [cell_of_row _ _ _ _ _ _ q1]; rfl
      have n6 := (nodup_mem D7.nodup).2.2.2.2.2
      have HC : Hid (Calls Try.prog 57 #[.pointer (some ⟨p, 0, none⟩), kv'] w7 fun e w' => e = .returned (.tuple #[]) ∧ Dev w' p (crashD d k) O ∧ Turn O w7 w') := crash_at D7 q2 (fun _ i hi _ => (n6 i hi).2)
      obtain ⟨ka, kc, rfl, -⟩ := q2
      have HT7 : Hid (Turn O w' w7) := T7
      clear D7 T7 S7 q1 n6
      go_wp2_with fail
      refine HC.out.mono ?_
      rintro e w8 ⟨rfl, D8, T8⟩
      have HR : Hid (Dev w8 p (crashD d k) O ∧ Turn O w' w8) := ⟨D8, HT7.out.trans T8 fun _ _ h => h⟩
      clear D8 T8 HC cf c5
      go_wp2
      go_ret
      exact ⟨rfl, HR.out⟩
    | false =>
      obtain rfl : R = (0, sureD (failsD d).2) := by rw [← hR]; unfold flushD; rw [if_neg (by rw [hu]; simp), hf]; rfl
      have HF : Hid (Calls Try.prog 56 #[.pointer (some ⟨p, 0, none⟩)] w fun e w' => e = .returned (.bool false) ∧ Dev w' p (failsD d).2 O ∧ Turn O w w' ∧ w'.heap.size = w.heap.size) := by have := fails_dev HDV.out; rw [hf] at this; exact this
      clear hf hR hu HDV
      generalize (failsD d).2 = d2 at *
      go_enter Try.func29, Try.ntmps29
      go_wp2_with (go_at_call 51; refine hr.mono ?_; rintro e w' ⟨rfl, rfl⟩)
      clear hr
      refine HF.out.mono ?_
      rintro e w7 ⟨rfl, h7, T7, S7⟩
      obtain ⟨a, b, ca, cb, cv, fv, kv, h⟩ := h7
      have hOp : O p := (h.own p (by simp [blocks])).1
      have hOa : O a := (h.own a (by simp [blocks])).1
      obtain ⟨-, -, c2, -⟩ := h.c
      obtain ⟨x, c, rfl⟩ := owns_slice h.acts
      have hA : d2.acts.length ≤ 9223372036854775807 := by
        rcases h.acts.2 with ⟨h1, h2⟩ | ⟨g, cap, cur, h1, _, _, h4, h5, _⟩
        · omega
        · have : maxLen ≤ 9223372036854775807 := by decide
          omega
      have HST : Hid (InFl w' p d2 O a b ca cb (.slice x d2.acts.length c) fv kv 0 w7) := ⟨h, T7⟩
      have HX : Hid (∀ m y, d2.acts[m]? = some y → ∃ g, x = some ⟨g, 0, none⟩ ∧ ∀ wr : World, wr.ownsRow 0 100 1 (.slice x d2.acts.length c) d2.acts.length (d2.acts.map acV) → wr.cell? ⟨g, m, none⟩ = some (acV y)) := fun m y hy => acts_at h.acts m y hy
      have hL : Hid (∀ m, m < d2.acts.length → ∃ y, d2.acts[m]? = some y ∧ y.at_ < d2.sure.length) := fun m hm => ⟨_, List.getElem?_eq_getElem hm, h.inr _ (List.getElem_mem hm)⟩
      have HLT : Hid (d2.told.length = d2.sure.length) := h.len
      clear h T7 S7 HF
      go_wp2
      go_loopw [27] (fun i wr => ∃ m : Nat, m ≤ d2.acts.length ∧ i = .int .i64 m ∧ InFl w' p d2 O a b ca cb (.slice x d2.acts.length c) fv kv m wr) (fun i _ => d2.acts.length - (intOf i).toNat)
      case atStart => exact ⟨0, by omega, rfl, HST.out⟩
      case round =>
        obtain ⟨m, hm, rfl, hI⟩ := hrel
        clear HST c2
        by_cases hlt : m < d2.acts.length
        · obtain ⟨y, hy, hyl⟩ := hL.out m hlt
          obtain ⟨g, rfl, hg⟩ := HX.out m y hy
          have cg := hg wr (by have := hI.dev.acts; exact this)
          have hl1 := flushN_len d2.sure d2.told d2.acts m
          obtain ⟨B, hB⟩ : ∃ B, d2.told[y.at_]? = some B := ⟨_, List.getElem?_eq_getElem (by rw [HLT.out]; exact hyl)⟩
          have hBd : d2.told.getD y.at_ blank = B := by rw [List.getD_eq_getElem?_getD, hB]; rfl
          have HSU : Hid _ := flushN_succ d2.sure d2.told d2.acts m y hy B hBd
          obtain ⟨T, V, F, hV, hM, hCF, hP⟩ := act_place y
          rw [hV] at cg
          have HP : Hid (∀ w : World, Calls Try.prog F #[V] w fun e w' => e = .returned (.int .i64 (y.at_ : Int)) ∧ Below w.heap.size w w') := hP
          obtain ⟨i, hi⟩ : ∃ i, i = y.at_ := ⟨_, rfl⟩
          rw [← hi] at HP hB hyl HSU
          obtain ⟨n, hn⟩ : ∃ n, d2.sure.length = n := ⟨_, rfl⟩
          have HN : Hid (d2.sure.length = n) := hn
          have hin2 : (i : Int) < (n : Int) := by rw [← hn]; omega
          obtain ⟨X, hX⟩ : ∃ X, (bc B).toArray = X := ⟨_, rfl⟩
          have HXi : Hid ((Try.prog.info? 89).map (·.size) = some X.size) := by show _ = _; rw [info_bk, ← hX, bcA_size]
          have HX1 : Hid (X.all (·.oneCell') = true) := by rw [← hX]; exact bcA_one _
          have HIB : Hid ((Try.prog.info? 89).map (·.size) = some X.toList.length) := by show _ = _; rw [info_bk, ← hX]; simp
          have HXY : Hid ((bc B).toArray = X) := hX
          have HXl : Hid (i < d2.sure.length) := hyl
          have HB : Hid (d2.told[i]? = some B) := hB
          have D1 : Hid _ := hI.dev.drew
          have HT1 : Hid (Turn O w' wr.drew) := hI.turn.drew
          have HS : wr.drew.cell? ⟨p, 0, none⟩ = some (.slice (some ⟨a, 0, none⟩) n ca) ∧ wr.drew.cell? ⟨p, 1, none⟩ = some (.slice (some ⟨b, 0, none⟩) n cb) := by obtain ⟨q0, q1, -⟩ := D1.out.c; rw [hl1, HN.out] at q0 q1; exact ⟨q0, q1⟩
          clear hI hP hV hBd hg hi hB hyl hn hX
          go_wp2_with fail
          refine wp_region_held (S := fun w' => w'.cell? ⟨p, 0, none⟩ = some (.slice (some ⟨a, 0, none⟩) n ca) ∧ w'.cell? ⟨p, 1, none⟩ = some (.slice (some ⟨b, 0, none⟩) n cb)) (by kernel_rfl) ?_
          change wpAnyH _ _ _ _ _ _ _ _ (World.drew _)
          generalize wr.drew = W1 at *
          refine wpAnyH_take (i := 0) (v := .pointer (some ⟨p, 0, none⟩)) rfl (by kernel_rfl) (by kernel_rfl) (by kernel_rfl) (fun _ _ _ h => h) (Or.inl ⟨by rfl, by intro w _; go_simp⟩) HS ?_
          simp only [List.getElem_toArray, List.getElem_cons_succ, List.getElem_cons_zero, Act.put, List.setIfInBounds_toArray, List.set_cons_zero, List.set_cons_succ]
          refine wpAnyH_take (i := 1) (v := .pointer (some ⟨p, 0, none⟩)) rfl (by kernel_rfl) (by kernel_rfl) (by kernel_rfl) (fun _ _ _ h => h) (Or.inl ⟨by rfl, by intro w _; go_simp⟩) HS ?_
          simp only [List.getElem_toArray, List.getElem_cons_succ, List.getElem_cons_zero, Act.put, List.setIfInBounds_toArray, List.set_cons_zero, List.set_cons_succ]
          refine wpAnyH_take (i := 2) (v := .pointer (some ⟨p, 0, none⟩)) rfl (by kernel_rfl) (by kernel_rfl) (by kernel_rfl) (fun _ _ _ h => h) (Or.inl ⟨by rfl, by intro w _; go_simp⟩) HS ?_
          simp only [List.getElem_toArray, List.getElem_cons_succ, List.getElem_cons_zero, Act.put, List.setIfInBounds_toArray, List.set_cons_zero, List.set_cons_succ]
          refine wpAnyH_take (i := 3) (v := .slice (some ⟨a, 0, none⟩) n ca) rfl (by kernel_rfl) (by kernel_rfl) (by kernel_rfl) (fun _ _ _ h => h) (Or.inl ⟨by rfl, by intro w hw; have hw : w.cell? ⟨p, 0, none⟩ = some (.slice (some ⟨a, 0, none⟩) n ca) ∧ w.cell? ⟨p, 1, none⟩ = some (.slice (some ⟨b, 0, none⟩) n cb) := hw; obtain ⟨hw1, hw2⟩ := hw; go_simp⟩) HS ?_
          simp only [List.getElem_toArray, List.getElem_cons_succ, List.getElem_cons_zero, Act.put, List.setIfInBounds_toArray, List.set_cons_zero, List.set_cons_succ]
          refine wpAnyH_take (i := 4) (v := .iface T V) rfl (by kernel_rfl) (by kernel_rfl) (by kernel_rfl) (fun _ _ _ h => h) (Or.inl ⟨by rfl, by intro w _; go_simp⟩) HS ?_
          simp only [List.getElem_toArray, List.getElem_cons_succ, List.getElem_cons_zero, Act.put, List.setIfInBounds_toArray, List.set_cons_zero, List.set_cons_succ]
          refine wpAnyH_take (i := 6) (v := .pointer (some ⟨p, 0, none⟩)) rfl (by kernel_rfl) (by kernel_rfl) (by kernel_rfl) (fun _ _ _ h => h) (Or.inl ⟨by rfl, by intro w _; go_simp⟩) HS ?_
          simp only [List.getElem_toArray, List.getElem_cons_succ, List.getElem_cons_zero, Act.put, List.setIfInBounds_toArray, List.set_cons_zero, List.set_cons_succ]
          refine wpAnyH_take (i := 7) (v := .pointer (some ⟨p, 0, none⟩)) rfl (by kernel_rfl) (by kernel_rfl) (by kernel_rfl) (fun _ _ _ h => h) (Or.inl ⟨by rfl, by intro w _; go_simp⟩) HS ?_
          simp only [List.getElem_toArray, List.getElem_cons_succ, List.getElem_cons_zero, Act.put, List.setIfInBounds_toArray, List.set_cons_zero, List.set_cons_succ]
          refine wpAnyH_take (i := 8) (v := .pointer (some ⟨p, 1, none⟩)) rfl (by kernel_rfl) (by kernel_rfl) (by kernel_rfl) (fun _ _ _ h => h) (Or.inl ⟨by rfl, by intro w _; go_simp⟩) HS ?_
          simp only [List.getElem_toArray, List.getElem_cons_succ, List.getElem_cons_zero, Act.put, List.setIfInBounds_toArray, List.set_cons_zero, List.set_cons_succ]
          refine wpAnyH_take (i := 9) (v := .slice (some ⟨b, 0, none⟩) n cb) rfl (by kernel_rfl) (by kernel_rfl) (by kernel_rfl) (fun _ _ _ h => h) (Or.inl ⟨by rfl, by intro w hw; have hw : w.cell? ⟨p, 0, none⟩ = some (.slice (some ⟨a, 0, none⟩) n ca) ∧ w.cell? ⟨p, 1, none⟩ = some (.slice (some ⟨b, 0, none⟩) n cb) := hw; obtain ⟨hw1, hw2⟩ := hw; go_simp⟩) HS ?_
          simp only [List.getElem_toArray, List.getElem_cons_succ, List.getElem_cons_zero, Act.put, List.setIfInBounds_toArray, List.set_cons_zero, List.set_cons_succ]
          refine wpAnyH_take (i := 10) (v := .iface T V) rfl (by kernel_rfl) (by kernel_rfl) (by kernel_rfl) (fun _ _ _ h => h) (Or.inl ⟨by rfl, by intro w _; go_simp⟩) HS ?_
          simp only [List.getElem_toArray, List.getElem_cons_succ, List.getElem_cons_zero, Act.put, List.setIfInBounds_toArray, List.set_cons_zero, List.set_cons_succ]
          refine wpAnyH_ready (rs := [5]) (by kernel_rfl) (by simp) (AllReadyH.cons (by simp only [List.getElem?_toArray, List.getElem?_cons_succ, List.getElem?_cons_zero]; rfl) (fun K hK => ?_) AllReadyH.nil)
          refine step_plain rfl ?_
          go_simp
          refine (HP.out _).mono ?_
          rintro e w3 ⟨rfl, b3⟩
          have D3 : Hid _ := D1.out.below b3
          have HT3 : Hid (Turn O w' w3) := HT1.out.then_below b3
          have HS3 : w3.cell? ⟨p, 0, none⟩ = some (.slice (some ⟨a, 0, none⟩) n ca) ∧ w3.cell? ⟨p, 1, none⟩ = some (.slice (some ⟨b, 0, none⟩) n cb) := by obtain ⟨q0, q1, -⟩ := D3.out.c; rw [hl1, HN.out] at q0 q1; exact ⟨q0, q1⟩
          refine hK.out _ _ HS3 (fun _ => ?_)
          clear hK K
          try simp only [List.getElem_toArray, List.getElem_cons_succ, List.getElem_cons_zero, Act.put, List.setIfInBounds_toArray, List.set_cons_zero, List.set_cons_succ]
          refine wpAnyH_ready (rs := [11]) (by kernel_rfl) (by simp) (AllReadyH.cons (by simp only [List.getElem?_toArray, List.getElem?_cons_succ, List.getElem?_cons_zero]; rfl) (fun K hK => ?_) AllReadyH.nil)
          refine step_plain rfl ?_
          go_simp
          refine (HP.out _).mono ?_
          rintro e w4 ⟨rfl, b4⟩
          have D4 : Hid _ := D3.out.below b4
          have HT4 : Hid (Turn O w' w4) := HT3.out.then_below b4
          have HS4 : w4.cell? ⟨p, 0, none⟩ = some (.slice (some ⟨a, 0, none⟩) n ca) ∧ w4.cell? ⟨p, 1, none⟩ = some (.slice (some ⟨b, 0, none⟩) n cb) := by obtain ⟨q0, q1, -⟩ := D4.out.c; rw [hl1, HN.out] at q0 q1; exact ⟨q0, q1⟩
          have HRg : Hid (w4.rangeAt b (i * 129) X.toList) := by rw [← HXY.out]; exact D4.out.rangeT i B HB.out
          obtain ⟨cur, new, g1, g2, g3, D6⟩ := D4.out.putSure i (by rw [hl1]; exact HXl.out) B
          rw [HXY.out] at g2 g3
          have HD6 : Hid _ := D6
          have HT6 : Hid (Turn O w' (w4.setRow a new)) := HT4.out.setRow hOa new
          have G1 : Hid _ := g1
          have G2 : Hid _ := g2
          have G3 : Hid _ := g3
          have HS6 : (w4.setRow a new).cell? ⟨p, 0, none⟩ = some (.slice (some ⟨a, 0, none⟩) n ca) ∧ (w4.setRow a new).cell? ⟨p, 1, none⟩ = some (.slice (some ⟨b, 0, none⟩) n cb) := by obtain ⟨q0, q1, -⟩ := HD6.out.c; simp only [List.length_set] at q0 q1; rw [hl1, HN.out] at q0 q1; exact ⟨q0, q1⟩
          clear g1 g2 g3 D6
          refine hK.out _ _ HS4 (fun _ => ?_)
          clear hK K
          try simp only [List.getElem_toArray, List.getElem_cons_succ, List.getElem_cons_zero, Act.put, List.setIfInBounds_toArray, List.set_cons_zero, List.set_cons_succ]
          clear HS HS3
          refine wpAnyH_take (i := 12) (v := .pointer (some ⟨b, i * 129, none⟩)) rfl (by kernel_rfl) (by kernel_rfl) (by kernel_rfl) (fun _ _ _ h => h) (Or.inl ⟨by rfl, by intro w _; go_simp⟩) HS4 ?_
          simp only [List.getElem_toArray, List.getElem_cons_succ, List.getElem_cons_zero, Act.put, List.setIfInBounds_toArray, List.set_cons_zero, List.set_cons_succ]
          refine wpAnyH_ready (rs := [13]) (by kernel_rfl) (by simp) (AllReadyH.cons (by simp only [List.getElem?_toArray, List.getElem?_cons_succ, List.getElem?_cons_zero]; rfl) (fun K hK => ?_) AllReadyH.nil)
          refine step_plain rfl (wp_load_mid 89 _ rfl b (i * 129) rfl X.toList _ HRg.out Try.underlying89 rfl HIB.out ?_)
          refine hK.out _ _ HS4 (fun _ => ?_)
          clear hK K
          try simp only [List.getElem_toArray, List.getElem_cons_succ, List.getElem_cons_zero, Act.put, List.setIfInBounds_toArray, List.set_cons_zero, List.set_cons_succ]
          refine wpAnyH_take (i := 14) (v := .pointer (some ⟨a, i * 129, none⟩)) rfl (by kernel_rfl) (by kernel_rfl) (by kernel_rfl) (fun _ _ _ h => h) (Or.inl ⟨by rfl, by intro w _; go_simp⟩) HS4 ?_
          simp only [List.getElem_toArray, List.getElem_cons_succ, List.getElem_cons_zero, Act.put, List.setIfInBounds_toArray, List.set_cons_zero, List.set_cons_succ]
          refine wpAnyH_ready (rs := [15]) (by kernel_rfl) (by simp) (AllReadyH.cons (by simp only [List.getElem?_toArray, List.getElem?_cons_succ, List.getElem?_cons_zero]; rfl) (fun K hK => ?_) AllReadyH.nil)
          refine step_plain rfl (wp_store_midR 89 _ _ rfl a (i * 129) X cur new 89 rfl rfl G1.out G2.out HXi.out HX1.out G3.out ?_)
          refine hK.out _ _ HS6 (fun _ => ?_)
          clear hK K
          try simp only [List.getElem_toArray, List.getElem_cons_succ, List.getElem_cons_zero, Act.put, List.setIfInBounds_toArray, List.set_cons_zero, List.set_cons_succ]
          refine wpAnyH_done (by kernel_rfl) ?_ _
          have HIN : Hid (InFl w' p d2 O a b ca cb (.slice (some ⟨g, 0, none⟩) d2.acts.length c) fv kv (m + 1) (w4.setRow a new)) := ⟨by rw [HSU.out]; exact HD6.out, HT6.out⟩
          clear HS4 HS6 G1 G2 G3 HD6 HT6 D1 D3 D4 HT1 HT3 HT4 HSU hL HX
          generalize w4.setRow a new = W5 at *
          go_wp2
          go_roundw
          case rel => exact ⟨m + 1, by omega, by go_num, HIN.out⟩
          case measure => simp [intOf]; omega
        · have hmN : m = d2.acts.length := by omega
          have HDE : Hid (Dev (wr.setCell ⟨p, 2, none⟩ (.slice none 0 0)) p { ({ d2 with sure := flushN d2.sure d2.told d2.acts m } : Dv) with acts := [] } O) := hI.dev.noActs
          have HTU : Hid (Turn O w' wr) := hI.turn
          obtain ⟨-, -, c2, -⟩ := hI.dev.c
          have f2 : wr.frozen? ⟨p, 2, none⟩ = false := frozen_of_row _ _ _ _ _ hI.dev.cells
          have hng : ¬ (m : Int) < (d2.acts.length : Int) := by omega
          have HMN : Hid (m = d2.acts.length) := hmN
          clear hI HX hL hmN hlt hm
          go_wp2
          go_ret
          refine ⟨rfl, ?_, HTU.out.setCell hOp _⟩
          have hmN := HMN.out
          subst hmN
          exact HDE.out
end Go.Proofs.Ythlaackalmgfnaa
