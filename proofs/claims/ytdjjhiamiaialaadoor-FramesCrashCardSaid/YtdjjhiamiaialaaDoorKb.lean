/- Contracts of a device's Read and States; of blocks that are written, torn, kept. -/
import Derived.Test.YtdjjhiamiaialaaDoorKa
namespace Go.Proofs.YtdjjhiamiaialaaDoor
open Go.RowKit

/-- Bytes that lie in the middle of a block, made into a string. -/
theorem conv_rng (l : List UInt8) (w : World) (b o c : Nat) (h : w.rangeAt b o (hv l).toList) : (convert 45 9 (.slice (some ⟨b, o, none⟩) l.length c)).run Tryd.prog w = .ok (.string (S l)) w := by
  rw [run_convert_bytes_string _ _ _ 5 _ _ _ Tryd.underlying45 Tryd.underlying5 Tryd.underlying9]
  have hl := run_loadCells_list (P := Tryd.prog) w ⟨b, o, none⟩ ((l.map fun b => (b.toNat : Int)).map (Value.int .u8)) (fun j v hj => by
    rw [Addr.add_mid]
    exact h j v (by simpa [hv] using hj))
  rw [List.length_map, List.length_map] at hl
  rw [run_bytesToString _ _ _ _ _ hl, foldl_push, List.map_map]
  have e : (l.map ((fun n : Int => UInt8.ofNat n.toNat) ∘ fun b : UInt8 => (b.toNat : Int))) = l := by
    conv => rhs; rw [← List.map_id l]
    apply List.map_congr_left
    intro x _
    simp
  rw [e]
  simp [S]
/-- What a Read tells. -/
def readD (d : Dv) (i : Int) : List UInt8 × Int :=
  if d.up then
    if 0 ≤ i then
      match d.told[i.toNat]? with
      | none => ([], 2)
      | some b => if b.st = 0 then ([], 41) else if b.st = 2 then ([], 42) else (txt b.by_, 0)
    else ([], 2)
  else ([], 43)
set_option maxRecDepth 100000 in
theorem read_dev {w : World} {p : Nat} {d : Dv} {O : Nat → Prop} (h : Dev w p d O) (i : Int) : Calls Tryd.prog 10 #[.pointer (some ⟨p, 0, none⟩), .int .i64 i] w fun e w' => e = .returned (.tuple #[.string (S (readD d i).1), .int .i64 (readD d i).2]) ∧ w' = w := by
  have hr := refuses_dev h
  have hh := has_dev h i
  obtain ⟨a, b, ca, cb, cv, fv, kv, h⟩ := h
  obtain ⟨-, c1, -⟩ := h.c
  cases hu : d.up <;> rw [hu] at hr
  · have he : readD d i = ([], 43) := by unfold readD; rw [hu]; rfl
    rw [he]
    clear h hh he hu
    go_enter Tryd.func10, Tryd.ntmps10
    go_wp2_with (go_at_call 20; refine hr.mono ?_; rintro e w' ⟨rfl, rfl⟩)
    go_ret2
    exact ⟨rfl, rfl⟩
  · by_cases hi : 0 ≤ i ∧ i < d.sure.length
    · rw [decide_eq_true hi] at hh
      obtain ⟨j, rfl⟩ : ∃ j : Nat, i = j := ⟨i.toNat, by omega⟩
      have hj : j < d.told.length := by have := h.len; omega
      have hsp := rc_split d.told j d.told[j] (List.getElem?_eq_getElem hj)
      have hc := h.told.cell (j * 129) (.int .i64 (d.told[j].st : Int)) (by
        have := rc_get d.told j 0 d.told[j] (List.getElem?_eq_getElem hj) (by omega)
        rw [Nat.add_zero] at this; rw [this]; rfl)
      have hb := h.told.range (pre := rc (d.told.take j) ++ [.int .i64 (d.told[j].st : Int)]) (mid := (hv (txt d.told[j].by_)).toList) (post := rc (d.told.drop (j + 1))) (by rw [hsp]; simp [bc]) (j * 129 + 1) (by simp; omega)
      have hcv := conv_rng _ w b (j * 129 + 1) 128 hb
      have he : readD d j = if d.told[j].st = 0 then ([], 41) else if d.told[j].st = 2 then ([], 42) else (txt d.told[j].by_, 0) := by
        unfold readD
        rw [hu, if_pos rfl, if_pos (by omega), Int.toNat_natCast, List.getElem?_eq_getElem hj]
      rw [txt_length] at hcv
      have hjn : (j : Int) < d.sure.length := hi.2
      rw [he]
      clear h hi he hb hsp hu
      generalize txt d.told[j].by_ = T at *
      generalize d.told[j].st = s at *
      clear hj
      generalize d.sure.length = n at *
      by_cases s0 : s = 0
      · subst s0
        go_enter Tryd.func10, Tryd.ntmps10
        go_wp2_with (first | (go_at_call 20; refine hr.mono ?_; rintro e w' ⟨rfl, rfl⟩) | (go_at_call 21; refine hh.mono ?_; rintro e w' ⟨rfl, rfl⟩))
        go_ret2
        exact ⟨rfl, rfl⟩
      · by_cases s2 : s = 2
        · subst s2
          go_enter Tryd.func10, Tryd.ntmps10
          go_wp2_with (first | (go_at_call 20; refine hr.mono ?_; rintro e w' ⟨rfl, rfl⟩) | (go_at_call 21; refine hh.mono ?_; rintro e w' ⟨rfl, rfl⟩))
          go_ret2
          exact ⟨rfl, rfl⟩
        · have t0 : ¬ (s : Int) = 0 := by omega
          have t2 : ¬ (s : Int) = 2 := by omega
          rw [if_neg s0, if_neg s2]
          clear s0 s2
          go_enter Tryd.func10, Tryd.ntmps10
          go_wp2_with (first | (go_at_call 20; refine hr.mono ?_; rintro e w' ⟨rfl, rfl⟩) | (go_at_call 21; refine hh.mono ?_; rintro e w' ⟨rfl, rfl⟩))
          go_ret2
          exact ⟨rfl, rfl⟩
    · rw [decide_eq_false hi] at hh
      have he : readD d i = ([], 2) := by
        unfold readD
        rw [hu, if_pos rfl]
        by_cases h0 : 0 ≤ i
        · rw [if_pos h0, List.getElem?_eq_none (by have := h.len; omega)]
        · rw [if_neg h0]
      rw [he]
      clear h hi he hu
      go_enter Tryd.func10, Tryd.ntmps10
      go_wp2_with (first | (go_at_call 20; refine hr.mono ?_; rintro e w' ⟨rfl, rfl⟩) | (go_at_call 21; refine hh.mono ?_; rintro e w' ⟨rfl, rfl⟩))
      go_ret2
      exact ⟨rfl, rfl⟩
theorem place_wr (i : Nat) (g : Fin 128 → UInt8) (w : World) : Calls Tryd.prog 75 #[.agg (.int .i64 (i : Int) :: (hv (txt g)).toList).toArray] w fun e w' => e = .returned (.int .i64 (i : Int)) ∧ Below w.heap.size w w' := by
  obtain ⟨C, hC⟩ : ∃ C : Array Value, C = (.int .i64 (i : Int) :: (hv (txt g)).toList).toArray := ⟨_, rfl⟩
  have h0 : C[0]? = some (.int .i64 (i : Int)) := by rw [hC]; rfl
  have hs : C.size = 129 := by rw [hC, List.size_toArray, List.length_cons, Array.length_toList, hv_size, txt_length]
  rw [← hC]
  clear hC
  have hc : (w.alloc (.cells C 63)).cell? ⟨w.heap.size, 0, none⟩ = some (.int .i64 (i : Int)) := by
    rw [cell_of_row _ _ _ _ _ _ (heap_alloc_last w _)]; exact h0
  clear h0
  go_enter Tryd.func75, Tryd.ntmps75
  go_wp2
  go_ret
  exact ⟨rfl, (Below.refl _ _).alloc (Nat.le_refl _) _⟩
theorem place_er (i : Nat) (w : World) : Calls Tryd.prog 78 #[.agg #[.int .i64 (i : Int)]] w fun e w' => e = .returned (.int .i64 (i : Int)) ∧ Below w.heap.size w w' := by
  go_enter Tryd.func78, Tryd.ntmps78
  go_wp2
  go_ret
  exact ⟨rfl, (Below.refl _ _).alloc (Nat.le_refl _) _⟩
end Go.Proofs.YtdjjhiamiaialaaDoor
