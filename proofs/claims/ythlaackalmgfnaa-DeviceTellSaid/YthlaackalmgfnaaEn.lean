/- Devices, lists and rows beside one another in memory. -/
import Derived.Test.YthlaackalmgfnaaEm
namespace Go.Proofs.Ythlaackalmgfnaa
open Go.RowKit

theorem grow_sub {O : Nat → Prop} {wr w1 w' : World} (h : wr.heap.size ≤ w1.heap.size) : ∀ k, grow O w1 w' k → grow O wr w' k := fun k hk => by
  rcases hk with hk | hk
  · exact .inl hk
  · exact .inr ⟨by omega, hk.2⟩
/-- With on a device (no tampering). -/
theorem dev_with {wr : World} {p : Nat} {d : Dv} {O : Nat → Prop} (h : Dev wr p d O) (x : DoX) (hx : x.ok wr) (hxk : x.k ≠ [] → ∀ i, x.kv.ownBlock = some i → ¬ O i) (hhi : ∀ k, O k → k < wr.heap.size) (hl : x.k.length ≤ 1000000) (hn : x.q % 13 < 12) (ha : d.acts.length < 1000000) (hs : d.starts < 1000000) :
    Calls Try.prog 12 #[.pointer (some ⟨p, 0, none⟩), .agg x.v] wr (Tells fun r w' => r = (withD d x).1 ∧ Dev w' p (withD d x).2 (grow O wr w') ∧ Turn O wr w') := by
  have tell : ∀ {w1 : World} {e : Ending} {w' : World} {R : Int × Dv}, Below wr.heap.size wr w1 → withD d x = R → e = .returned (.int .i64 R.1) → Dev w' p R.2 (grow O w1 w') → Turn O w1 w' → TellsK wr.heap.size w1 (fun r w' => r = (withD d x).1 ∧ Dev w' p (withD d x).2 (grow O wr w') ∧ Turn O wr w') e w' := fun {w1 e w' R} hb hR he ho ht => by
    refine ⟨R.1, he, ⟨by rw [hR], by rw [hR]; exact ho.mono (grow_sub hb.size), (Turn.of_below hb).trans ht fun _ _ h => h⟩, fun k hk1 hk2 => ht.block k hk2 (fun hO => ?_)⟩
    have := hhi k hO
    omega
  have n0 : ∀ {w1 : World}, Below wr.heap.size wr w1 → Dev w1 p d O := fun hb => h.below hb
  have g0 : ∀ {w1 w' : World} {e : Dv}, Dev w' p e O → Dev w' p e (grow O w1 w') := fun h => h.mono fun _ h => .inl h
  have hm : x.q % 13 < 13 := Nat.mod_lt _ (by omega)
  by_cases h0 : x.q % 13 < 4
  · have e : withD d x = writeD d x.i (blockT x.s) := by
      unfold withD
      rw [if_neg (by omega), if_neg (by omega), if_neg (by omega), if_neg (by omega), if_neg (by omega), if_neg (by omega)]
    exact with_0 h0 hx.q fun w1 hb => (write_dev (n0 hb) x.i _ ha).mono fun _ _ hh => tell hb e hh.1 hh.2.1 hh.2.2
  · have hc : x.q % 13 = 4 ∨ x.q % 13 = 5 ∨ x.q % 13 = 6 ∨ x.q % 13 = 7 ∨ x.q % 13 = 8 ∨ x.q % 13 = 9 ∨ x.q % 13 = 10 ∨ x.q % 13 = 11 := by omega
    rcases hc with hc | hc | hc | hc | hc | hc | hc | hc
    · have e : withD d x = writeD d x.i x.s := by unfold withD; rw [if_pos hc]
      exact with_4 hc hx.q fun w1 hb => (write_dev (n0 hb) x.i _ ha).mono fun _ _ hh => tell hb e hh.1 hh.2.1 hh.2.2
    · have e : withD d x = eraseD d x.i := by unfold withD; rw [if_neg (by omega), if_pos (by omega)]
      exact with_5 hc hx.q fun w1 hb => (erase_dev (n0 hb) x.i ha).mono fun _ _ hh => tell hb e hh.1 hh.2.1 hh.2.2
    · have e : withD d x = eraseD d x.i := by unfold withD; rw [if_neg (by omega), if_pos (by omega)]
      exact with_6 hc hx.q fun w1 hb => (erase_dev (n0 hb) x.i ha).mono fun _ _ hh => tell hb e hh.1 hh.2.1 hh.2.2
    · have e : withD d x = flushD d := by unfold withD; rw [if_neg (by omega), if_neg (by omega), if_pos hc]
      exact with_7 hc hx.q fun w1 hb => (flush_dev (n0 hb)).mono fun _ _ hh => tell hb e hh.1 (g0 hh.2.1) hh.2.2
    · have e : withD d x = crashE d x.k := by unfold withD; rw [if_neg (by omega), if_neg (by omega), if_neg (by omega), if_pos hc]
      exact with_8 hc hx.q fun w1 hb => (crash_dev (n0 hb) (hx.below hb).k fun hk i hi _ hO => hxk hk i hi hO).mono fun _ _ hh => tell hb e hh.1 (g0 hh.2.1) hh.2.2
    · have e : withD d x = startD d := by unfold withD; rw [if_neg (by omega), if_neg (by omega), if_neg (by omega), if_neg (by omega), if_pos (by omega)]
      exact with_9 hc hx.q fun w1 hb => (start_dev (n0 hb) hs).mono fun _ _ hh => tell hb e hh.1 (g0 hh.2.1) hh.2.2
    · have e : withD d x = startD d := by unfold withD; rw [if_neg (by omega), if_neg (by omega), if_neg (by omega), if_neg (by omega), if_pos (by omega)]
      exact with_10 hc hx.q fun w1 hb => (start_dev (n0 hb) hs).mono fun _ _ hh => tell hb e hh.1 (g0 hh.2.1) hh.2.2
    · have e : withD d x = failF d x.n x.k := by unfold withD; rw [if_neg (by omega), if_neg (by omega), if_neg (by omega), if_neg (by omega), if_neg (by omega), if_pos hc]
      exact with_11 hc hx.q fun w1 hb => (fail_dev (n0 hb) x.n hx.n (hx.below hb).k hl).mono fun _ _ hh => tell hb e hh.1 hh.2.1 hh.2.2
/-- Devices (ds), lists of numbers (is) and of texts (ts), and blocks (rs), beside one another; O tells which blocks a device has. -/
structure SysO (w : World) (ds : List (Nat × Dv)) (is : List (Value × List Int)) (ts : List (Value × List (List UInt8))) (rs : List (Nat × Obj)) (O : Nat → Nat → Prop) (wr : World) : Prop where
  below : Below w.heap.size w wr
  dev : ∀ i p d, ds[i]? = some (p, d) → Dev wr p d (O i)
  lo : ∀ i k, O i k → w.heap.size ≤ k ∧ k < wr.heap.size
  apart : ∀ i j k, i ≠ j → O i k → ¬ O j k
  ints : ∀ v l, (v, l) ∈ is → IntsAt wr v l ∧ ∀ b, v.ownBlock = some b → (∀ i, ¬ O i b) ∧ b < wr.heap.size
  texts : ∀ v l, (v, l) ∈ ts → TextsAt wr v l ∧ ∀ b, v.ownBlock = some b → (∀ i, ¬ O i b) ∧ b < wr.heap.size
  rows : ∀ b o, (b, o) ∈ rs → wr.heap[b]? = some o ∧ (∀ i, ¬ O i b) ∧ w.heap.size ≤ b
def Sys (w : World) (ds : List (Nat × Dv)) (is : List (Value × List Int)) (ts : List (Value × List (List UInt8))) (rs : List (Nat × Obj)) (wr : World) : Prop := ∃ O, SysO w ds is ts rs O wr
section
variable {w : World} {ds : List (Nat × Dv)} {is : List (Value × List Int)} {ts : List (Value × List (List UInt8))} {rs : List (Nat × Obj)} {wr : World}
theorem Sys.nil (w : World) : Sys w [] [] [] [] w := ⟨fun _ _ => False, Below.refl _ _, fun i p d h => by simp at h, fun _ _ h => h.elim, fun _ _ _ _ h => h.elim, fun _ _ h => by simp at h, fun _ _ h => by simp at h, fun _ _ h => by simp at h⟩
theorem Sys.base (h : Sys w ds is ts rs wr) : Below w.heap.size w wr := by obtain ⟨O, h⟩ := h; exact h.below
theorem row_lt {w : World} {b : Nat} {o : Obj} (h : w.heap[b]? = some o) : b < w.heap.size := (Array.getElem?_eq_some_iff.1 h).1
theorem Sys.below (h : Sys w ds is ts rs wr) {wx : World} (hb : Below wr.heap.size wr wx) : Sys w ds is ts rs wx := by
  obtain ⟨O, h⟩ := h
  have hs := hb.size
  exact ⟨O, h.below.trans (hb.mono h.below.size), fun i p d hi => (h.dev i p d hi).below hb, fun i k hk => ⟨(h.lo i k hk).1, by have := (h.lo i k hk).2; omega⟩, h.apart,
    fun v l hv => ⟨(h.ints v l hv).1.below hb, fun b hbb => ⟨((h.ints v l hv).2 b hbb).1, by have := ((h.ints v l hv).2 b hbb).2; omega⟩⟩,
    fun v l hv => ⟨(h.texts v l hv).1.below hb, fun b hbb => ⟨((h.texts v l hv).2 b hbb).1, by have := ((h.texts v l hv).2 b hbb).2; omega⟩⟩,
    fun b o hbo => ⟨by rw [hb.block b (row_lt (h.rows b o hbo).1)]; exact (h.rows b o hbo).1, (h.rows b o hbo).2⟩⟩
/-- One device turns. -/
theorem SysO.turn {O : Nat → Nat → Prop} (h : SysO w ds is ts rs O wr) {i p : Nat} {d d' : Dv} {wx : World} (hi : ds[i]? = some (p, d)) (hd : Dev wx p d' (grow (O i) wr wx)) (ht : Turn (O i) wr wx) : Sys w (ds.set i (p, d')) is ts rs wx := by
  have hs := ht.size
  have hil := (List.getElem?_eq_some_iff.1 hi).1
  have hno : ∀ j k, j ≠ i → O j k → ¬ O i k := fun j k hj hk => h.apart j i k hj hk
  refine ⟨fun j k => if j = i then grow (O i) wr wx k else O j k, h.below.trans (ht.below (fun k hk => (h.lo i k hk).1) h.below.size), fun j q e hj => ?_, fun j k hk => ?_, fun j j' k hjj hk hk' => ?_, fun v l hv => ?_, fun v l hv => ?_, fun b o hbo => ?_⟩
  · by_cases hji : j = i
    · subst hji
      rw [List.getElem?_set_self hil] at hj
      simp at hj
      obtain ⟨rfl, rfl⟩ := hj
      simpa using hd
    · rw [List.getElem?_set_ne (fun e => hji e.symm)] at hj
      simp only [if_neg hji]
      exact (h.dev j q e hj).turn ht fun k hk => hno j k hji hk
  · by_cases hji : j = i
    · simp only [if_pos hji] at hk
      rcases hk with hk | hk
      · exact ⟨(h.lo i k hk).1, by have := (h.lo i k hk).2; omega⟩
      · exact ⟨by have := h.below.size; omega, hk.2⟩
    · simp only [if_neg hji] at hk
      exact ⟨(h.lo j k hk).1, by have := (h.lo j k hk).2; omega⟩
  · by_cases hji : j = i
    · have hj' : j' ≠ i := fun e => hjj (by rw [hji, e])
      simp only [if_pos hji] at hk
      simp only [if_neg hj'] at hk'
      rcases hk with hk | hk
      · exact hno j' k hj' hk' hk
      · have := (h.lo j' k hk').2; omega
    · simp only [if_neg hji] at hk
      by_cases hj' : j' = i
      · simp only [if_pos hj'] at hk'
        rcases hk' with hk' | hk'
        · exact hno j k hji hk hk'
        · have := (h.lo j k hk).2; omega
      · simp only [if_neg hj'] at hk'
        exact h.apart j j' k hjj hk hk'
  · obtain ⟨h1, h2⟩ := h.ints v l hv
    refine ⟨h1.turn ht fun b hb => (h2 b hb).1 i, fun b hb => ⟨fun j hj => ?_, by have := (h2 b hb).2; omega⟩⟩
    by_cases hji : j = i
    · simp only [if_pos hji] at hj
      rcases hj with hj | hj
      · exact (h2 b hb).1 i hj
      · have := (h2 b hb).2; omega
    · simp only [if_neg hji] at hj
      exact (h2 b hb).1 j hj
  · obtain ⟨h1, h2⟩ := h.texts v l hv
    refine ⟨h1.turn ht fun b hb => (h2 b hb).1 i, fun b hb => ⟨fun j hj => ?_, by have := (h2 b hb).2; omega⟩⟩
    by_cases hji : j = i
    · simp only [if_pos hji] at hj
      rcases hj with hj | hj
      · exact (h2 b hb).1 i hj
      · have := (h2 b hb).2; omega
    · simp only [if_neg hji] at hj
      exact (h2 b hb).1 j hj
  · obtain ⟨h1, h2, h3⟩ := h.rows b o hbo
    have hlt := row_lt h1
    refine ⟨by rw [ht.block b hlt (h2 i)]; exact h1, fun j hj => ?_, h3⟩
    by_cases hji : j = i
    · simp only [if_pos hji] at hj
      rcases hj with hj | hj
      · exact h2 i hj
      · omega
    · simp only [if_neg hji] at hj
      exact h2 j hj
theorem SysO.turn0 {O : Nat → Nat → Prop} (h : SysO w ds is ts rs O wr) {i p : Nat} {d d' : Dv} {wx : World} (hi : ds[i]? = some (p, d)) (hd : Dev wx p d' (O i)) (ht : Turn (O i) wr wx) : Sys w (ds.set i (p, d')) is ts rs wx := h.turn hi (hd.mono fun _ hk => .inl hk) ht
/-- A device more. -/
theorem SysO.add {O : Nat → Nat → Prop} (h : SysO w ds is ts rs O wr) {p : Nat} {d : Dv} {wx : World} {Q : Nat → Prop} (hd : Dev wx p d Q) (hQ : ∀ k, Q k → wr.heap.size ≤ k ∧ k < wx.heap.size) (hb : Below wr.heap.size wr wx) : Sys w (ds ++ [(p, d)]) is ts rs wx := by
  have hs := hb.size
  have hB := h.below.size
  refine ⟨fun j k => if j < ds.length then O j k else if j = ds.length then Q k else False, h.below.trans (hb.mono hB), fun j q e hj => ?_, fun j k hk => ?_, fun j j' k hjj hk hk' => ?_, fun v l hv => ?_, fun v l hv => ?_, fun b o hbo => ?_⟩
  · by_cases hl : j < ds.length
    · rw [List.getElem?_append_left hl] at hj
      simp only [if_pos hl]
      exact (h.dev j q e hj).below hb
    · have hje : j = ds.length := by have := (List.getElem?_eq_some_iff.1 hj).1; simp at this; omega
      subst hje
      simp at hj
      obtain ⟨rfl, rfl⟩ := hj
      simpa using hd
  · by_cases hl : j < ds.length
    · simp only [if_pos hl] at hk
      exact ⟨(h.lo j k hk).1, by have := (h.lo j k hk).2; omega⟩
    · simp only [if_neg hl] at hk
      by_cases he : j = ds.length
      · simp only [if_pos he] at hk
        have := hQ k hk
        exact ⟨by omega, this.2⟩
      · simp only [if_neg he] at hk
  · by_cases hl : j < ds.length
    · simp only [if_pos hl] at hk
      by_cases hl' : j' < ds.length
      · simp only [if_pos hl'] at hk'
        exact h.apart j j' k hjj hk hk'
      · simp only [if_neg hl'] at hk'
        by_cases he' : j' = ds.length
        · simp only [if_pos he'] at hk'
          have := hQ k hk'; have := (h.lo j k hk).2; omega
        · simp only [if_neg he'] at hk'
    · simp only [if_neg hl] at hk
      by_cases he : j = ds.length
      · simp only [if_pos he] at hk
        by_cases hl' : j' < ds.length
        · simp only [if_pos hl'] at hk'
          have := hQ k hk; have := (h.lo j' k hk').2; omega
        · simp only [if_neg hl'] at hk'
          by_cases he' : j' = ds.length
          · omega
          · simp only [if_neg he'] at hk'
      · simp only [if_neg he] at hk
  · obtain ⟨h1, h2⟩ := h.ints v l hv
    refine ⟨h1.below hb, fun b hbb => ⟨fun j hj => ?_, by have := (h2 b hbb).2; omega⟩⟩
    by_cases hl : j < ds.length
    · simp only [if_pos hl] at hj; exact (h2 b hbb).1 j hj
    · simp only [if_neg hl] at hj
      by_cases he : j = ds.length
      · simp only [if_pos he] at hj
        have := hQ b hj; have := (h2 b hbb).2; omega
      · simp only [if_neg he] at hj
  · obtain ⟨h1, h2⟩ := h.texts v l hv
    refine ⟨h1.below hb, fun b hbb => ⟨fun j hj => ?_, by have := (h2 b hbb).2; omega⟩⟩
    by_cases hl : j < ds.length
    · simp only [if_pos hl] at hj; exact (h2 b hbb).1 j hj
    · simp only [if_neg hl] at hj
      by_cases he : j = ds.length
      · simp only [if_pos he] at hj
        have := hQ b hj; have := (h2 b hbb).2; omega
      · simp only [if_neg he] at hj
  · obtain ⟨h1, h2, h3⟩ := h.rows b o hbo
    have hlt := row_lt h1
    refine ⟨by rw [hb.block b hlt]; exact h1, fun j hj => ?_, h3⟩
    by_cases hl : j < ds.length
    · simp only [if_pos hl] at hj; exact h2 j hj
    · simp only [if_neg hl] at hj
      by_cases he : j = ds.length
      · simp only [if_pos he] at hj
        have := hQ b hj; omega
      · simp only [if_neg he] at hj
/-- Lists and blocks more, or fewer. -/
theorem Sys.addInts (h : Sys w ds is ts rs wr) {v : Value} {l : List Int} {wx : World} (hi : IntsAt wx v l) (hn : ∀ b, v.ownBlock = some b → wr.heap.size ≤ b ∧ b < wx.heap.size) (hb : Below wr.heap.size wr wx) : Sys w ds ((v, l) :: is) ts rs wx := by
  obtain ⟨O, h'⟩ := h
  obtain ⟨O2, h2⟩ : ∃ O2, SysO w ds is ts rs O2 wx ∧ O2 = O := by
    have hs := hb.size
    exact ⟨O, ⟨h'.below.trans (hb.mono h'.below.size), fun i p d hi => (h'.dev i p d hi).below hb, fun i k hk => ⟨(h'.lo i k hk).1, by have := (h'.lo i k hk).2; omega⟩, h'.apart,
      fun v l hv => ⟨(h'.ints v l hv).1.below hb, fun b hbb => ⟨((h'.ints v l hv).2 b hbb).1, by have := ((h'.ints v l hv).2 b hbb).2; omega⟩⟩,
      fun v l hv => ⟨(h'.texts v l hv).1.below hb, fun b hbb => ⟨((h'.texts v l hv).2 b hbb).1, by have := ((h'.texts v l hv).2 b hbb).2; omega⟩⟩,
      fun b o hbo => ⟨by rw [hb.block b (row_lt (h'.rows b o hbo).1)]; exact (h'.rows b o hbo).1, (h'.rows b o hbo).2⟩⟩, rfl⟩
  obtain ⟨h2, rfl⟩ := h2
  refine ⟨O2, { h2 with ints := fun v' l' hv => ?_ }⟩
  rcases List.mem_cons.1 hv with hv | hv
  · simp at hv
    obtain ⟨rfl, rfl⟩ := hv
    exact ⟨hi, fun b hbb => ⟨fun i hO => by have := (h'.lo i b hO).2; have := hn b hbb; omega, (hn b hbb).2⟩⟩
  · exact h2.ints v' l' hv
theorem Sys.addTexts (h : Sys w ds is ts rs wr) {v : Value} {l : List (List UInt8)} {wx : World} (hi : TextsAt wx v l) (hn : ∀ b, v.ownBlock = some b → wr.heap.size ≤ b ∧ b < wx.heap.size) (hb : Below wr.heap.size wr wx) : Sys w ds is ((v, l) :: ts) rs wx := by
  obtain ⟨O, h'⟩ := h
  obtain ⟨O2, h2⟩ : ∃ O2, SysO w ds is ts rs O2 wx ∧ O2 = O := by
    have hs := hb.size
    exact ⟨O, ⟨h'.below.trans (hb.mono h'.below.size), fun i p d hi => (h'.dev i p d hi).below hb, fun i k hk => ⟨(h'.lo i k hk).1, by have := (h'.lo i k hk).2; omega⟩, h'.apart,
      fun v l hv => ⟨(h'.ints v l hv).1.below hb, fun b hbb => ⟨((h'.ints v l hv).2 b hbb).1, by have := ((h'.ints v l hv).2 b hbb).2; omega⟩⟩,
      fun v l hv => ⟨(h'.texts v l hv).1.below hb, fun b hbb => ⟨((h'.texts v l hv).2 b hbb).1, by have := ((h'.texts v l hv).2 b hbb).2; omega⟩⟩,
      fun b o hbo => ⟨by rw [hb.block b (row_lt (h'.rows b o hbo).1)]; exact (h'.rows b o hbo).1, (h'.rows b o hbo).2⟩⟩, rfl⟩
  obtain ⟨h2, rfl⟩ := h2
  refine ⟨O2, { h2 with texts := fun v' l' hv => ?_ }⟩
  rcases List.mem_cons.1 hv with hv | hv
  · simp at hv
    obtain ⟨rfl, rfl⟩ := hv
    exact ⟨hi, fun b hbb => ⟨fun i hO => by have := (h'.lo i b hO).2; have := hn b hbb; omega, (hn b hbb).2⟩⟩
  · exact h2.texts v' l' hv
theorem Sys.addRow (h : Sys w ds is ts rs wr) (o : Obj) : Sys w ds is ts ((wr.heap.size, o) :: rs) (wr.alloc o) := by
  obtain ⟨O, h'⟩ := h
  have hb : Below wr.heap.size wr (wr.alloc o) := (Below.refl _ _).alloc (Nat.le_refl _) _
  have hs := hb.size
  refine ⟨O, ⟨h'.below.trans (hb.mono h'.below.size), fun i p d hi => (h'.dev i p d hi).below hb, fun i k hk => ⟨(h'.lo i k hk).1, by have := (h'.lo i k hk).2; omega⟩, h'.apart,
      fun v l hv => ⟨(h'.ints v l hv).1.below hb, fun b hbb => ⟨((h'.ints v l hv).2 b hbb).1, by have := ((h'.ints v l hv).2 b hbb).2; omega⟩⟩,
      fun v l hv => ⟨(h'.texts v l hv).1.below hb, fun b hbb => ⟨((h'.texts v l hv).2 b hbb).1, by have := ((h'.texts v l hv).2 b hbb).2; omega⟩⟩, fun b o' hbo => ?_⟩⟩
  rcases List.mem_cons.1 hbo with hbo | hbo
  · simp at hbo
    obtain ⟨rfl, rfl⟩ := hbo
    exact ⟨heap_alloc_last _ _, fun i hO => by have := (h'.lo i _ hO).2; omega, h'.below.size⟩
  · exact ⟨by rw [hb.block b (row_lt (h'.rows b o' hbo).1)]; exact (h'.rows b o' hbo).1, (h'.rows b o' hbo).2⟩
/-- A cell of the first block is set (it is no list's). -/
theorem Sys.putRow {b : Nat} {cs : Array Value} {t : TypeId} {fr : Nat × Nat} (h : Sys w ds is ts ((b, .cells cs t fr) :: rs) wr) (hnr : ∀ o, (b, o) ∉ rs) (hni : ∀ v l, (v, l) ∈ is → v.ownBlock ≠ some b) (hnt : ∀ v l, (v, l) ∈ ts → v.ownBlock ≠ some b) (j : Nat) (u : Value) : Sys w ds is ts ((b, .cells (cs.setIfInBounds j u) t fr) :: rs) (wr.setCell ⟨b, j, none⟩ u) := by
  obtain ⟨O, h'⟩ := h
  obtain ⟨r1, r2, r3⟩ := h'.rows b _ (List.mem_cons_self ..)
  have hne : ∀ k, k ≠ b → (wr.setCell ⟨b, j, none⟩ u).heap[k]? = wr.heap[k]? := fun k hk => Below.heap_setCell _ _ _ _ hk
  have hsz : (wr.setCell ⟨b, j, none⟩ u).heap.size = wr.heap.size := heap_set_size _ _ _
  have ht : Turn (fun k : Nat => k = b) wr (wr.setCell ⟨b, j, none⟩ u) := Turn.setCell (O := fun k : Nat => k = b) (Turn.refl _ _) rfl _
  refine ⟨O, ⟨h'.below.setCell r3 _, fun i p d hi => (h'.dev i p d hi).turn ht fun k hk e => r2 i (e ▸ hk), fun i k hk => by rw [hsz]; exact h'.lo i k hk, h'.apart,
    fun v l hv => ⟨(h'.ints v l hv).1.turn ht fun k hk e => hni v l hv (e ▸ hk), by rw [hsz]; exact (h'.ints v l hv).2⟩,
    fun v l hv => ⟨(h'.texts v l hv).1.turn ht fun k hk e => hnt v l hv (e ▸ hk), by rw [hsz]; exact (h'.texts v l hv).2⟩, fun b' o' hbo => ?_⟩⟩
  rcases List.mem_cons.1 hbo with hbo | hbo
  · simp at hbo
    obtain ⟨rfl, rfl⟩ := hbo
    exact ⟨heap_set_same r1, r2, r3⟩
  · obtain ⟨s1, s2, s3⟩ := h'.rows b' o' (List.mem_cons_of_mem _ hbo)
    have hbb : b' ≠ b := fun e => hnr o' (e ▸ hbo)
    exact ⟨by rw [hne b' hbb]; exact s1, s2, s3⟩
theorem Sys.less (h : Sys w ds is ts rs wr) {is' : List (Value × List Int)} {ts' : List (Value × List (List UInt8))} {rs' : List (Nat × Obj)} (h1 : ∀ x ∈ is', x ∈ is) (h2 : ∀ x ∈ ts', x ∈ ts) (h3 : ∀ x ∈ rs', x ∈ rs) : Sys w ds is' ts' rs' wr := by
  obtain ⟨O, h'⟩ := h
  exact ⟨O, { h' with ints := fun v l hv => h'.ints v l (h1 _ hv), texts := fun v l hv => h'.texts v l (h2 _ hv), rows := fun b o hbo => h'.rows b o (h3 _ hbo) }⟩
theorem Sys.int (h : Sys w ds is ts rs wr) {v : Value} {l : List Int} (hv : (v, l) ∈ is) : IntsAt wr v l := by obtain ⟨O, h⟩ := h; exact (h.ints v l hv).1
theorem Sys.text (h : Sys w ds is ts rs wr) {v : Value} {l : List (List UInt8)} (hv : (v, l) ∈ ts) : TextsAt wr v l := by obtain ⟨O, h⟩ := h; exact (h.texts v l hv).1
theorem Sys.row (h : Sys w ds is ts rs wr) {b : Nat} {o : Obj} (hv : (b, o) ∈ rs) : wr.heap[b]? = some o := by obtain ⟨O, h⟩ := h; exact (h.rows b o hv).1
theorem Sys.small (h : Sys w ds is ts rs wr) (i : Nat) {p : Nat} {d : Dv} (hi : ds[i]? = some (p, d)) : d.sure.length ≤ 512 ∧ d.told.length = d.sure.length ∧ 0 < d.sure.length := by
  obtain ⟨O, h⟩ := h
  obtain ⟨_, _, _, _, _, _, _, hd⟩ := h.dev i p d hi
  exact ⟨hd.small, hd.len, hd.pos⟩
/-- The calls. -/
theorem sys_with (h : Sys w ds is ts rs wr) (i : Nat) {p : Nat} {d : Dv} (hi : ds[i]? = some (p, d)) (x : DoX) (hx : x.ok w) (hl : x.k.length ≤ 1000000) (hn : x.q % 13 < 12) (ha : d.acts.length < 1000000) (hs : d.starts < 1000000) :
    Calls Try.prog 12 #[.pointer (some ⟨p, 0, none⟩), .agg x.v] wr (Tells fun r w' => r = (withD d x).1 ∧ Sys w (ds.set i (p, (withD d x).2)) is ts rs w') := by
  obtain ⟨O, h⟩ := h
  exact Calls.mono (dev_with (h.dev i p d hi) x (hx.below h.below) (fun hk b hb hO => by have := (h.lo i b hO).1; have := hx.kb hk b hb; omega) (fun k hk => (h.lo i k hk).2) hl hn ha hs) fun _ _ ⟨r, he, hr, hd, ht⟩ => ⟨r, he, hr, h.turn hi hd ht⟩
theorem sys_write (h : Sys w ds is ts rs wr) (i : Nat) {p : Nat} {d : Dv} (hi : ds[i]? = some (p, d)) (k : Int) (s : List UInt8) (ha : d.acts.length < 1000000) :
    Calls Try.prog 19 #[.pointer (some ⟨p, 0, none⟩), .int .i64 k, .string (S s)] wr fun e w' => e = .returned (.int .i64 (writeD d k s).1) ∧ Sys w (ds.set i (p, (writeD d k s).2)) is ts rs w' := by
  obtain ⟨O, h⟩ := h
  exact (write_dev (h.dev i p d hi) k s ha).mono fun _ _ hh => ⟨hh.1, h.turn hi hh.2.1 hh.2.2⟩
theorem sys_erase (h : Sys w ds is ts rs wr) (i : Nat) {p : Nat} {d : Dv} (hi : ds[i]? = some (p, d)) (k : Int) (ha : d.acts.length < 1000000) :
    Calls Try.prog 33 #[.pointer (some ⟨p, 0, none⟩), .int .i64 k] wr fun e w' => e = .returned (.int .i64 (eraseD d k).1) ∧ Sys w (ds.set i (p, (eraseD d k).2)) is ts rs w' := by
  obtain ⟨O, h⟩ := h
  exact (erase_dev (h.dev i p d hi) k ha).mono fun _ _ hh => ⟨hh.1, h.turn hi hh.2.1 hh.2.2⟩
theorem sys_flush (h : Sys w ds is ts rs wr) (i : Nat) {p : Nat} {d : Dv} (hi : ds[i]? = some (p, d)) :
    Calls Try.prog 29 #[.pointer (some ⟨p, 0, none⟩)] wr fun e w' => e = .returned (.int .i64 (flushD d).1) ∧ Sys w (ds.set i (p, (flushD d).2)) is ts rs w' := by
  obtain ⟨O, h⟩ := h
  exact (flush_dev (h.dev i p d hi)).mono fun _ _ hh => ⟨hh.1, h.turn0 hi hh.2.1 hh.2.2⟩
theorem sys_start (h : Sys w ds is ts rs wr) (i : Nat) {p : Nat} {d : Dv} (hi : ds[i]? = some (p, d)) (hs : d.starts < 1000000) :
    Calls Try.prog 32 #[.pointer (some ⟨p, 0, none⟩)] wr fun e w' => e = .returned (.int .i64 (startD d).1) ∧ Sys w (ds.set i (p, (startD d).2)) is ts rs w' := by
  obtain ⟨O, h⟩ := h
  exact (start_dev (h.dev i p d hi) hs).mono fun _ _ hh => ⟨hh.1, h.turn0 hi hh.2.1 hh.2.2⟩
/-- A crash that keeps a list that came in. -/
theorem sys_crash (h : Sys w ds is ts rs wr) (i : Nat) {p : Nat} {d : Dv} (hi : ds[i]? = some (p, d)) {kq : Value} {k : List Int} (hk : IntsAt w kq k) :
    Calls Try.prog 31 #[.pointer (some ⟨p, 0, none⟩), kq] wr fun e w' => e = .returned (.int .i64 (crashE d k).1) ∧ Sys w (ds.set i (p, (crashE d k).2)) is ts rs w' := by
  obtain ⟨O, h⟩ := h
  refine (crash_dev (h.dev i p d hi) (hk.below h.below) fun hne b hb _ hO => ?_).mono fun _ _ hh => ⟨hh.1, h.turn0 hi hh.2.1 hh.2.2⟩
  obtain ⟨a, c, e, hh⟩ := hk
  obtain ⟨y, hy⟩ : ∃ y, k[0]? = some y := ⟨_, List.getElem?_eq_getElem (List.length_pos_iff.2 hne)⟩
  obtain ⟨b', o, rfl, hc⟩ := hh 0 y hy
  rw [e] at hb
  have : b' = b := by simpa [Value.ownBlock] using hb
  subst this
  have h1 := World.block_lt_of_cell? w _ hc
  have h2 := (h.lo i b' hO).1
  dsimp only at h1
  omega
/-- A crash that keeps a list among these. -/
theorem sys_crash2 (h : Sys w ds is ts rs wr) (i : Nat) {p : Nat} {d : Dv} (hi : ds[i]? = some (p, d)) {kq : Value} {k : List Int} (hk : (kq, k) ∈ is) :
    Calls Try.prog 31 #[.pointer (some ⟨p, 0, none⟩), kq] wr fun e w' => e = .returned (.int .i64 (crashE d k).1) ∧ Sys w (ds.set i (p, (crashE d k).2)) is ts rs w' := by
  obtain ⟨O, h⟩ := h
  exact (crash_dev (h.dev i p d hi) (h.ints kq k hk).1 fun hne b hb _ hO => ((h.ints kq k hk).2 b hb).1 i hO).mono fun _ _ hh => ⟨hh.1, h.turn0 hi hh.2.1 hh.2.2⟩
theorem sys_fail (h : Sys w ds is ts rs wr) (i : Nat) {p : Nat} {d : Dv} (hi : ds[i]? = some (p, d)) (n : Int) (hn : n < 9223372036854775808) {kq : Value} {k : List Int} (hk : IntsAt w kq k) (hl : k.length ≤ 1000000) :
    Calls Try.prog 34 #[.pointer (some ⟨p, 0, none⟩), .int .i64 n, kq] wr fun e w' => e = .returned (.int .i64 (failF d n k).1) ∧ Sys w (ds.set i (p, (failF d n k).2)) is ts rs w' := by
  obtain ⟨O, h⟩ := h
  exact (fail_dev (h.dev i p d hi) n hn (hk.below h.below) hl).mono fun _ _ hh => ⟨hh.1, h.turn hi hh.2.1 hh.2.2⟩
theorem sys_clone (h : Sys w ds is ts rs wr) (i : Nat) {p : Nat} {d : Dv} (hi : ds[i]? = some (p, d)) :
    Calls Try.prog 17 #[.pointer (some ⟨p, 0, none⟩)] wr fun e w' => ∃ q, e = .returned (.pointer (some ⟨q, 0, none⟩)) ∧ Sys w (ds ++ [(q, runD d.sure)]) is ts rs w' := by
  obtain ⟨O, h⟩ := h
  exact (clone_dev (h.dev i p d hi)).mono fun _ _ ⟨q, he, hd, hb⟩ => ⟨q, he, h.add hd (fun _ hk => hk) hb⟩
theorem sys_after (h : Sys w ds is ts rs wr) {a : Option Addr} {xs : List DoX} (hx : DosAt w a xs) (c n : Nat) (hn : n < 256) (hl : xs.length ≤ 1000) (hm : xs.any muchB = false) :
    Calls Try.prog 28 #[.int .u8 (n : Int), .slice a xs.length c] wr fun e w' => ∃ p, e = .returned (.pointer (some ⟨p, 0, none⟩)) ∧ Sys w (ds ++ [(p, afterD n xs)]) is ts rs w' := by
  obtain ⟨O, h⟩ := h
  exact (after_any (hx.below h.below) c n hn hl hm).mono fun _ _ ⟨p, he, Q, hQ⟩ => ⟨p, he, h.add hQ.dev (fun k hk => ⟨hQ.lo k hk, hQ.hi k hk⟩) hQ.below⟩
theorem sys_states (h : Sys w ds is ts rs wr) (i : Nat) {p : Nat} {d : Dv} (hi : ds[i]? = some (p, d)) :
    Calls Try.prog 24 #[.pointer (some ⟨p, 0, none⟩)] wr fun e w' => ∃ v, e = .returned v ∧ Sys w ds ((v, statesD d) :: is) ts rs w' := by
  obtain ⟨O, h'⟩ := id h
  exact (states_dev (h'.dev i p d hi)).mono fun _ _ ⟨v, he, h1, h2, h3⟩ => ⟨v, he, h.addInts h1 h2 h3⟩
theorem sys_all (h : Sys w ds is ts rs wr) (i : Nat) {p : Nat} {d : Dv} (hi : ds[i]? = some (p, d)) :
    Calls Try.prog 30 #[.pointer (some ⟨p, 0, none⟩)] wr fun e w' => ∃ v, e = .returned v ∧ Sys w ds is ((v, allD d) :: ts) rs w' := by
  obtain ⟨O, h'⟩ := id h
  exact (all_dev (h'.dev i p d hi)).mono fun _ _ ⟨v, he, h1, h2, h3⟩ => ⟨v, he, h.addTexts h1 h2 h3⟩
theorem sys_ints (h : Sys w ds is ts rs wr) {v1 v2 : Value} {l1 l2 : List Int} (h1 : (v1, l1) ∈ is) (h2 : (v2, l2) ∈ is) (hl : l1.length ≤ 1000000) (he : l1 = l2) :
    Calls Try.prog 14 #[v1, v2] wr fun e w' => e = .returned (.bool true) ∧ Sys w ds is ts rs w' := by
  have := ints_cmp (h.int h1) (h.int h2) hl
  rw [decide_eq_true he] at this
  exact this.mono fun _ _ hh => ⟨hh.1, h.below hh.2⟩
theorem sys_texts (h : Sys w ds is ts rs wr) {v1 v2 : Value} {l1 l2 : List (List UInt8)} (h1 : (v1, l1) ∈ ts) (h2 : (v2, l2) ∈ ts) (hl : l1.length ≤ 1000000) (he : l1 = l2) :
    Calls Try.prog 35 #[v1, v2] wr fun e w' => e = .returned (.bool true) ∧ Sys w ds is ts rs w' := by
  subst he
  exact (texts_same (h.text h1) (h.text h2) hl).mono fun _ _ hh => ⟨hh.1, h.below hh.2⟩
theorem sys_up (h : Sys w ds is ts rs wr) (i : Nat) {p : Nat} {d : Dv} (hi : ds[i]? = some (p, d)) :
    Calls Try.prog 26 #[.pointer (some ⟨p, 0, none⟩)] wr fun e w' => e = .returned (.bool d.up) ∧ w' = wr := by obtain ⟨O, h⟩ := h; exact up_dev (h.dev i p d hi)
theorem sys_pending (h : Sys w ds is ts rs wr) (i : Nat) {p : Nat} {d : Dv} (hi : ds[i]? = some (p, d)) :
    Calls Try.prog 25 #[.pointer (some ⟨p, 0, none⟩)] wr fun e w' => e = .returned (.int .i64 (d.acts.length : Int)) ∧ w' = wr := by obtain ⟨O, h⟩ := h; exact pending_dev (h.dev i p d hi)
theorem sys_len (h : Sys w ds is ts rs wr) (i : Nat) {p : Nat} {d : Dv} (hi : ds[i]? = some (p, d)) :
    Calls Try.prog 22 #[.pointer (some ⟨p, 0, none⟩)] wr fun e w' => e = .returned (.int .i64 (d.sure.length : Int)) ∧ w' = wr := by obtain ⟨O, h⟩ := h; exact len_dev (h.dev i p d hi)
theorem sys_starts (h : Sys w ds is ts rs wr) (i : Nat) {p : Nat} {d : Dv} (hi : ds[i]? = some (p, d)) :
    Calls Try.prog 27 #[.pointer (some ⟨p, 0, none⟩)] wr fun e w' => e = .returned (.int .i64 (d.starts : Int)) ∧ w' = wr := by obtain ⟨O, h⟩ := h; exact starts_dev (h.dev i p d hi)
theorem sys_state (h : Sys w ds is ts rs wr) (i : Nat) {p : Nat} {d : Dv} (hi : ds[i]? = some (p, d)) (k : Int) :
    Calls Try.prog 23 #[.pointer (some ⟨p, 0, none⟩), .int .i64 k] wr fun e w' => e = .returned (.int .i64 (stAtD d k)) ∧ w' = wr := by obtain ⟨O, h⟩ := h; exact state_dev (h.dev i p d hi) k
theorem sys_read (h : Sys w ds is ts rs wr) (i : Nat) {p : Nat} {d : Dv} (hi : ds[i]? = some (p, d)) (k : Int) :
    Calls Try.prog 21 #[.pointer (some ⟨p, 0, none⟩), .int .i64 k] wr fun e w' => e = .returned (.tuple #[.string (S (readD d k).1), .int .i64 (readD d k).2]) ∧ w' = wr := by obtain ⟨O, h⟩ := h; exact read_dev (h.dev i p d hi) k
theorem statesD_len2 (h : Sys w ds is ts rs wr) (i : Nat) {p : Nat} {d : Dv} (hi : ds[i]? = some (p, d)) : (statesD d).length ≤ 512 := by
  have := h.small i hi
  rw [statesD_len]; omega
theorem allD_len2 (h : Sys w ds is ts rs wr) (i : Nat) {p : Nat} {d : Dv} (hi : ds[i]? = some (p, d)) : (allD d).length ≤ 512 := by
  have := h.small i hi
  rw [allD_len]; omega
end
end Go.Proofs.Ythlaackalmgfnaa
