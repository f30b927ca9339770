/- Contract of a device's count of what is done ahead of a failure. -/
import Derived.Test.YtdjjhiamiaialaaDoorKd
namespace Go.Proofs.YtdjjhiamiaialaaDoor
open Go.RowKit

/-- Does it fail at this one? And what becomes of the count. -/
def failsD (d : Dv) : Bool × Dv :=
  match d.fail with
  | none => (false, d)
  | some (0, _) => (true, d)
  | some (n + 1, k) => (false, { d with fail := some (n, k) })
theorem Turn.setCell {O : Nat → Prop} {u w : World} (h : Turn O u w) {b o : Nat} (hb : O b) (v : Value) : Turn O u (w.setCell ⟨b, o, none⟩ v) :=
  ⟨h.os, h.tape, h.output, by rw [heap_set_size]; exact h.size, fun k hk hn => by rw [Below.heap_setCell _ _ _ _ (fun e => hn (by rw [e]; exact hb))]; exact h.block k hk hn⟩
theorem Turn.setRow {O : Nat → Prop} {u w : World} (h : Turn O u w) {b : Nat} (hb : O b) (C : Array Value) : Turn O u (w.setRow b C) :=
  ⟨h.os, h.tape, h.output, by simp [World.setRow]; exact h.size, fun k hk hn => by rw [heap_setRow_ne (fun e => hn (by rw [e]; exact hb))]; exact h.block k hk hn⟩
theorem Turn.trans {O O' : Nat → Prop} {u v w : World} (h : Turn O u v) (k : Turn O' v w) (hO : ∀ i, i < u.heap.size → O' i → O i) : Turn O u w :=
  ⟨k.os.trans h.os, k.tape.trans h.tape, k.output.trans h.output, Nat.le_trans h.size k.size, fun i hi hn => (k.block i (Nat.lt_of_lt_of_le hi h.size) (fun e => hn (hO i hi e))).trans (h.block i hi hn)⟩
theorem Turn.drew {O : Nat → Prop} {u w : World} (h : Turn O u w) : Turn O u w.drew := ⟨h.os, h.tape, h.output, h.size, h.block⟩
theorem Turn.then_below {O : Nat → Prop} {u v w : World} (h : Turn O u v) (k : Below v.heap.size v w) : Turn O u w := h.trans (Turn.of_below (O := O) k) fun _ _ h => h
theorem nodup_mem {p a b : Nat} {cv fv kv : Value} (h : (blocks p a b cv fv kv).Nodup) : p ≠ a ∧ p ≠ b ∧ a ≠ b ∧ (∀ k, cv.ownBlock = some k → k ≠ p ∧ k ≠ a ∧ k ≠ b ∧ ptrB fv ≠ some k ∧ kv.ownBlock ≠ some k) ∧ (∀ k, ptrB fv = some k → k ≠ p ∧ k ≠ a ∧ k ≠ b ∧ kv.ownBlock ≠ some k) ∧ (∀ k, kv.ownBlock = some k → k ≠ p ∧ k ≠ a ∧ k ≠ b) := by
  simp only [blocks, List.nodup_cons, List.mem_cons, List.mem_append, Option.mem_toList, List.nodup_append, not_or] at h
  obtain ⟨⟨h1, h2, h3, h4, h5⟩, ⟨h6, h7, h8, h9⟩, ⟨h10, h11, h12⟩, h13, ⟨h14, h15, h16⟩, h17⟩ := h
  refine ⟨h1, h2, h6, fun k hk => ⟨?_, ?_, ?_, ?_, ?_⟩, fun k hk => ⟨?_, ?_, ?_, ?_⟩, fun k hk => ⟨?_, ?_, ?_⟩⟩
  · rintro rfl; exact h3 hk
  · rintro rfl; exact h7 hk
  · rintro rfl; exact h10 hk
  · intro e; exact h17 k hk k (.inl e) rfl
  · intro e; exact h17 k hk k (.inr e) rfl
  · rintro rfl; exact h4 hk
  · rintro rfl; exact h8 hk
  · rintro rfl; exact h11 hk
  · intro e; exact h16 k hk k e rfl
  · rintro rfl; exact h5 hk
  · rintro rfl; exact h9 hk
  · rintro rfl; exact h12 hk
theorem DevAt.setLeft {w : World} {p : Nat} {d : Dv} {O : Nat → Prop} {a b ca cb : Nat} {cv kv : Value} {f n m : Nat} {k : List Int} (h : DevAt w p d O a b ca cb cv (.pointer (some ⟨f, 0, none⟩)) kv) (hf : d.fail = some (n, k)) (hm : m ≤ n) :
    DevAt (w.setCell ⟨f, 0, none⟩ (.int .i64 (m : Int))) p { d with fail := some (m, k) } O a b ca cb cv (.pointer (some ⟨f, 0, none⟩)) kv := by
  obtain ⟨-, -, -, n4, n5, n6⟩ := nodup_mem h.nodup
  obtain ⟨f1, f2, f3, f4⟩ := n5 f rfl
  have hne : ∀ k, k ≠ f → (w.setCell ⟨f, 0, none⟩ (.int .i64 (m : Int))).heap[k]? = w.heap[k]? := fun k hk => Below.heap_setCell _ _ _ _ hk
  refine { h with cells := ?_, sure := h.sure.same (hne a (Ne.symm f2)), told := h.told.same (hne b (Ne.symm f3)), acts := owns_same h.acts fun k hk => hne k ?_, fail := ?_, left := ?_, own := fun k hk => ⟨(h.own k hk).1, ?_⟩ }
  · rw [hne p (Ne.symm f1)]; exact h.cells
  · intro e; subst e; exact (n4 k hk).2.2.2.1 rfl
  · have := h.fail
    rw [hf] at this
    obtain ⟨f', e, h1, h2⟩ := this
    obtain rfl : f = f' := by simpa using e
    refine ⟨f, rfl, ?_, h2.same fun k hk => hne k ?_⟩
    · rw [heap_set_same h1]; rfl
    · rintro rfl; exact f4 hk
  · intro n' k' e
    have := h.left n k hf
    simp at e
    omega
  · rw [heap_set_size]; exact (h.own k hk).2
theorem fails_dev {w : World} {p : Nat} {d : Dv} {O : Nat → Prop} (h : Dev w p d O) : Calls Tryd.prog 36 #[.pointer (some ⟨p, 0, none⟩)] w fun e w' => e = .returned (.bool (failsD d).1) ∧ Dev w' p (failsD d).2 O ∧ Turn O w w' ∧ w'.heap.size = w.heap.size := by
  obtain ⟨a, b, ca, cb, cv, fv, kv, h⟩ := h
  obtain ⟨-, -, -, -, -, c5⟩ := h.c
  have hD : Dev w p d O := ⟨_, _, _, _, _, _, _, h⟩
  cases hf : d.fail with
  | none =>
    have he : failsD d = (false, d) := by unfold failsD; rw [hf]
    rw [he]
    have hfl := h.fail
    rw [hf] at hfl
    obtain ⟨rfl, -⟩ := hfl
    have HD : Hid _ := hD
    clear h hf he hD
    go_enter Tryd.func36, Tryd.ntmps36
    go_wp2
    go_ret
    exact ⟨rfl, HD.out, Turn.refl _ _, rfl⟩
  | some x =>
    obtain ⟨n, k⟩ := x
    have hfl := h.fail
    rw [hf] at hfl
    obtain ⟨f, rfl, h1, h2⟩ := hfl
    have c0 : w.cell? ⟨f, 0, none⟩ = some (.int .i64 (n : Int)) := by rw [cell_of_row _ _ _ _ _ _ h1]; rfl
    have f0 : w.frozen? ⟨f, 0, none⟩ = false := frozen_of_row _ _ _ _ _ h1
    have hO : O f := (h.own f (by simp [blocks, ptrB])).1
    have hlt := h.left n k hf
    cases n with
    | zero =>
      have he : failsD d = (true, d) := by unfold failsD; rw [hf]
      rw [he]
      have HD : Hid _ := hD
      clear h hf he hD h2
      go_enter Tryd.func36, Tryd.ntmps36
      go_wp2
      go_ret
      exact ⟨rfl, HD.out, Turn.refl _ _, rfl⟩
    | succ m =>
      have he : failsD d = (false, { d with fail := some (m, k) }) := by unfold failsD; rw [hf]
      rw [he]
      have HD : Hid (Dev (w.setCell ⟨f, 0, none⟩ (.int .i64 (m : Int))) p { d with fail := some (m, k) } O) := ⟨_, _, _, _, _, _, _, h.setLeft hf (by omega)⟩
      have t0 : ¬ ((m + 1 : Nat) : Int) = 0 := by omega
      have HW : Hid (((m + 1 : Nat) : Int) - 1 = (m : Int)) := by show _ = _; omega
      have t1 : ((m + 1 : Nat) : Int) < 9223372036854775808 := by omega
      have t2 : 0 < ((m + 1 : Nat) : Int) := by omega
      clear h hf he hD h2 h1
      generalize ((m + 1 : Nat) : Int) = z at *
      go_enter Tryd.func36, Tryd.ntmps36
      go_wp2
      go_ret
      have := HW.out
      refine ⟨rfl, ?_, ?_, ?_⟩
      · rw [this]; exact HD.out
      · exact (Turn.refl _ _).setCell hO _
      · rw [heap_set_size]
end Go.Proofs.YtdjjhiamiaialaaDoor
