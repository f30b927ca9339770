/- packs.handParts, handed a packer's add; packs.Split. -/
import Derived.Test.YtalofhnjlmgloaaDoorNa
import Derived.Test.YtalofhnjlmgloaaDoorNb
namespace Go.Proofs.YtalofhnjlmgloaaDoor
open Go.RowKit

theorem eg_add : ∀ (args : Array Value) (w : World), (callFunc 21 args).run Tryd.prog w = .ok (.enter 21 args) w := fun args w => by
  simp [callFunc, Tryd.func21]
  rfl
def strLen : Value → Nat | .string s => s.size | _ => 0
theorem drop_cut (d : List UInt8) (a : Nat) (h : (d.drop a).length ≤ 112) : S (d.drop a) = S (cut d a 112) := by
  unfold cut; rw [List.take_of_length_le h]
theorem add_part {w0 w : World} {B p : Nat} {k e : Int} {d : List UInt8} {i : Nat} (hu : underB k e = true) (hi : i < cntN d.length) (hc : cntN d.length ≤ 65536) (h : Pk w0 B p k e ((blkL k e d).take i) 0 w) :
    Calls Tryd.prog 21 #[.pointer (some ⟨p, 0, none⟩), .string (S (cut d (112 * i) 112))] w fun r w' => r = .returned (.bool true) ∧ Pk w0 B p k e ((blkL k e d).take (i + 1)) 0 w' := by
  have hl : ((blkL k e d).take i).length = i := by rw [List.length_take, blkL_length]; omega
  have h2 := add_any (cut d (112 * i) 112) h (by rw [hl]; omega)
  rw [hl] at h2
  rw [show (⟨k, e, (i : Int), cut d (112 * i) 112⟩ : Fr) = frP k e d i from rfl, frP_ok hu (by omega)] at h2
  rw [List.take_add_one, blkL_get hi]
  exact h2
theorem add_bad {w0 w : World} {B p : Nat} {k e : Int} (d : List UInt8) (hu : underB k e = false) (h : Pk w0 B p k e [] 0 w) :
    Calls Tryd.prog 21 #[.pointer (some ⟨p, 0, none⟩), .string (S (cut d 0 112))] w fun r w' => r = .returned (.bool false) ∧ Pk w0 B p k e [] 2 w' := by
  have h2 := add_any (cut d 0 112) h (by simp)
  rw [show (⟨k, e, (([] : List (List UInt8)).length : Int), cut d 0 112⟩ : Fr) = frP k e d 0 from rfl, frP_no hu] at h2
  exact h2
set_option maxRecDepth 100000 in
set_option maxHeartbeats 1000000 in
theorem hand_ok {w0 w : World} {B p : Nat} {k e : Int} (d : List UInt8) (hu : underB k e = true) (hc : cntN d.length ≤ 65536) (h : Pk w0 B p k e [] 0 w) :
    Calls Tryd.prog 20 #[.string (S d), .func (.func 21) #[.pointer (some ⟨p, 0, none⟩)] #[]] w fun r w' => r = .returned (.tuple #[]) ∧ Pk w0 B p k e (blkL k e d) 0 w' := by
  have heg := eg_add
  have HAd : Hid (∀ i (wr : World), i < cntN d.length → Pk w0 B p k e ((blkL k e d).take i) 0 wr → Calls Tryd.prog 21 #[.pointer (some ⟨p, 0, none⟩), .string (S (cut d (112 * i) 112))] wr fun r w' => r = .returned (.bool true) ∧ Pk w0 B p k e ((blkL k e d).take (i + 1)) 0 w') := fun i wr hi hp => add_part hu hi hc hp
  have HP : Hid _ := h
  have hst : Hid (S d = S (d.drop (112 * 0))) := by show _ = _; simp
  clear h hu hc
  go_enter Tryd.func20, Tryd.ntmps20
  go_wp2
  go_loopw [0] (fun v wr => ∃ i : Nat, 112 * i ≤ d.length ∧ (i = 0 ∨ 112 * i < d.length) ∧ v = .string (S (d.drop (112 * i))) ∧ Pk w0 B p k e ((blkL k e d).take i) 0 wr) (fun v _ => strLen v)
  case atStart => exact ⟨0, by omega, .inl rfl, by rw [← hst.out], HP.out⟩
  case round =>
    obtain ⟨i, hi0, hi, rfl, hP⟩ := hrel
    by_cases hlt : 112 * i + 112 < d.length
    · have hC : Hid (Calls Tryd.prog 21 #[.pointer (some ⟨p, 0, none⟩), .string (S (cut d (112 * i) 112))] wr fun r w' => r = .returned (.bool true) ∧ Pk w0 B p k e ((blkL k e d).take (i + 1)) 0 w') := HAd.out i wr (by have := cntN_le d.length; omega) hP
      have hsz : 112 < (S (d.drop (112 * i))).size := by rw [S_size, List.length_drop]; omega
      have hsz2 : (112 : Int) < ((S (d.drop (112 * i))).size : Int) := by omega
      have HE1 : Hid ((S (d.drop (112 * i))).extract 0 112 = S (cut d (112 * i) 112)) := by show _ = _; rw [S_ext]; simp [cut]
      have HE2 : Hid ((S (d.drop (112 * i))).extract 112 (S (d.drop (112 * i))).size = S (d.drop (112 * (i + 1)))) := by
        show _ = _
        rw [S_ext, S_size]
        congr 1
        unfold cut
        rw [List.take_of_length_le (by simp; omega), List.drop_drop]
        congr 1
      have HM : Hid ((S (d.drop (112 * (i + 1)))).size < (S (d.drop (112 * i))).size) := by show _ < _; rw [S_size, S_size, List.length_drop, List.length_drop]; omega
      clear hP
      generalize S (d.drop (112 * i)) = A at *
      go_wp2_with fail
      rw [HE1.out]
      refine hC.out.mono ?_
      rintro r w2 ⟨rfl, hP2⟩
      have HP2 : Hid _ := hP2
      clear hP2 hC
      go_wp2
      rw [HE2.out]
      go_roundw
      case rel => exact ⟨i + 1, by omega, .inr (by omega), rfl, HP2.out⟩
      case measure => exact HM.out
    · have hi2 : i < cntN d.length := by
        have := cntN_last (n := d.length) (i := 112 * i) (by omega) (by omega) (by omega)
        omega
      have hC : Hid (Calls Tryd.prog 21 #[.pointer (some ⟨p, 0, none⟩), .string (S (d.drop (112 * i)))] wr fun r w' => r = .returned (.bool true) ∧ Pk w0 B p k e (blkL k e d) 0 w') := by
        have h := HAd.out i wr hi2 hP
        rw [← drop_cut d (112 * i) (by simp; omega)] at h
        have hn : cntN d.length = i + 1 := by
          have := cntN_last (n := d.length) (i := 112 * i) (by omega) (by omega) (by omega)
          omega
        rw [List.take_of_length_le (by rw [blkL_length]; omega)] at h
        exact h
      have hsz2 : ¬ (112 : Int) < ((S (d.drop (112 * i))).size : Int) := by rw [S_size, List.length_drop]; omega
      clear hP
      generalize S (d.drop (112 * i)) = A at *
      go_wp2_with fail
      refine hC.out.mono ?_
      rintro r w2 ⟨rfl, hP2⟩
      have HP2 : Hid _ := hP2
      clear hP2 hC
      go_wp2
      go_end0
      exact ⟨rfl, HP2.out⟩
set_option maxRecDepth 100000 in
set_option maxHeartbeats 1000000 in
theorem hand_no {w0 w : World} {B p : Nat} {k e : Int} (d : List UInt8) (hu : underB k e = false) (h : Pk w0 B p k e [] 0 w) :
    Calls Tryd.prog 20 #[.string (S d), .func (.func 21) #[.pointer (some ⟨p, 0, none⟩)] #[]] w fun r w' => r = .returned (.tuple #[]) ∧ Pk w0 B p k e [] 2 w' := by
  have heg := eg_add
  have hC : Hid (Calls Tryd.prog 21 #[.pointer (some ⟨p, 0, none⟩), .string (S (cut d 0 112))] w fun r w' => r = .returned (.bool false) ∧ Pk w0 B p k e [] 2 w') := add_bad d hu h
  have HP : Hid _ := h
  clear h hu
  by_cases hlt : 112 < d.length
  · have hsz : 112 < (S d).size := by rw [S_size]; omega
    have hsz2 : (112 : Int) < ((S d).size : Int) := by omega
    have HE1 : Hid ((S d).extract 0 112 = S (cut d 0 112)) := by show _ = _; rw [S_ext]
    generalize S d = A at *
    go_enter Tryd.func20, Tryd.ntmps20
    go_wp2
    go_loopw [0] (fun v wr => v = .string A ∧ wr = w) (fun v _ => strLen v)
    case atStart => exact ⟨rfl, rfl⟩
    case round =>
      obtain ⟨rfl, rfl⟩ := hrel
      go_wp2_with fail
      rw [HE1.out]
      refine hC.out.mono ?_
      rintro r w2 ⟨rfl, hP2⟩
      have HP2 : Hid _ := hP2
      clear hP2 hC
      go_wp2
      exact bodyPost_ret (v := .tuple #[]) (by simp [results, Tryd.results20, go_sem]) rfl ⟨rfl, HP2.out⟩
  · rw [show cut d 0 112 = d by unfold cut; rw [List.drop_zero, List.take_of_length_le (by omega)]] at hC
    have hsz2 : ¬ (112 : Int) < ((S d).size : Int) := by rw [S_size]; omega
    generalize S d = A at *
    go_enter Tryd.func20, Tryd.ntmps20
    go_wp2
    go_loopw [0] (fun v wr => v = .string A ∧ wr = w) (fun v _ => strLen v)
    case atStart => exact ⟨rfl, rfl⟩
    case round =>
      obtain ⟨rfl, rfl⟩ := hrel
      go_wp2_with fail
      refine hC.out.mono ?_
      rintro r w2 ⟨rfl, hP2⟩
      have HP2 : Hid _ := hP2
      clear hP2 hC
      go_wp2
      go_end0
      exact ⟨rfl, HP2.out⟩
end Go.Proofs.YtalofhnjlmgloaaDoor
