/- The laws SumsJoin, SumsThree, SumsGo: they return true. -/
import Derived.Test.YtfjclbgcbpjdcaaDoorCb
namespace Go.Proofs.YtfjclbgcbpjdcaaDoor
open Go.RowKit

theorem str_add (a b : ByteArray) : (a ++ b).data.toList = a.data.toList ++ b.data.toList := by simp
theorem str_add_size (a b : ByteArray) : (a ++ b).size = a.size + b.size := by simp
theorem join_any (a b : ByteArray) (w : World) (hT : Tab4 w) :
    Calls Tryd.prog 4 #[.string a, .string b] w fun e w' => e = .returned (.bool true) ∧ Below w.heap.size w w' := by
  by_cases ha : a.size ≤ 20000
  rotate_left
  · go_enter Tryd.func4, Tryd.ntmps4
    go_wp2
    go_ret
    exact ⟨rfl, Below.refl _ _⟩
  by_cases hb : b.size ≤ 20000
  rotate_left
  · go_enter Tryd.func4, Tryd.ntmps4
    go_wp2
    go_ret
    exact ⟨rfl, Below.refl _ _⟩
  have h1 : Hid (Calls Tryd.prog 9 #[.string a] w fun e w' => e = .returned (.int .u32 (iw (moreL 0#32 a.data.toList))) ∧ w' = w) := sum_any a w hT (by omega)
  have h2 : Hid (Calls Tryd.prog 11 #[.int .u32 (iw (moreL 0#32 a.data.toList)), .string b] w fun e w' => e = .returned (.int .u32 (iw (moreL 0#32 (a.data.toList ++ b.data.toList)))) ∧ w' = w) := by
    have := more_any (moreL 0#32 a.data.toList) b w hT (by omega)
    rwa [moreL_append] at this
  have h3 : Hid (Calls Tryd.prog 9 #[.string (a ++ b)] w fun e w' => e = .returned (.int .u32 (iw (moreL 0#32 (a.data.toList ++ b.data.toList)))) ∧ w' = w) := by
    have := sum_any (a ++ b) w hT (by rw [str_add_size]; omega)
    rwa [str_add] at this
  have h4 : Hid (Calls Tryd.prog 13 #[] w fun e w' => e = .returned (.bool true) ∧ w' = w) := does_any w hT
  generalize iw (moreL 0#32 (a.data.toList ++ b.data.toList)) = R at *
  generalize iw (moreL 0#32 a.data.toList) = Q at *
  go_enter Tryd.func4, Tryd.ntmps4
  go_wp2_with fail
  refine h1.out.mono ?_
  rintro e w' ⟨rfl, rfl⟩
  go_wp2_with fail
  refine h2.out.mono ?_
  rintro e w' ⟨rfl, rfl⟩
  go_wp2_with fail
  refine h3.out.mono ?_
  rintro e w' ⟨rfl, rfl⟩
  go_wp2_with fail
  refine h4.out.mono ?_
  rintro e w' ⟨rfl, rfl⟩
  go_wp2
  go_ret
  exact ⟨rfl, Below.refl _ _⟩
set_option maxHeartbeats 1600000 in
theorem three_any (a b c : ByteArray) (w : World) (hT : Tab4 w) :
    Calls Tryd.prog 7 #[.string a, .string b, .string c] w fun e w' => e = .returned (.bool true) ∧ Below w.heap.size w w' := by
  by_cases ha : a.size ≤ 5000
  rotate_left
  · go_enter Tryd.func7, Tryd.ntmps7
    go_wp2
    go_ret
    exact ⟨rfl, Below.refl _ _⟩
  by_cases hb : b.size ≤ 5000
  rotate_left
  · go_enter Tryd.func7, Tryd.ntmps7
    go_wp2
    go_ret
    exact ⟨rfl, Below.refl _ _⟩
  by_cases hc : c.size ≤ 5000
  rotate_left
  · go_enter Tryd.func7, Tryd.ntmps7
    go_wp2
    go_ret
    exact ⟨rfl, Below.refl _ _⟩
  have h1 : Hid (Calls Tryd.prog 9 #[.string a] w fun e w' => e = .returned (.int .u32 (iw (moreL 0#32 a.data.toList))) ∧ w' = w) := sum_any a w hT (by omega)
  have h2 : Hid (Calls Tryd.prog 11 #[.int .u32 (iw (moreL 0#32 a.data.toList)), .string b] w fun e w' => e = .returned (.int .u32 (iw (moreL 0#32 (a.data.toList ++ b.data.toList)))) ∧ w' = w) := by
    have := more_any (moreL 0#32 a.data.toList) b w hT (by omega)
    rwa [moreL_append] at this
  have h3 : Hid (Calls Tryd.prog 11 #[.int .u32 (iw (moreL 0#32 (a.data.toList ++ b.data.toList))), .string c] w fun e w' => e = .returned (.int .u32 (iw (moreL 0#32 (a.data.toList ++ b.data.toList ++ c.data.toList)))) ∧ w' = w) := by
    have := more_any (moreL 0#32 (a.data.toList ++ b.data.toList)) c w hT (by omega)
    rwa [moreL_append] at this
  have h4 : Hid (Calls Tryd.prog 11 #[.int .u32 (iw (moreL 0#32 a.data.toList)), .string (b ++ c)] w fun e w' => e = .returned (.int .u32 (iw (moreL 0#32 (a.data.toList ++ b.data.toList ++ c.data.toList)))) ∧ w' = w) := by
    have := more_any (moreL 0#32 a.data.toList) (b ++ c) w hT (by rw [str_add_size]; omega)
    rwa [moreL_append, str_add, ← List.append_assoc] at this
  have h5 : Hid (Calls Tryd.prog 9 #[.string (a ++ b ++ c)] w fun e w' => e = .returned (.int .u32 (iw (moreL 0#32 (a.data.toList ++ b.data.toList ++ c.data.toList)))) ∧ w' = w) := by
    have := sum_any (a ++ b ++ c) w hT (by rw [str_add_size, str_add_size]; omega)
    rwa [str_add, str_add] at this
  have h6 : Hid (Calls Tryd.prog 13 #[] w fun e w' => e = .returned (.bool true) ∧ w' = w) := does_any w hT
  generalize iw (moreL 0#32 (a.data.toList ++ b.data.toList ++ c.data.toList)) = R at *
  generalize iw (moreL 0#32 (a.data.toList ++ b.data.toList)) = P at *
  generalize iw (moreL 0#32 a.data.toList) = Q at *
  go_enter Tryd.func7, Tryd.ntmps7
  go_wp2_with fail
  refine h1.out.mono ?_
  rintro e w' ⟨rfl, rfl⟩
  go_wp2_with fail
  refine h2.out.mono ?_
  rintro e w' ⟨rfl, rfl⟩
  go_wp2_with fail
  refine h3.out.mono ?_
  rintro e w' ⟨rfl, rfl⟩
  go_wp2_with fail
  refine h4.out.mono ?_
  rintro e w' ⟨rfl, rfl⟩
  go_wp2_with fail
  refine h4.out.mono ?_
  rintro e w' ⟨rfl, rfl⟩
  go_wp2_with fail
  refine h5.out.mono ?_
  rintro e w' ⟨rfl, rfl⟩
  go_wp2_with fail
  refine h6.out.mono ?_
  rintro e w' ⟨rfl, rfl⟩
  go_wp2
  go_ret
  exact ⟨rfl, Below.refl _ _⟩
theorem go_any (a b : W32) (s : ByteArray) (w : World) (hT : Tab4 w) :
    Calls Tryd.prog 6 #[.int .u32 (iw a), .int .u32 (iw b), .string s] w fun e w' => e = .returned (.bool true) ∧ Below w.heap.size w w' := by
  by_cases hs : s.size ≤ 20000
  rotate_left
  · go_enter Tryd.func6, Tryd.ntmps6
    go_wp2
    go_ret
    exact ⟨rfl, Below.refl _ _⟩
  have h1 : Hid (Calls Tryd.prog 11 #[.int .u32 (iw a), .string s] w fun e w' => e = .returned (.int .u32 (iw (moreL a s.data.toList))) ∧ w' = w) := more_any a s w hT (by omega)
  have h2 : Hid (Calls Tryd.prog 11 #[.int .u32 (iw b), .string s] w fun e w' => e = .returned (.int .u32 (iw (moreL b s.data.toList))) ∧ w' = w) := more_any b s w hT (by omega)
  have h3 : Hid (Calls Tryd.prog 11 #[.int .u32 (iw a), .string ⟨#[]⟩] w fun e w' => e = .returned (.int .u32 (iw a)) ∧ w' = w) := by
    have := moreS_any a [] w hT (by decide)
    rwa [moreL_nil] at this
  have h4 : Hid (Calls Tryd.prog 13 #[] w fun e w' => e = .returned (.bool true) ∧ w' = w) := does_any w hT
  have hq : Hid ((iw (moreL a s.data.toList) == iw (moreL b s.data.toList)) = (iw a == iw b)) := by
    show _ = _
    rw [Bool.eq_iff_iff, beq_iff_eq, beq_iff_eq]
    exact ⟨fun h => congrArg iw ((moreL_inj _).1 (iw_inj h)), fun h => congrArg iw ((moreL_inj _).2 (iw_inj h))⟩
  generalize iw (moreL a s.data.toList) = P at *
  generalize iw (moreL b s.data.toList) = Q at *
  generalize iw a = A at *
  generalize iw b = B at *
  go_enter Tryd.func6, Tryd.ntmps6
  go_wp2_with fail
  refine h1.out.mono ?_
  rintro e w' ⟨rfl, rfl⟩
  go_wp2_with fail
  refine h2.out.mono ?_
  rintro e w' ⟨rfl, rfl⟩
  go_wp2_with fail
  refine h3.out.mono ?_
  rintro e w' ⟨rfl, rfl⟩
  go_wp2_with fail
  refine h4.out.mono ?_
  rintro e w' ⟨rfl, rfl⟩
  go_wp2
  go_ret
  exact ⟨rfl, Below.refl _ _⟩
theorem go_int (a b : Int) (s : ByteArray) (w : World) (hT : Tab4 w) (ha : 0 ≤ a ∧ a ≤ 4294967295) (hb : 0 ≤ b ∧ b ≤ 4294967295) :
    Calls Tryd.prog 6 #[.int .u32 a, .int .u32 b, .string s] w fun e w' => e = .returned (.bool true) ∧ Below w.heap.size w w' := by
  obtain ⟨x, rfl⟩ := word_of ha.1 (by omega)
  obtain ⟨y, rfl⟩ := word_of hb.1 (by omega)
  exact go_any x y s w hT
end Go.Proofs.YtfjclbgcbpjdcaaDoor
