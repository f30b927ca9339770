/- The walk of the law WordsPut: the bytes of any number of any size, and of any text, are the document's. -/
import Derived.Test.YthefmkmgiblngaaDoorWe
import Derived.Test.YthefmkmgiblngaaDoorRa
namespace Go.Proofs.YthefmkmgiblngaaDoor
open Go.RowKit

set_option maxRecDepth 100000 in
set_option maxHeartbeats 800000 in
theorem putlaw_walk (n size : Int) (s : ByteArray) (w : World) (hT : Tab w) (hn : n ≤ 9223372036854775807) (hs : s.size ≤ 140737488351232) :
    Calls Tryd.prog 3 #[.int .i64 n, .int .i64 size, .string s] w fun e w' => e = .returned (.bool true) ∧ Below w.heap.size w w' := by
  by_cases hbig : s.size ≤ 70000
  · have hnl : ¬ (70000 : Int) < (s.size : Int) := by omega
    clear hbig
    have hv : ∃ (a : ByteArray) (k : Int), putTV s = .tuple #[.string a, .int .i64 k] := by
      by_cases h : s.size ≤ 65535
      · exact ⟨_, _, putTV_yes h⟩
      · exact ⟨_, _, putTV_no (by omega)⟩
    obtain ⟨a, k, hv⟩ := hv
    go_enter Tryd.func3, Tryd.ntmps3
    go_wp2_with fail
    refine (putText_any s _ hT hs).mono ?_
    rintro e w1 ⟨rfl, b1⟩
    have T1 := hT.below b1
    go_wp2_with fail
    refine (rputText_any s _ hs).mono ?_
    rintro e w2 ⟨rfl, b2⟩
    have T2 := T1.below b2
    go_wp2_with fail
    refine (put_any n size _ T2 hn).mono ?_
    rintro e w3 ⟨rfl, b3⟩
    have T3 := T2.below b3
    go_wp2_with fail
    refine (rput_any n size _ hn).mono ?_
    rintro e w4 ⟨rfl, b4⟩
    have T4 := T3.below b4
    generalize S (putL n size) = p at *
    go_wp2_with fail
    refine (does_any _ T4).mono ?_
    rintro e w5 ⟨rfl, b5⟩
    go_wp2
    go_ret
    have s1 := b1.size
    have s2 := b2.size
    have s3 := b3.size
    have s4 := b4.size
    exact ⟨rfl, (((b1.trans (b2.mono s1)).trans (b3.mono (by omega))).trans (b4.mono (by omega))).trans (b5.mono (by omega))⟩
  · have hnl : (70000 : Int) < (s.size : Int) := by omega
    clear hbig
    go_enter Tryd.func3, Tryd.ntmps3
    go_wp2
    go_ret
    exact ⟨rfl, Below.refl _ _⟩
end Go.Proofs.YthefmkmgiblngaaDoor
