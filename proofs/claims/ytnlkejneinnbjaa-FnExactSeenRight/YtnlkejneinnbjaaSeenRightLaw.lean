/- The law of SeenRight over its contracts. No condition. -/
import Derived.Test.YtnlkejneinnbjaaMarkLaw
import Derived.Test.YtnlkejneinnbjaaMarkOpen
import Derived.Test.YtnlkejneinnbjaaSeenI
import Derived.Test.YtnlkejneinnbjaaSeenS
namespace Go.Proofs.Ytnlkejneinnbjaa.Mk
open Go.RowKit

set_option maxRecDepth 100000 in
set_option maxHeartbeats 1000000 in
theorem law_SeenRight (a0 : Option Addr) (cap0 : Nat) (l0 : List (Int × Int)) (w : World) (h0 : CameMarks w a0 l0) :
    Calls Try.prog 4 #[.slice a0 l0.length cap0] w fun e w' => e = .returned (.bool true) ∧ Below w.heap.size w w' := by
  obtain ⟨hm, hl, _⟩ := h0
  have H := Lib.hid hm
  clear hm
  by_cases hs : l0.length ≤ 1048576
  · have hs' : (l0.length : Int) ≤ 1048576 := by omega
    go_enter Try.func4, Try.ntmps4
    go_wp2_with (go_at_call 36; refine (szMarkS_yes _ _ _ _ _ (by omega) (by omega) hs').mono ?_; rintro e w' ⟨rfl, rfl⟩)
    refine (toMarkS a0 cap0 l0 _ hs H.out).mono ?_
    rintro e w1 ⟨a1, c1, rfl, ho1, hb1⟩
    have O1 := Lib.hid ho1
    have B1 := Lib.hid hb1
    clear ho1 hb1
    go_wp2_with fail
    refine (spec_seenRight a1 c1 l0 _ hl O1.out.at_).mono ?_
    rintro e w2 ⟨rfl, hb2⟩
    have B2 := Lib.hid (B1.out.trans (hb2.mono B1.out.size))
    clear hb2
    go_wp2_with fail
    refine (toMarkS a0 cap0 l0 _ hs (H.out.mono B2.out)).mono ?_
    rintro e w3 ⟨a3, c3, rfl, ho3, hb3⟩
    have O3 := Lib.hid ho3
    have B3 := Lib.hid (B2.out.trans (hb3.mono B2.out.size))
    clear ho3 hb3
    go_wp2_with fail
    refine (seenRight a3 c3 l0 _ hl O3.out.at_).mono ?_
    rintro e w4 ⟨rfl, hb4⟩
    have O4 := Lib.hid (O3.out.same (Same.of_below hb4 (Nat.le_refl _)))
    have B4 := Lib.hid (B3.out.trans (hb4.mono B3.out.size))
    have Z4 := hb4.size
    clear hb4
    go_wp2_with fail
    refine (toMarkS a0 cap0 l0 _ hs (H.out.mono B4.out)).mono ?_
    rintro e w5 ⟨a5, c5, rfl, ho5, hb5⟩
    have O5 := Lib.hid (O4.out.same (Same.of_below hb5 Z4))
    have O6 := Lib.hid ho5
    have B5 := Lib.hid (B4.out.trans (hb5.mono B4.out.size))
    clear ho5 hb5
    go_wp2_with fail
    refine (eqMarkS a3 a5 c3 c5 l0 _ hl O5.out.at_ O6.out.at_).mono ?_
    rintro e w6 ⟨rfl, hb6⟩
    have B6 := Lib.hid (B5.out.trans (hb6.mono B5.out.size))
    clear hb6
    go_wp2
    go_ret
    exact ⟨rfl, B6.out⟩
  · have hs' : (1048576 : Int) < (l0.length : Int) := by omega
    go_enter Try.func4, Try.ntmps4
    go_wp2_with (go_at_call 36; refine (szMarkS_no _ _ _ _ _ hl (by omega) (by omega) hs').mono ?_; rintro e w' ⟨rfl, rfl⟩)
    go_ret
    exact ⟨rfl, Below.refl _ _⟩
end Go.Proofs.Ytnlkejneinnbjaa.Mk
