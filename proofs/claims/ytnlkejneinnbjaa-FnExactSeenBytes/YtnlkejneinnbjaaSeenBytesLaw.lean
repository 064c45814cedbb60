/- The law of SeenBytes over its contracts. No condition. -/
import Derived.Test.YtnlkejneinnbjaaOutLaw
import Derived.Test.YtnlkejneinnbjaaMarkOpen
import Derived.Test.YtnlkejneinnbjaaSeenBytes
import Derived.Test.YtnlkejneinnbjaaSeenBytesS
namespace Go.Proofs.Ytnlkejneinnbjaa.Mk
open Go.RowKit

set_option maxRecDepth 100000 in
set_option maxHeartbeats 4000000 in
theorem law_SeenBytes (a0 : Option Addr) (cap0 : Nat) (l0 : List (Int × Int)) (w : World) (h0 : CameMarks w a0 l0) :
    Calls Try.prog 10 #[.slice a0 l0.length cap0] w fun e w' => e = .returned (.bool true) ∧ Below w.heap.size w w' := by
  obtain ⟨hm0, hl0, _⟩ := h0
  have H0 := Lib.hid (InAt.of hm0)
  clear hm0
  unfold maxLen at hl0
  by_cases hn0 : 1048576 < (l0.length : Int)
  ·
    go_enter Try.func10, Try.ntmps10
    go_wp2_with fail
    refine (szMarkS_no _ _ _ _ _ (by unfold maxLen; omega) (by omega) (by omega) hn0).mono ?_
    rintro e w' ⟨rfl, rfl⟩
    go_wp2
    go_ret
    exact ⟨rfl, Below.refl _ _⟩
  have hs0 : (l0.length : Int) ≤ 1048576 := by omega
  clear hn0
  have B := Lib.hid (show Base w w from Below.refl _ _)
  go_enter Try.func10, Try.ntmps10
  go_wp2_with fail
  refine (szMarkS_yes _ _ _ _ _ (by omega) (by omega) (by omega)).mono ?_
  rintro e w' ⟨rfl, rfl⟩
  go_wp2_with fail
  refine (toMarkS a0 cap0 (l0) _ (by omega) H0.out.at_).mono ?_
  rintro e wx3 ⟨qa1, qc2, rfl, ho, hb⟩
  replace B := Lib.hid (B.out.below hb)
  replace H0 := Lib.hid (H0.out.below hb)
  have O4 := Lib.hid (show OwnI wx3 w.heap.size wx3.heap.size qa1 (l0) from ⟨ho, Nat.le_refl _⟩)
  have Z5 := hb.size
  clear hb ho
  go_wp2_with fail
  refine (spec_seenBytes qa1 qc2 (l0) _ (by unfold maxLen; omega) O4.out.at_).mono ?_
  rintro e wx6 ⟨rfl, hb⟩
  replace B := Lib.hid (B.out.below hb)
  replace H0 := Lib.hid (H0.out.below hb)
  replace O4 := Lib.hid (O4.out.below hb)
  have Z7 := hb.size
  clear hb
  go_wp2_with fail
  refine (toMarkS a0 cap0 (l0) _ (by omega) H0.out.at_).mono ?_
  rintro e wx10 ⟨qa8, qc9, rfl, ho, hb⟩
  replace B := Lib.hid (B.out.below hb)
  replace H0 := Lib.hid (H0.out.below hb)
  replace O4 := Lib.hid (O4.out.below hb)
  have O11 := Lib.hid (show OwnI wx10 wx6.heap.size wx10.heap.size qa8 (l0) from ⟨ho, Nat.le_refl _⟩)
  have Z12 := hb.size
  clear hb ho
  go_wp2_with fail
  refine (impl_seenBytes qa8 qc9 (l0) _ (by unfold maxLen; omega) O11.out.at_).mono ?_
  rintro e wx13 ⟨rfl, hb⟩
  replace B := Lib.hid (B.out.below hb)
  replace H0 := Lib.hid (H0.out.below hb)
  replace O4 := Lib.hid (O4.out.below hb)
  replace O11 := Lib.hid (O11.out.below hb)
  have Z14 := hb.size
  clear hb
  go_wp2_with fail
  refine (toMarkS a0 cap0 (l0) _ (by omega) H0.out.at_).mono ?_
  rintro e wx17 ⟨qa15, qc16, rfl, ho, hb⟩
  replace B := Lib.hid (B.out.below hb)
  replace H0 := Lib.hid (H0.out.below hb)
  replace O4 := Lib.hid (O4.out.below hb)
  replace O11 := Lib.hid (O11.out.below hb)
  have O18 := Lib.hid (show OwnI wx17 wx13.heap.size wx17.heap.size qa15 (l0) from ⟨ho, Nat.le_refl _⟩)
  have Z19 := hb.size
  clear hb ho
  go_wp2_with fail
  refine (eqMarkS qa8 qa15 qc9 qc16 (l0) _ (by unfold maxLen; omega) O11.out.at_ O18.out.at_).mono ?_
  rintro e wx20 ⟨rfl, hb⟩
  replace B := Lib.hid (B.out.below hb)
  replace H0 := Lib.hid (H0.out.below hb)
  replace O4 := Lib.hid (O4.out.below hb)
  replace O11 := Lib.hid (O11.out.below hb)
  replace O18 := Lib.hid (O18.out.below hb)
  have Z21 := hb.size
  clear hb
  go_wp2
  go_ret
  exact ⟨rfl, B.out⟩
end Go.Proofs.Ytnlkejneinnbjaa.Mk
