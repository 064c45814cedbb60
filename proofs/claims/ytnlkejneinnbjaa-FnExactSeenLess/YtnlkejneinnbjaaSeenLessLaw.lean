/- The law of SeenLess over its contracts. No condition. -/
import Derived.Test.YtnlkejneinnbjaaOutLaw
import Derived.Test.YtnlkejneinnbjaaMarkOpen
import Derived.Test.YtnlkejneinnbjaaSeenJoin
import Derived.Test.YtnlkejneinnbjaaSeenJoinS
namespace Go.Proofs.Ytnlkejneinnbjaa.Mk
open Go.RowKit

set_option maxRecDepth 100000 in
set_option maxHeartbeats 4000000 in
theorem law_SeenLess (a0 : Option Addr) (cap0 : Nat) (l0 : List (Int × Int)) (a1 : Option Addr) (cap1 : Nat) (l1 : List (Int × Int)) (w : World) (h0 : CameMarks w a0 l0) (h1 : CameMarks w a1 l1) :
    Calls Try.prog 8 #[.slice a0 l0.length cap0, .slice a1 l1.length cap1] w fun e w' => e = .returned (.bool true) ∧ Below w.heap.size w w' := by
  obtain ⟨hm0, hl0, _⟩ := h0
  have H0 := Lib.hid (InAt.of hm0)
  clear hm0
  unfold maxLen at hl0
  obtain ⟨hm1, hl1, _⟩ := h1
  have H1 := Lib.hid (InAt.of hm1)
  clear hm1
  unfold maxLen at hl1
  by_cases hn0 : 1048576 < (l0.length : Int)
  ·
    go_enter Try.func8, Try.ntmps8
    go_wp2_with fail
    refine (szMarkS_no _ _ _ _ _ (by unfold maxLen; omega) (by omega) (by omega) hn0).mono ?_
    rintro e w' ⟨rfl, rfl⟩
    go_wp2
    go_ret
    exact ⟨rfl, Below.refl _ _⟩
  have hs0 : (l0.length : Int) ≤ 1048576 := by omega
  clear hn0
  by_cases hn1 : 1048576 - (l0.length : Int) < (l1.length : Int)
  ·
    go_enter Try.func8, Try.ntmps8
    go_wp2_with fail
    refine (szMarkS_yes _ _ _ _ _ (by omega) (by omega) (by omega)).mono ?_
    rintro e w' ⟨rfl, rfl⟩
    go_wp2_with fail
    refine (szMarkS_no _ _ _ _ _ (by unfold maxLen; omega) (by omega) (by omega) hn1).mono ?_
    rintro e w' ⟨rfl, rfl⟩
    go_wp2
    go_ret
    exact ⟨rfl, Below.refl _ _⟩
  have hs1 : (l1.length : Int) ≤ 1048576 - (l0.length : Int) := by omega
  clear hn1
  have B := Lib.hid (show Base w w from Below.refl _ _)
  go_enter Try.func8, Try.ntmps8
  go_wp2_with fail
  refine (szMarkS_yes _ _ _ _ _ (by omega) (by omega) (by omega)).mono ?_
  rintro e w' ⟨rfl, rfl⟩
  go_wp2_with fail
  refine (szMarkS_yes _ _ _ _ _ (by omega) (by omega) (by omega)).mono ?_
  rintro e w' ⟨rfl, rfl⟩
  go_wp2_with fail
  refine (toMarkS a0 cap0 (l0) _ (by omega) H0.out.at_).mono ?_
  rintro e wx3 ⟨qa1, qc2, rfl, ho, hb⟩
  replace B := Lib.hid (B.out.below hb)
  replace H0 := Lib.hid (H0.out.below hb)
  replace H1 := Lib.hid (H1.out.below hb)
  have O4 := Lib.hid (show OwnI wx3 w.heap.size wx3.heap.size qa1 (l0) from ⟨ho, Nat.le_refl _⟩)
  have Z5 := hb.size
  clear hb ho
  go_wp2_with fail
  refine (toMarkS a1 cap1 (l1) _ (by omega) H1.out.at_).mono ?_
  rintro e wx8 ⟨qa6, qc7, rfl, ho, hb⟩
  replace B := Lib.hid (B.out.below hb)
  replace H0 := Lib.hid (H0.out.below hb)
  replace H1 := Lib.hid (H1.out.below hb)
  replace O4 := Lib.hid (O4.out.below hb)
  have O9 := Lib.hid (show OwnI wx8 wx3.heap.size wx8.heap.size qa6 (l1) from ⟨ho, Nat.le_refl _⟩)
  have Z10 := hb.size
  clear hb ho
  go_wp2_with fail
  refine (spec_seenLess qa1 qa6 qc2 qc7 (l0) (l1) _ (by unfold maxLen; omega) (by unfold maxLen; omega) O4.out.at_ O9.out.at_).mono ?_
  rintro e wx11 ⟨rfl, hb⟩
  replace B := Lib.hid (B.out.below hb)
  replace H0 := Lib.hid (H0.out.below hb)
  replace H1 := Lib.hid (H1.out.below hb)
  replace O4 := Lib.hid (O4.out.below hb)
  replace O9 := Lib.hid (O9.out.below hb)
  have Z12 := hb.size
  clear hb
  go_wp2_with fail
  refine (toMarkS a0 cap0 (l0) _ (by omega) H0.out.at_).mono ?_
  rintro e wx15 ⟨qa13, qc14, rfl, ho, hb⟩
  replace B := Lib.hid (B.out.below hb)
  replace H0 := Lib.hid (H0.out.below hb)
  replace H1 := Lib.hid (H1.out.below hb)
  replace O4 := Lib.hid (O4.out.below hb)
  replace O9 := Lib.hid (O9.out.below hb)
  have O16 := Lib.hid (show OwnI wx15 wx11.heap.size wx15.heap.size qa13 (l0) from ⟨ho, Nat.le_refl _⟩)
  have Z17 := hb.size
  clear hb ho
  go_wp2_with fail
  refine (toMarkS a1 cap1 (l1) _ (by omega) H1.out.at_).mono ?_
  rintro e wx20 ⟨qa18, qc19, rfl, ho, hb⟩
  replace B := Lib.hid (B.out.below hb)
  replace H0 := Lib.hid (H0.out.below hb)
  replace H1 := Lib.hid (H1.out.below hb)
  replace O4 := Lib.hid (O4.out.below hb)
  replace O9 := Lib.hid (O9.out.below hb)
  replace O16 := Lib.hid (O16.out.below hb)
  have O21 := Lib.hid (show OwnI wx20 wx15.heap.size wx20.heap.size qa18 (l1) from ⟨ho, Nat.le_refl _⟩)
  have Z22 := hb.size
  clear hb ho
  go_wp2_with fail
  refine (impl_seenLess qa13 qa18 qc14 qc19 (l0) (l1) _ (by unfold maxLen; omega) (by unfold maxLen; omega) O16.out.at_ O21.out.at_).mono ?_
  rintro e wx23 ⟨rfl, hb⟩
  replace B := Lib.hid (B.out.below hb)
  replace H0 := Lib.hid (H0.out.below hb)
  replace H1 := Lib.hid (H1.out.below hb)
  replace O4 := Lib.hid (O4.out.below hb)
  replace O9 := Lib.hid (O9.out.below hb)
  replace O16 := Lib.hid (O16.out.below hb)
  replace O21 := Lib.hid (O21.out.below hb)
  have Z24 := hb.size
  clear hb
  go_wp2_with fail
  refine (toMarkS a0 cap0 (l0) _ (by omega) H0.out.at_).mono ?_
  rintro e wx27 ⟨qa25, qc26, rfl, ho, hb⟩
  replace B := Lib.hid (B.out.below hb)
  replace H0 := Lib.hid (H0.out.below hb)
  replace H1 := Lib.hid (H1.out.below hb)
  replace O4 := Lib.hid (O4.out.below hb)
  replace O9 := Lib.hid (O9.out.below hb)
  replace O16 := Lib.hid (O16.out.below hb)
  replace O21 := Lib.hid (O21.out.below hb)
  have O28 := Lib.hid (show OwnI wx27 wx23.heap.size wx27.heap.size qa25 (l0) from ⟨ho, Nat.le_refl _⟩)
  have Z29 := hb.size
  clear hb ho
  go_wp2_with fail
  refine (eqMarkS qa13 qa25 qc14 qc26 (l0) _ (by unfold maxLen; omega) O16.out.at_ O28.out.at_).mono ?_
  rintro e wx30 ⟨rfl, hb⟩
  replace B := Lib.hid (B.out.below hb)
  replace H0 := Lib.hid (H0.out.below hb)
  replace H1 := Lib.hid (H1.out.below hb)
  replace O4 := Lib.hid (O4.out.below hb)
  replace O9 := Lib.hid (O9.out.below hb)
  replace O16 := Lib.hid (O16.out.below hb)
  replace O21 := Lib.hid (O21.out.below hb)
  replace O28 := Lib.hid (O28.out.below hb)
  have Z31 := hb.size
  clear hb
  go_wp2_with fail
  refine (toMarkS a1 cap1 (l1) _ (by omega) H1.out.at_).mono ?_
  rintro e wx34 ⟨qa32, qc33, rfl, ho, hb⟩
  replace B := Lib.hid (B.out.below hb)
  replace H0 := Lib.hid (H0.out.below hb)
  replace H1 := Lib.hid (H1.out.below hb)
  replace O4 := Lib.hid (O4.out.below hb)
  replace O9 := Lib.hid (O9.out.below hb)
  replace O16 := Lib.hid (O16.out.below hb)
  replace O21 := Lib.hid (O21.out.below hb)
  replace O28 := Lib.hid (O28.out.below hb)
  have O35 := Lib.hid (show OwnI wx34 wx30.heap.size wx34.heap.size qa32 (l1) from ⟨ho, Nat.le_refl _⟩)
  have Z36 := hb.size
  clear hb ho
  go_wp2_with fail
  refine (eqMarkS qa18 qa32 qc19 qc33 (l1) _ (by unfold maxLen; omega) O21.out.at_ O35.out.at_).mono ?_
  rintro e wx37 ⟨rfl, hb⟩
  replace B := Lib.hid (B.out.below hb)
  replace H0 := Lib.hid (H0.out.below hb)
  replace H1 := Lib.hid (H1.out.below hb)
  replace O4 := Lib.hid (O4.out.below hb)
  replace O9 := Lib.hid (O9.out.below hb)
  replace O16 := Lib.hid (O16.out.below hb)
  replace O21 := Lib.hid (O21.out.below hb)
  replace O28 := Lib.hid (O28.out.below hb)
  replace O35 := Lib.hid (O35.out.below hb)
  have Z38 := hb.size
  clear hb
  go_wp2
  go_ret
  exact ⟨rfl, B.out⟩
end Go.Proofs.Ytnlkejneinnbjaa.Mk
