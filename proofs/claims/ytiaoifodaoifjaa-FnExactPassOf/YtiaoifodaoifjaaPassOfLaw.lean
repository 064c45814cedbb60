/- The law of PassOf over its contracts. No condition. -/
import Derived.Test.YtiaoifodaoifjaaOutLaw
import Derived.Test.YtiaoifodaoifjaaMarkOpen
import Derived.Test.YtiaoifodaoifjaaPassOfS
import Derived.Test.YtiaoifodaoifjaaPassOfI
set_option linter.unusedSimpArgs false
set_option linter.unusedVariables false
namespace Go.Proofs.Ytiaoifodaoifjaa.Sb
open Go.RowKit Go.Proofs.Ytiaoifodaoifjaa.Mk

set_option maxRecDepth 100000 in
set_option maxHeartbeats 4000000 in
theorem law_PassOf (s0 : ByteArray) (a1 : Option Addr) (cap1 : Nat) (l1 : List (Int × Int)) (w : World) (h0 : s0.size ≤ maxLen) (h1 : CameMarks w a1 l1) :
    Calls Try.prog 3 #[.string s0, .slice a1 l1.length cap1] w fun e w' => e = .returned (.bool true) ∧ Below w.heap.size w w' := by
  have HS0 := Lib.hid h0
  unfold maxLen at h0
  obtain ⟨hm1, hl1, _⟩ := h1
  have H1 := Lib.hid (InAt.of hm1)
  clear hm1
  unfold maxLen at hl1
  have B := Lib.hid (show Base w w from Below.refl _ _)
  by_cases hlong0 : 1048576 < s0.size
  · go_enter Try.func3, Try.ntmps3
    go_wp2
    go_ret
    exact ⟨rfl, Below.refl _ _⟩
  have hlong0b : decide ((1048576 : Int) < (s0.size : Int)) = false := decide_eq_false (by omega)
  go_enter Try.func3, Try.ntmps3
  go_wp2_with fail
  by_cases hm1 : 1048576 < ((l1).length : Int)
  · refine (szMarkS_no _ _ _ _ _ (by unfold maxLen; omega) (by omega) (by omega) hm1).mono ?_
    rintro e w' ⟨rfl, rfl⟩
    go_wp2
    go_ret
    exact ⟨rfl, B.out⟩
  refine (szMarkS_yes _ _ _ _ _ (by omega) (by omega) (by omega)).mono ?_
  rintro e w' ⟨rfl, rfl⟩
  go_wp2_with fail
  refine (toMarkS a1 cap1 (l1) _ (by omega) H1.out.at_).mono ?_
  rintro e wx4 ⟨qa2, qc3, rfl, ho, hb⟩
  replace B := Lib.hid (B.out.below hb)
  replace H1 := Lib.hid (H1.out.below hb)
  have O5 := Lib.hid (show OwnI wx4 w.heap.size wx4.heap.size qa2 (l1) from ⟨ho, Nat.le_refl _⟩)
  have Z6 := hb.size
  clear hb ho
  go_wp2_with fail
  refine (spec_passOf s0 qa2 qc3 (l1) _ HS0.out (by unfold maxLen; omega) O5.out.at_).mono ?_
  rintro e wx7 ⟨rfl, hb⟩
  replace B := Lib.hid (B.out.below hb)
  replace H1 := Lib.hid (H1.out.below hb)
  replace O5 := Lib.hid (O5.out.below hb)
  have Z8 := hb.size
  clear hb
  go_wp2_with fail
  refine (toMarkS a1 cap1 (l1) _ (by omega) H1.out.at_).mono ?_
  rintro e wx11 ⟨qa9, qc10, rfl, ho, hb⟩
  replace B := Lib.hid (B.out.below hb)
  replace H1 := Lib.hid (H1.out.below hb)
  replace O5 := Lib.hid (O5.out.below hb)
  have O12 := Lib.hid (show OwnI wx11 wx7.heap.size wx11.heap.size qa9 (l1) from ⟨ho, Nat.le_refl _⟩)
  have Z13 := hb.size
  clear hb ho
  go_wp2_with fail
  refine (impl_passOf s0 qa9 qc10 (l1) _ HS0.out (by unfold maxLen; omega) O12.out.at_).mono ?_
  rintro e wx14 ⟨rfl, hb⟩
  replace B := Lib.hid (B.out.below hb)
  replace H1 := Lib.hid (H1.out.below hb)
  replace O5 := Lib.hid (O5.out.below hb)
  replace O12 := Lib.hid (O12.out.below hb)
  have Z15 := hb.size
  clear hb
  go_wp2_with fail
  refine (toMarkS a1 cap1 (l1) _ (by omega) H1.out.at_).mono ?_
  rintro e wx18 ⟨qa16, qc17, rfl, ho, hb⟩
  replace B := Lib.hid (B.out.below hb)
  replace H1 := Lib.hid (H1.out.below hb)
  replace O5 := Lib.hid (O5.out.below hb)
  replace O12 := Lib.hid (O12.out.below hb)
  have O19 := Lib.hid (show OwnI wx18 wx14.heap.size wx18.heap.size qa16 (l1) from ⟨ho, Nat.le_refl _⟩)
  have Z20 := hb.size
  clear hb ho
  go_wp2_with fail
  refine (eqMarkS qa9 qa16 qc10 qc17 (l1) _ (by unfold maxLen; omega) O12.out.at_ O19.out.at_).mono ?_
  rintro e wx21 ⟨rfl, hb⟩
  replace B := Lib.hid (B.out.below hb)
  replace H1 := Lib.hid (H1.out.below hb)
  replace O5 := Lib.hid (O5.out.below hb)
  replace O12 := Lib.hid (O12.out.below hb)
  replace O19 := Lib.hid (O19.out.below hb)
  have Z22 := hb.size
  clear hb
  go_wp2
  go_ret
  exact ⟨rfl, B.out⟩
end Go.Proofs.Ytiaoifodaoifjaa.Sb
