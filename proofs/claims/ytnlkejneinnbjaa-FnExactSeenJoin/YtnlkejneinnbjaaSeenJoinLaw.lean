/- The law of SeenJoin over its contracts. No condition. -/
import Derived.Test.YtnlkejneinnbjaaOutLaw
import Derived.Test.YtnlkejneinnbjaaMarkOpen
import Derived.Test.YtnlkejneinnbjaaSeenJoin
import Derived.Test.YtnlkejneinnbjaaSeenJoinS
namespace Go.Proofs.Ytnlkejneinnbjaa.Mk
open Go.RowKit

set_option maxRecDepth 100000 in
set_option maxHeartbeats 4000000 in
theorem law_SeenJoin (a0 : Option Addr) (cap0 : Nat) (l0 : List (Int × Int)) (a1 : Option Addr) (cap1 : Nat) (l1 : List (Int × Int)) (w : World) (h0 : CameMarks w a0 l0) (h1 : CameMarks w a1 l1) :
    Calls Try.prog 7 #[.slice a0 l0.length cap0, .slice a1 l1.length cap1] w fun e w' => e = .returned (.bool true) ∧ Below w.heap.size w w' := by
  obtain ⟨hm0, hl0, _⟩ := h0
  have H0 := Lib.hid (InAt.of hm0)
  clear hm0
  unfold maxLen at hl0
  obtain ⟨hm1, hl1, _⟩ := h1
  have H1 := Lib.hid (InAt.of hm1)
  clear hm1
  unfold maxLen at hl1
  by_cases hn0 : 1048576 < (l0.length : Int)
  ·
    go_enter Try.func7, Try.ntmps7
    go_wp2_with fail
    refine (szMarkS_no _ _ _ _ _ (by unfold maxLen; omega) (by omega) (by omega) hn0).mono ?_
    rintro e w' ⟨rfl, rfl⟩
    go_wp2
    go_ret
    exact ⟨rfl, Below.refl _ _⟩
  have hs0 : (l0.length : Int) ≤ 1048576 := by omega
  clear hn0
  by_cases hn1 : 1048576 - (l0.length : Int) < (l1.length : Int)
  ·
    go_enter Try.func7, Try.ntmps7
    go_wp2_with fail
    refine (szMarkS_yes _ _ _ _ _ (by omega) (by omega) (by omega)).mono ?_
    rintro e w' ⟨rfl, rfl⟩
    go_wp2_with fail
    refine (szMarkS_no _ _ _ _ _ (by unfold maxLen; omega) (by omega) (by omega) hn1).mono ?_
    rintro e w' ⟨rfl, rfl⟩
    go_wp2
    go_ret
    exact ⟨rfl, Below.refl _ _⟩
  have hs1 : (l1.length : Int) ≤ 1048576 - (l0.length : Int) := by omega
  clear hn1
  have B := Lib.hid (show Base w w from Below.refl _ _)
  have hj := Nat.le_trans (joinV_length l0 l1) (by omega : 5 ≤ 1048576)
  go_enter Try.func7, Try.ntmps7
  go_wp2_with fail
  refine (szMarkS_yes _ _ _ _ _ (by omega) (by omega) (by omega)).mono ?_
  rintro e w' ⟨rfl, rfl⟩
  go_wp2_with fail
  refine (szMarkS_yes _ _ _ _ _ (by omega) (by omega) (by omega)).mono ?_
  rintro e w' ⟨rfl, rfl⟩
  go_wp2_with fail
  refine (toMarkS a0 cap0 (l0) _ (by omega) H0.out.at_).mono ?_
  rintro e wx3 ⟨qa1, qc2, rfl, ho, hb⟩
  replace B := Lib.hid (B.out.below hb)
  replace H0 := Lib.hid (H0.out.below hb)
  replace H1 := Lib.hid (H1.out.below hb)
  have O4 := Lib.hid (show OwnI wx3 w.heap.size wx3.heap.size qa1 (l0) from ⟨ho, Nat.le_refl _⟩)
  have Z5 := hb.size
  clear hb ho
  go_wp2_with fail
  refine (toMarkS a1 cap1 (l1) _ (by omega) H1.out.at_).mono ?_
  rintro e wx8 ⟨qa6, qc7, rfl, ho, hb⟩
  replace B := Lib.hid (B.out.below hb)
  replace H0 := Lib.hid (H0.out.below hb)
  replace H1 := Lib.hid (H1.out.below hb)
  replace O4 := Lib.hid (O4.out.below hb)
  have O9 := Lib.hid (show OwnI wx8 wx3.heap.size wx8.heap.size qa6 (l1) from ⟨ho, Nat.le_refl _⟩)
  have Z10 := hb.size
  clear hb ho
  go_wp2_with fail
  refine (spec_seenJoin qa1 qa6 qc2 qc7 (l0) (l1) _ (by unfold maxLen; omega) (by unfold maxLen; omega) O4.out.at_ O9.out.at_).mono ?_
  rintro e wx13 ⟨qa11, qc12, rfl, ho, hb⟩
  replace B := Lib.hid (B.out.below hb)
  replace H0 := Lib.hid (H0.out.below hb)
  replace H1 := Lib.hid (H1.out.below hb)
  replace O4 := Lib.hid (O4.out.below hb)
  replace O9 := Lib.hid (O9.out.below hb)
  have O14 := Lib.hid (show OwnI wx13 wx8.heap.size wx13.heap.size qa11 (joinV (l0) (l1)) from ⟨ho, Nat.le_refl _⟩)
  have Z15 := hb.size
  clear hb ho
  go_wp2_with fail
  refine (toMarkS a0 cap0 (l0) _ (by omega) H0.out.at_).mono ?_
  rintro e wx18 ⟨qa16, qc17, rfl, ho, hb⟩
  replace B := Lib.hid (B.out.below hb)
  replace H0 := Lib.hid (H0.out.below hb)
  replace H1 := Lib.hid (H1.out.below hb)
  replace O4 := Lib.hid (O4.out.below hb)
  replace O9 := Lib.hid (O9.out.below hb)
  replace O14 := Lib.hid (O14.out.below hb)
  have O19 := Lib.hid (show OwnI wx18 wx13.heap.size wx18.heap.size qa16 (l0) from ⟨ho, Nat.le_refl _⟩)
  have Z20 := hb.size
  clear hb ho
  go_wp2_with fail
  refine (toMarkS a1 cap1 (l1) _ (by omega) H1.out.at_).mono ?_
  rintro e wx23 ⟨qa21, qc22, rfl, ho, hb⟩
  replace B := Lib.hid (B.out.below hb)
  replace H0 := Lib.hid (H0.out.below hb)
  replace H1 := Lib.hid (H1.out.below hb)
  replace O4 := Lib.hid (O4.out.below hb)
  replace O9 := Lib.hid (O9.out.below hb)
  replace O14 := Lib.hid (O14.out.below hb)
  replace O19 := Lib.hid (O19.out.below hb)
  have O24 := Lib.hid (show OwnI wx23 wx18.heap.size wx23.heap.size qa21 (l1) from ⟨ho, Nat.le_refl _⟩)
  have Z25 := hb.size
  clear hb ho
  go_wp2_with fail
  refine (impl_seenJoin qa16 qa21 qc17 qc22 (l0) (l1) _ (by unfold maxLen; omega) (by unfold maxLen; omega) O19.out.at_ O24.out.at_).mono ?_
  rintro e wx28 ⟨qa26, qc27, rfl, ho, hb⟩
  replace B := Lib.hid (B.out.below hb)
  replace H0 := Lib.hid (H0.out.below hb)
  replace H1 := Lib.hid (H1.out.below hb)
  replace O4 := Lib.hid (O4.out.below hb)
  replace O9 := Lib.hid (O9.out.below hb)
  replace O14 := Lib.hid (O14.out.below hb)
  replace O19 := Lib.hid (O19.out.below hb)
  replace O24 := Lib.hid (O24.out.below hb)
  have O29 := Lib.hid (show OwnI wx28 wx23.heap.size wx28.heap.size qa26 (joinV (l0) (l1)) from ⟨ho, Nat.le_refl _⟩)
  have Z30 := hb.size
  clear hb ho
  go_wp2_with fail
  refine (eqMarkS qa26 qa11 qc27 qc12 (joinV (l0) (l1)) _ (by unfold maxLen; omega) O29.out.at_ O14.out.at_).mono ?_
  rintro e wx31 ⟨rfl, hb⟩
  replace B := Lib.hid (B.out.below hb)
  replace H0 := Lib.hid (H0.out.below hb)
  replace H1 := Lib.hid (H1.out.below hb)
  replace O4 := Lib.hid (O4.out.below hb)
  replace O9 := Lib.hid (O9.out.below hb)
  replace O14 := Lib.hid (O14.out.below hb)
  replace O19 := Lib.hid (O19.out.below hb)
  replace O24 := Lib.hid (O24.out.below hb)
  replace O29 := Lib.hid (O29.out.below hb)
  have Z32 := hb.size
  clear hb
  go_wp2_with fail
  refine (toMarkS a0 cap0 (l0) _ (by omega) H0.out.at_).mono ?_
  rintro e wx35 ⟨qa33, qc34, rfl, ho, hb⟩
  replace B := Lib.hid (B.out.below hb)
  replace H0 := Lib.hid (H0.out.below hb)
  replace H1 := Lib.hid (H1.out.below hb)
  replace O4 := Lib.hid (O4.out.below hb)
  replace O9 := Lib.hid (O9.out.below hb)
  replace O14 := Lib.hid (O14.out.below hb)
  replace O19 := Lib.hid (O19.out.below hb)
  replace O24 := Lib.hid (O24.out.below hb)
  replace O29 := Lib.hid (O29.out.below hb)
  have O36 := Lib.hid (show OwnI wx35 wx31.heap.size wx35.heap.size qa33 (l0) from ⟨ho, Nat.le_refl _⟩)
  have Z37 := hb.size
  clear hb ho
  go_wp2_with fail
  refine (eqMarkS qa16 qa33 qc17 qc34 (l0) _ (by unfold maxLen; omega) O19.out.at_ O36.out.at_).mono ?_
  rintro e wx38 ⟨rfl, hb⟩
  replace B := Lib.hid (B.out.below hb)
  replace H0 := Lib.hid (H0.out.below hb)
  replace H1 := Lib.hid (H1.out.below hb)
  replace O4 := Lib.hid (O4.out.below hb)
  replace O9 := Lib.hid (O9.out.below hb)
  replace O14 := Lib.hid (O14.out.below hb)
  replace O19 := Lib.hid (O19.out.below hb)
  replace O24 := Lib.hid (O24.out.below hb)
  replace O29 := Lib.hid (O29.out.below hb)
  replace O36 := Lib.hid (O36.out.below hb)
  have Z39 := hb.size
  clear hb
  go_wp2_with fail
  refine (toMarkS a1 cap1 (l1) _ (by omega) H1.out.at_).mono ?_
  rintro e wx42 ⟨qa40, qc41, rfl, ho, hb⟩
  replace B := Lib.hid (B.out.below hb)
  replace H0 := Lib.hid (H0.out.below hb)
  replace H1 := Lib.hid (H1.out.below hb)
  replace O4 := Lib.hid (O4.out.below hb)
  replace O9 := Lib.hid (O9.out.below hb)
  replace O14 := Lib.hid (O14.out.below hb)
  replace O19 := Lib.hid (O19.out.below hb)
  replace O24 := Lib.hid (O24.out.below hb)
  replace O29 := Lib.hid (O29.out.below hb)
  replace O36 := Lib.hid (O36.out.below hb)
  have O43 := Lib.hid (show OwnI wx42 wx38.heap.size wx42.heap.size qa40 (l1) from ⟨ho, Nat.le_refl _⟩)
  have Z44 := hb.size
  clear hb ho
  go_wp2_with fail
  refine (eqMarkS qa21 qa40 qc22 qc41 (l1) _ (by unfold maxLen; omega) O24.out.at_ O43.out.at_).mono ?_
  rintro e wx45 ⟨rfl, hb⟩
  replace B := Lib.hid (B.out.below hb)
  replace H0 := Lib.hid (H0.out.below hb)
  replace H1 := Lib.hid (H1.out.below hb)
  replace O4 := Lib.hid (O4.out.below hb)
  replace O9 := Lib.hid (O9.out.below hb)
  replace O14 := Lib.hid (O14.out.below hb)
  replace O19 := Lib.hid (O19.out.below hb)
  replace O24 := Lib.hid (O24.out.below hb)
  replace O29 := Lib.hid (O29.out.below hb)
  replace O36 := Lib.hid (O36.out.below hb)
  replace O43 := Lib.hid (O43.out.below hb)
  have Z46 := hb.size
  clear hb
  go_wp2_with fail
  refine (markMarkS wx13.heap.size wx18.heap.size qa16 qc17 (l0) (1) _ (by omega) (by omega) (by omega) O19.out.1).mono ?_
  rintro e wx47 ⟨rfl, ho, hw⟩
  replace B := Lib.hid (B.out.within hw (by omega))
  replace H0 := Lib.hid (H0.out.within hw (by omega))
  replace H1 := Lib.hid (H1.out.within hw (by omega))
  replace O4 := Lib.hid (O4.out.within hw (by omega))
  replace O9 := Lib.hid (O9.out.within hw (by omega))
  replace O14 := Lib.hid (O14.out.within hw (by omega))
  replace O24 := Lib.hid (O24.out.within hw (by omega))
  replace O29 := Lib.hid (O29.out.within hw (by omega))
  replace O36 := Lib.hid (O36.out.within hw (by omega))
  replace O43 := Lib.hid (O43.out.within hw (by omega))
  replace O19 := Lib.hid (show OwnI wx47 wx13.heap.size wx18.heap.size qa16 (markL (1) (l0).length) from ⟨ho, Nat.le_trans O19.out.2 hw.size⟩)
  have Z48 := hw.size
  clear hw ho
  go_wp2_with fail
  refine (markMarkS wx18.heap.size wx23.heap.size qa21 qc22 (l1) ((1 + 2 * ((l0).length : Int))) _ (by omega) (by omega) (by omega) O24.out.1).mono ?_
  rintro e wx49 ⟨rfl, ho, hw⟩
  replace B := Lib.hid (B.out.within hw (by omega))
  replace H0 := Lib.hid (H0.out.within hw (by omega))
  replace H1 := Lib.hid (H1.out.within hw (by omega))
  replace O4 := Lib.hid (O4.out.within hw (by omega))
  replace O9 := Lib.hid (O9.out.within hw (by omega))
  replace O14 := Lib.hid (O14.out.within hw (by omega))
  replace O19 := Lib.hid (O19.out.within hw (by omega))
  replace O29 := Lib.hid (O29.out.within hw (by omega))
  replace O36 := Lib.hid (O36.out.within hw (by omega))
  replace O43 := Lib.hid (O43.out.within hw (by omega))
  replace O24 := Lib.hid (show OwnI wx49 wx18.heap.size wx23.heap.size qa21 (markL ((1 + 2 * ((l0).length : Int))) (l1).length) from ⟨ho, Nat.le_trans O24.out.2 hw.size⟩)
  have Z50 := hw.size
  clear hw ho
  go_wp2_with fail
  refine (eqMarkS qa26 qa11 qc27 qc12 (joinV (l0) (l1)) _ (by unfold maxLen; omega) O29.out.at_ O14.out.at_).mono ?_
  rintro e wx51 ⟨rfl, hb⟩
  replace B := Lib.hid (B.out.below hb)
  replace H0 := Lib.hid (H0.out.below hb)
  replace H1 := Lib.hid (H1.out.below hb)
  replace O4 := Lib.hid (O4.out.below hb)
  replace O9 := Lib.hid (O9.out.below hb)
  replace O14 := Lib.hid (O14.out.below hb)
  replace O19 := Lib.hid (O19.out.below hb)
  replace O24 := Lib.hid (O24.out.below hb)
  replace O29 := Lib.hid (O29.out.below hb)
  replace O36 := Lib.hid (O36.out.below hb)
  replace O43 := Lib.hid (O43.out.below hb)
  have Z52 := hb.size
  clear hb
  go_wp2_with fail
  refine (markMarkS wx23.heap.size wx28.heap.size qa26 qc27 (joinV (l0) (l1)) (1) _ (by omega) (by omega) (by omega) O29.out.1).mono ?_
  rintro e wx53 ⟨rfl, ho, hw⟩
  replace B := Lib.hid (B.out.within hw (by omega))
  replace H0 := Lib.hid (H0.out.within hw (by omega))
  replace H1 := Lib.hid (H1.out.within hw (by omega))
  replace O4 := Lib.hid (O4.out.within hw (by omega))
  replace O9 := Lib.hid (O9.out.within hw (by omega))
  replace O14 := Lib.hid (O14.out.within hw (by omega))
  replace O19 := Lib.hid (O19.out.within hw (by omega))
  replace O24 := Lib.hid (O24.out.within hw (by omega))
  replace O36 := Lib.hid (O36.out.within hw (by omega))
  replace O43 := Lib.hid (O43.out.within hw (by omega))
  replace O29 := Lib.hid (show OwnI wx53 wx23.heap.size wx28.heap.size qa26 (markL (1) (joinV (l0) (l1)).length) from ⟨ho, Nat.le_trans O29.out.2 hw.size⟩)
  have Z54 := hw.size
  clear hw ho
  go_wp2_with fail
  refine (heldMarkS qa26 qc27 (joinV (l0) (l1)).length (1) _ (by omega) (by omega) (by omega) O29.out.at_).mono ?_
  rintro e w' ⟨rfl, rfl⟩
  go_wp2_with fail
  refine (toMarkS a0 cap0 (l0) _ (by omega) H0.out.at_).mono ?_
  rintro e wx57 ⟨qa55, qc56, rfl, ho, hb⟩
  replace B := Lib.hid (B.out.below hb)
  replace H0 := Lib.hid (H0.out.below hb)
  replace H1 := Lib.hid (H1.out.below hb)
  replace O4 := Lib.hid (O4.out.below hb)
  replace O9 := Lib.hid (O9.out.below hb)
  replace O14 := Lib.hid (O14.out.below hb)
  replace O19 := Lib.hid (O19.out.below hb)
  replace O24 := Lib.hid (O24.out.below hb)
  replace O29 := Lib.hid (O29.out.below hb)
  replace O36 := Lib.hid (O36.out.below hb)
  replace O43 := Lib.hid (O43.out.below hb)
  have O58 := Lib.hid (show OwnI wx57 wx53.heap.size wx57.heap.size qa55 (l0) from ⟨ho, Nat.le_refl _⟩)
  have Z59 := hb.size
  clear hb ho
  go_wp2_with fail
  refine (toMarkS a1 cap1 (l1) _ (by omega) H1.out.at_).mono ?_
  rintro e wx62 ⟨qa60, qc61, rfl, ho, hb⟩
  replace B := Lib.hid (B.out.below hb)
  replace H0 := Lib.hid (H0.out.below hb)
  replace H1 := Lib.hid (H1.out.below hb)
  replace O4 := Lib.hid (O4.out.below hb)
  replace O9 := Lib.hid (O9.out.below hb)
  replace O14 := Lib.hid (O14.out.below hb)
  replace O19 := Lib.hid (O19.out.below hb)
  replace O24 := Lib.hid (O24.out.below hb)
  replace O29 := Lib.hid (O29.out.below hb)
  replace O36 := Lib.hid (O36.out.below hb)
  replace O43 := Lib.hid (O43.out.below hb)
  replace O58 := Lib.hid (O58.out.below hb)
  have O63 := Lib.hid (show OwnI wx62 wx57.heap.size wx62.heap.size qa60 (l1) from ⟨ho, Nat.le_refl _⟩)
  have Z64 := hb.size
  clear hb ho
  go_wp2_with fail
  refine (impl_seenJoin qa55 qa60 qc56 qc61 (l0) (l1) _ (by unfold maxLen; omega) (by unfold maxLen; omega) O58.out.at_ O63.out.at_).mono ?_
  rintro e wx67 ⟨qa65, qc66, rfl, ho, hb⟩
  replace B := Lib.hid (B.out.below hb)
  replace H0 := Lib.hid (H0.out.below hb)
  replace H1 := Lib.hid (H1.out.below hb)
  replace O4 := Lib.hid (O4.out.below hb)
  replace O9 := Lib.hid (O9.out.below hb)
  replace O14 := Lib.hid (O14.out.below hb)
  replace O19 := Lib.hid (O19.out.below hb)
  replace O24 := Lib.hid (O24.out.below hb)
  replace O29 := Lib.hid (O29.out.below hb)
  replace O36 := Lib.hid (O36.out.below hb)
  replace O43 := Lib.hid (O43.out.below hb)
  replace O58 := Lib.hid (O58.out.below hb)
  replace O63 := Lib.hid (O63.out.below hb)
  have O68 := Lib.hid (show OwnI wx67 wx62.heap.size wx67.heap.size qa65 (joinV (l0) (l1)) from ⟨ho, Nat.le_refl _⟩)
  have Z69 := hb.size
  clear hb ho
  go_wp2_with fail
  refine (eqMarkS qa65 qa11 qc66 qc12 (joinV (l0) (l1)) _ (by unfold maxLen; omega) O68.out.at_ O14.out.at_).mono ?_
  rintro e wx70 ⟨rfl, hb⟩
  replace B := Lib.hid (B.out.below hb)
  replace H0 := Lib.hid (H0.out.below hb)
  replace H1 := Lib.hid (H1.out.below hb)
  replace O4 := Lib.hid (O4.out.below hb)
  replace O9 := Lib.hid (O9.out.below hb)
  replace O14 := Lib.hid (O14.out.below hb)
  replace O19 := Lib.hid (O19.out.below hb)
  replace O24 := Lib.hid (O24.out.below hb)
  replace O29 := Lib.hid (O29.out.below hb)
  replace O36 := Lib.hid (O36.out.below hb)
  replace O43 := Lib.hid (O43.out.below hb)
  replace O58 := Lib.hid (O58.out.below hb)
  replace O63 := Lib.hid (O63.out.below hb)
  replace O68 := Lib.hid (O68.out.below hb)
  have Z71 := hb.size
  clear hb
  go_wp2_with fail
  refine (heldMarkS qa26 qc27 (joinV (l0) (l1)).length (1) _ (by omega) (by omega) (by omega) O29.out.at_).mono ?_
  rintro e w' ⟨rfl, rfl⟩
  go_wp2
  go_ret
  exact ⟨rfl, B.out⟩
end Go.Proofs.Ytnlkejneinnbjaa.Mk
