/- The law of SeenRead over its contracts. No condition. -/
import Derived.Test.YtflhiopdfkggdaaOutLaw
import Derived.Test.YtflhiopdfkggdaaMarkOpen
import Derived.Test.YtflhiopdfkggdaaSeenRead
import Derived.Test.YtflhiopdfkggdaaSeenReadS
set_option linter.unusedSimpArgs false
set_option linter.unusedVariables false
namespace Go.Proofs.Ytflhiopdfkggdaa.Mk
open Go.RowKit

set_option maxRecDepth 100000 in
set_option maxHeartbeats 4000000 in
theorem law_SeenRead (s0 : ByteArray) (w : World) (h0 : s0.size ≤ maxLen) :
    Calls Try.prog 6 #[.string s0] w fun e w' => e = .returned (.bool true) ∧ Below w.heap.size w w' := by
  have HS := Lib.hid h0
  unfold maxLen at h0
  by_cases hn0 : 1048576 < s0.size
  ·
    go_enter Try.func6, Try.ntmps6
    go_wp2
    go_ret
    exact ⟨rfl, Below.refl _ _⟩
  have hs0 : s0.size ≤ 1048576 := by omega
  have hd0 : decide (1048576 < (s0.size : Int)) = false := by simp; omega
  clear hn0
  have B := Lib.hid (show Base w w from Below.refl _ _)
  have hj := Nat.le_trans (readL_length s0) (by omega : 5 ≤ 1048576)
  go_enter Try.func6, Try.ntmps6
  go_wp2_with fail
  refine (spec_seenRead s0 _ HS.out).mono ?_
  rintro e wx3 ⟨qa1, qc2, rfl, ho, hb⟩
  replace B := Lib.hid (B.out.below hb)
  have O4 := Lib.hid (show OwnI wx3 w.heap.size wx3.heap.size qa1 (readL s0) from ⟨ho, Nat.le_refl _⟩)
  have Z5 := hb.size
  clear hb ho
  have hb := step_alloc wx3 (.cells #[.slice qa1 (readL s0).length qc2, .int .i64 (readC s0)] 32)
  replace B := Lib.hid (B.out.below hb)
  replace O4 := Lib.hid (O4.out.below hb)
  clear hb
  have Z6 : wx3.heap.size < (wx3.alloc (.cells #[.slice qa1 (readL s0).length qc2, .int .i64 (readC s0)] 32)).heap.size := by simp
  have yZ6 : (wx3.alloc (.cells #[.slice qa1 (readL s0).length qc2, .int .i64 (readC s0)] 32)).heap.size ≤ wx3.heap.size + 1 := by simp
  have V7 := Lib.hid (Var2.new wx3 (.slice qa1 (readL s0).length qc2) (.int .i64 (readC s0)) 32)
  obtain ⟨V7_c0, V7_c1, V7_l⟩ := V7.out
  go_wp2_with fail
  clear V7_c0 V7_c1 V7_l
  refine (impl_seenRead s0 _ HS.out).mono ?_
  rintro e wx10 ⟨qa8, qc9, rfl, ho, hb⟩
  replace B := Lib.hid (B.out.below hb)
  replace O4 := Lib.hid (O4.out.below hb)
  replace V7 := Lib.hid (V7.out.below hb)
  have O11 := Lib.hid (show OwnI wx10 (wx3.alloc (.cells #[.slice qa1 (readL s0).length qc2, .int .i64 (readC s0)] 32)).heap.size wx10.heap.size qa8 (readL s0) from ⟨ho, Nat.le_refl _⟩)
  have Z12 := hb.size
  clear hb ho
  simp at Z12
  have hb := step_alloc wx10 (.cells #[.slice qa8 (readL s0).length qc9, .int .i64 (readC s0)] 32)
  replace B := Lib.hid (B.out.below hb)
  replace O4 := Lib.hid (O4.out.below hb)
  replace V7 := Lib.hid (V7.out.below hb)
  replace O11 := Lib.hid (O11.out.below hb)
  clear hb
  have Z13 : wx10.heap.size < (wx10.alloc (.cells #[.slice qa8 (readL s0).length qc9, .int .i64 (readC s0)] 32)).heap.size := by simp
  have yZ13 : (wx10.alloc (.cells #[.slice qa8 (readL s0).length qc9, .int .i64 (readC s0)] 32)).heap.size ≤ wx10.heap.size + 1 := by simp
  have V14 := Lib.hid (Var2.new wx10 (.slice qa8 (readL s0).length qc9) (.int .i64 (readC s0)) 32)
  obtain ⟨V7_c0, V7_c1, V7_l⟩ := V7.out
  obtain ⟨V14_c0, V14_c1, V14_l⟩ := V14.out
  go_wp2_with fail
  clear V7_c0 V7_c1 V7_l V14_c0 V14_c1 V14_l
  refine (eqSeenOut qa8 qa1 qc9 qc2 (readL s0) (readC s0) _ (by unfold maxLen; omega) O11.out.at_ O4.out.at_).mono ?_
  rintro e wx15 ⟨rfl, hb⟩
  replace B := Lib.hid (B.out.below hb)
  replace O4 := Lib.hid (O4.out.below hb)
  replace V7 := Lib.hid (V7.out.below hb)
  replace O11 := Lib.hid (O11.out.below hb)
  replace V14 := Lib.hid (V14.out.below hb)
  have Z16 := hb.size
  clear hb
  simp at Z16
  obtain ⟨V7_c0, V7_c1, V7_l⟩ := V7.out
  obtain ⟨V14_c0, V14_c1, V14_l⟩ := V14.out
  go_wp2_with fail
  clear V7_c0 V7_c1 V7_l V14_c0 V14_c1 V14_l
  refine (markSeenOut (wx3.alloc (.cells #[.slice qa1 (readL s0).length qc2, .int .i64 (readC s0)] 32)).heap.size wx10.heap.size qa8 qc9 (readL s0) (readC s0) (1) _ (by omega) (by omega) (by omega) O11.out).mono ?_
  rintro e wx17 ⟨rfl, ho, hw⟩
  replace B := Lib.hid (B.out.within hw (by omega))
  replace O4 := Lib.hid (O4.out.within hw (by omega))
  replace V7 := Lib.hid (V7.out.within hw (by omega))
  replace V14 := Lib.hid (V14.out.within hw (by omega))
  replace O11 := Lib.hid (show OwnI wx17 (wx3.alloc (.cells #[.slice qa1 (readL s0).length qc2, .int .i64 (readC s0)] 32)).heap.size wx10.heap.size qa8 (markL (1) (readL s0).length) from ⟨ho, Nat.le_trans O11.out.2 hw.size⟩)
  have Z18 := hw.size
  clear hw ho
  obtain ⟨V7_c0, V7_c1, V7_l⟩ := V7.out
  obtain ⟨V14_c0, V14_c1, V14_l⟩ := V14.out
  go_wp2_with fail
  clear V7_c0 V7_c1 V7_l V14_c0 V14_c1 V14_l
  refine (heldSeenOut qa8 qc9 (readL s0).length (readC s0) (1) _ (by omega) (by omega) (by omega) O11.out.at_).mono ?_
  rintro e wx19 ⟨rfl, hb⟩
  replace B := Lib.hid (B.out.below hb)
  replace O4 := Lib.hid (O4.out.below hb)
  replace V7 := Lib.hid (V7.out.below hb)
  replace O11 := Lib.hid (O11.out.below hb)
  replace V14 := Lib.hid (V14.out.below hb)
  have Z20 := hb.size
  clear hb
  obtain ⟨V7_c0, V7_c1, V7_l⟩ := V7.out
  obtain ⟨V14_c0, V14_c1, V14_l⟩ := V14.out
  go_wp2_with fail
  clear V7_c0 V7_c1 V7_l V14_c0 V14_c1 V14_l
  refine (impl_seenRead s0 _ HS.out).mono ?_
  rintro e wx23 ⟨qa21, qc22, rfl, ho, hb⟩
  replace B := Lib.hid (B.out.below hb)
  replace O4 := Lib.hid (O4.out.below hb)
  replace V7 := Lib.hid (V7.out.below hb)
  replace O11 := Lib.hid (O11.out.below hb)
  replace V14 := Lib.hid (V14.out.below hb)
  have O24 := Lib.hid (show OwnI wx23 wx19.heap.size wx23.heap.size qa21 (readL s0) from ⟨ho, Nat.le_refl _⟩)
  have Z25 := hb.size
  clear hb ho
  have hb := step_alloc wx23 (.cells #[.slice qa21 (readL s0).length qc22, .int .i64 (readC s0)] 32)
  replace B := Lib.hid (B.out.below hb)
  replace O4 := Lib.hid (O4.out.below hb)
  replace V7 := Lib.hid (V7.out.below hb)
  replace O11 := Lib.hid (O11.out.below hb)
  replace V14 := Lib.hid (V14.out.below hb)
  replace O24 := Lib.hid (O24.out.below hb)
  clear hb
  have Z26 : wx23.heap.size < (wx23.alloc (.cells #[.slice qa21 (readL s0).length qc22, .int .i64 (readC s0)] 32)).heap.size := by simp
  have yZ26 : (wx23.alloc (.cells #[.slice qa21 (readL s0).length qc22, .int .i64 (readC s0)] 32)).heap.size ≤ wx23.heap.size + 1 := by simp
  have V27 := Lib.hid (Var2.new wx23 (.slice qa21 (readL s0).length qc22) (.int .i64 (readC s0)) 32)
  obtain ⟨V7_c0, V7_c1, V7_l⟩ := V7.out
  obtain ⟨V14_c0, V14_c1, V14_l⟩ := V14.out
  obtain ⟨V27_c0, V27_c1, V27_l⟩ := V27.out
  go_wp2_with fail
  clear V7_c0 V7_c1 V7_l V14_c0 V14_c1 V14_l V27_c0 V27_c1 V27_l
  refine (eqSeenOut qa21 qa1 qc22 qc2 (readL s0) (readC s0) _ (by unfold maxLen; omega) O24.out.at_ O4.out.at_).mono ?_
  rintro e wx28 ⟨rfl, hb⟩
  replace B := Lib.hid (B.out.below hb)
  replace O4 := Lib.hid (O4.out.below hb)
  replace V7 := Lib.hid (V7.out.below hb)
  replace O11 := Lib.hid (O11.out.below hb)
  replace V14 := Lib.hid (V14.out.below hb)
  replace O24 := Lib.hid (O24.out.below hb)
  replace V27 := Lib.hid (V27.out.below hb)
  have Z29 := hb.size
  clear hb
  simp at Z29
  obtain ⟨V7_c0, V7_c1, V7_l⟩ := V7.out
  obtain ⟨V14_c0, V14_c1, V14_l⟩ := V14.out
  obtain ⟨V27_c0, V27_c1, V27_l⟩ := V27.out
  go_wp2_with fail
  clear V7_c0 V7_c1 V7_l V14_c0 V14_c1 V14_l V27_c0 V27_c1 V27_l
  refine (heldSeenOut qa8 qc9 (readL s0).length (readC s0) (1) _ (by omega) (by omega) (by omega) O11.out.at_).mono ?_
  rintro e wx30 ⟨rfl, hb⟩
  replace B := Lib.hid (B.out.below hb)
  replace O4 := Lib.hid (O4.out.below hb)
  replace V7 := Lib.hid (V7.out.below hb)
  replace O11 := Lib.hid (O11.out.below hb)
  replace V14 := Lib.hid (V14.out.below hb)
  replace O24 := Lib.hid (O24.out.below hb)
  replace V27 := Lib.hid (V27.out.below hb)
  have Z31 := hb.size
  clear hb
  obtain ⟨V7_c0, V7_c1, V7_l⟩ := V7.out
  obtain ⟨V14_c0, V14_c1, V14_l⟩ := V14.out
  obtain ⟨V27_c0, V27_c1, V27_l⟩ := V27.out
  go_wp2
  go_ret
  exact ⟨rfl, B.out⟩
end Go.Proofs.Ytflhiopdfkggdaa.Mk
