/- The law of RingNew over its contracts. No condition. -/
import Derived.Test.YteibkoaepgdmlaaDoorRingNewS
import Derived.Test.YteibkoaepgdmlaaDoorRingLaw0
import Derived.Test.YteibkoaepgdmlaaDoorIntRow
set_option linter.unusedSimpArgs false
set_option linter.unusedVariables false
namespace Go.Proofs.YteibkoaepgdmlaaDoor.Rg
open Go.RowKit Go.Proofs.YteibkoaepgdmlaaDoor.Mk Go.Proofs.YteibkoaepgdmlaaDoor.Rw Go.Proofs.YteibkoaepgdmlaaDoor.Tk Go.Proofs.YteibkoaepgdmlaaDoor.Iz

set_option maxRecDepth 100000 in
set_option maxHeartbeats 4000000 in
theorem law_RingNew (n0 : Int) (n1 : Int) (w : World) (h0 : (Lit.int .i64 n0).wf = true) (h1 : (Lit.int .i64 n1).wf = true) :
    Calls Tryd.prog 5 #[.int .i64 n0, .int .i64 n1] w fun e w' => e = .returned (.bool true) ∧ Below w.heap.size w w' := by
  have Wn0 := Lib.hid h0
  clear h0
  have Wn1 := Lib.hid h1
  clear h1
  have B := Lib.hid (show Base w w from Below.refl _ _)
  have hj := Nat.le_trans (newL_len n0 n1) (by omega : 40 ≤ 1048576)
  go_enter Tryd.func5, Tryd.ntmps5
  go_wp2_with fail
  refine (spec_ringNew n0 n1 _).mono ?_
  rintro e wx3 ⟨qa1, qc2, rfl, ho, hb⟩
  replace B := Lib.hid (B.out.below hb)
  have O4 := Lib.hid (show OwnI wx3 w.heap.size wx3.heap.size qa1 (newL n0 n1) from ⟨ho, Nat.le_refl _⟩)
  have Z5 := hb.size
  clear hb ho
  have hb := step_alloc wx3 (.cells #[.int .i64 (newN n0 n1), .slice qa1 (newL n0 n1).length qc2, .int .i64 (newC n0 n1)] 40)
  replace B := Lib.hid (B.out.below hb)
  replace O4 := Lib.hid (O4.out.below hb)
  clear hb
  have Z6 : wx3.heap.size < (wx3.alloc (.cells #[.int .i64 (newN n0 n1), .slice qa1 (newL n0 n1).length qc2, .int .i64 (newC n0 n1)] 40)).heap.size := by simp
  have yZ6 : (wx3.alloc (.cells #[.int .i64 (newN n0 n1), .slice qa1 (newL n0 n1).length qc2, .int .i64 (newC n0 n1)] 40)).heap.size ≤ wx3.heap.size + 1 := by simp
  have V7 := Lib.hid (Var3.new wx3 (.int .i64 (newN n0 n1)) (.slice qa1 (newL n0 n1).length qc2) (.int .i64 (newC n0 n1)) 40)
  obtain ⟨V7_c0, V7_c1, V7_c2, V7_l⟩ := V7.out
  go_wp2_with fail
  clear V7_c0 V7_c1 V7_c2 V7_l
  refine (impl_ringNew n0 n1 _).mono ?_
  rintro e wx10 ⟨qa8, qc9, rfl, ho, hb⟩
  replace B := Lib.hid (B.out.below hb)
  replace O4 := Lib.hid (O4.out.below hb)
  replace V7 := Lib.hid (V7.out.below hb)
  have O11 := Lib.hid (show OwnI wx10 (wx3.alloc (.cells #[.int .i64 (newN n0 n1), .slice qa1 (newL n0 n1).length qc2, .int .i64 (newC n0 n1)] 40)).heap.size wx10.heap.size qa8 (newL n0 n1) from ⟨ho, Nat.le_refl _⟩)
  have Z12 := hb.size
  clear hb ho
  simp at Z12
  have hb := step_alloc wx10 (.cells #[.int .i64 (newN n0 n1), .slice qa8 (newL n0 n1).length qc9, .int .i64 (newC n0 n1)] 40)
  replace B := Lib.hid (B.out.below hb)
  replace O4 := Lib.hid (O4.out.below hb)
  replace V7 := Lib.hid (V7.out.below hb)
  replace O11 := Lib.hid (O11.out.below hb)
  clear hb
  have Z13 : wx10.heap.size < (wx10.alloc (.cells #[.int .i64 (newN n0 n1), .slice qa8 (newL n0 n1).length qc9, .int .i64 (newC n0 n1)] 40)).heap.size := by simp
  have yZ13 : (wx10.alloc (.cells #[.int .i64 (newN n0 n1), .slice qa8 (newL n0 n1).length qc9, .int .i64 (newC n0 n1)] 40)).heap.size ≤ wx10.heap.size + 1 := by simp
  have V14 := Lib.hid (Var3.new wx10 (.int .i64 (newN n0 n1)) (.slice qa8 (newL n0 n1).length qc9) (.int .i64 (newC n0 n1)) 40)
  obtain ⟨V7_c0, V7_c1, V7_c2, V7_l⟩ := V7.out
  obtain ⟨V14_c0, V14_c1, V14_c2, V14_l⟩ := V14.out
  go_wp2_with fail
  clear V7_c0 V7_c1 V7_c2 V7_l V14_c0 V14_c1 V14_c2 V14_l
  refine (eqRingOut (newN n0 n1) (newC n0 n1) qa8 qa1 qc9 qc2 (newL n0 n1) _ (by unfold maxLen; omega) O11.out.at_ O4.out.at_).mono ?_
  rintro e wx15 ⟨rfl, hb⟩
  replace B := Lib.hid (B.out.below hb)
  replace O4 := Lib.hid (O4.out.below hb)
  replace V7 := Lib.hid (V7.out.below hb)
  replace O11 := Lib.hid (O11.out.below hb)
  replace V14 := Lib.hid (V14.out.below hb)
  have Z16 := hb.size
  clear hb
  simp at Z16
  obtain ⟨V7_c0, V7_c1, V7_c2, V7_l⟩ := V7.out
  obtain ⟨V14_c0, V14_c1, V14_c2, V14_l⟩ := V14.out
  go_wp2_with fail
  clear V7_c0 V7_c1 V7_c2 V7_l V14_c0 V14_c1 V14_c2 V14_l
  refine (markRingOut (wx3.alloc (.cells #[.int .i64 (newN n0 n1), .slice qa1 (newL n0 n1).length qc2, .int .i64 (newC n0 n1)] 40)).heap.size wx10.heap.size (newN n0 n1) (newC n0 n1) qa8 qc9 (newL n0 n1) (1) _ (by omega) (by omega) (by omega) O11.out).mono ?_
  rintro e wx17 ⟨rfl, ho, hw⟩
  replace B := Lib.hid (B.out.within hw (by omega))
  replace O4 := Lib.hid (O4.out.within hw (by omega))
  replace V7 := Lib.hid (V7.out.within hw (by omega))
  replace V14 := Lib.hid (V14.out.within hw (by omega))
  replace O11 := Lib.hid (show OwnI wx17 (wx3.alloc (.cells #[.int .i64 (newN n0 n1), .slice qa1 (newL n0 n1).length qc2, .int .i64 (newC n0 n1)] 40)).heap.size wx10.heap.size qa8 (markL (1) (newL n0 n1).length) from ⟨ho, Nat.le_trans O11.out.2 hw.size⟩)
  have Z18 := hw.size
  clear hw ho
  obtain ⟨V7_c0, V7_c1, V7_c2, V7_l⟩ := V7.out
  obtain ⟨V14_c0, V14_c1, V14_c2, V14_l⟩ := V14.out
  go_wp2_with fail
  clear V7_c0 V7_c1 V7_c2 V7_l V14_c0 V14_c1 V14_c2 V14_l
  refine (heldRingOut (newN n0 n1) (newC n0 n1) qa8 qc9 (newL n0 n1).length (1) _ (by omega) (by omega) (by omega) O11.out.at_).mono ?_
  rintro e wx19 ⟨rfl, hb⟩
  replace B := Lib.hid (B.out.below hb)
  replace O4 := Lib.hid (O4.out.below hb)
  replace V7 := Lib.hid (V7.out.below hb)
  replace O11 := Lib.hid (O11.out.below hb)
  replace V14 := Lib.hid (V14.out.below hb)
  have Z20 := hb.size
  clear hb
  obtain ⟨V7_c0, V7_c1, V7_c2, V7_l⟩ := V7.out
  obtain ⟨V14_c0, V14_c1, V14_c2, V14_l⟩ := V14.out
  go_wp2_with fail
  clear V7_c0 V7_c1 V7_c2 V7_l V14_c0 V14_c1 V14_c2 V14_l
  refine (impl_ringNew n0 n1 _).mono ?_
  rintro e wx23 ⟨qa21, qc22, rfl, ho, hb⟩
  replace B := Lib.hid (B.out.below hb)
  replace O4 := Lib.hid (O4.out.below hb)
  replace V7 := Lib.hid (V7.out.below hb)
  replace O11 := Lib.hid (O11.out.below hb)
  replace V14 := Lib.hid (V14.out.below hb)
  have O24 := Lib.hid (show OwnI wx23 wx19.heap.size wx23.heap.size qa21 (newL n0 n1) from ⟨ho, Nat.le_refl _⟩)
  have Z25 := hb.size
  clear hb ho
  have hb := step_alloc wx23 (.cells #[.int .i64 (newN n0 n1), .slice qa21 (newL n0 n1).length qc22, .int .i64 (newC n0 n1)] 40)
  replace B := Lib.hid (B.out.below hb)
  replace O4 := Lib.hid (O4.out.below hb)
  replace V7 := Lib.hid (V7.out.below hb)
  replace O11 := Lib.hid (O11.out.below hb)
  replace V14 := Lib.hid (V14.out.below hb)
  replace O24 := Lib.hid (O24.out.below hb)
  clear hb
  have Z26 : wx23.heap.size < (wx23.alloc (.cells #[.int .i64 (newN n0 n1), .slice qa21 (newL n0 n1).length qc22, .int .i64 (newC n0 n1)] 40)).heap.size := by simp
  have yZ26 : (wx23.alloc (.cells #[.int .i64 (newN n0 n1), .slice qa21 (newL n0 n1).length qc22, .int .i64 (newC n0 n1)] 40)).heap.size ≤ wx23.heap.size + 1 := by simp
  have V27 := Lib.hid (Var3.new wx23 (.int .i64 (newN n0 n1)) (.slice qa21 (newL n0 n1).length qc22) (.int .i64 (newC n0 n1)) 40)
  obtain ⟨V7_c0, V7_c1, V7_c2, V7_l⟩ := V7.out
  obtain ⟨V14_c0, V14_c1, V14_c2, V14_l⟩ := V14.out
  obtain ⟨V27_c0, V27_c1, V27_c2, V27_l⟩ := V27.out
  go_wp2_with fail
  clear V7_c0 V7_c1 V7_c2 V7_l V14_c0 V14_c1 V14_c2 V14_l V27_c0 V27_c1 V27_c2 V27_l
  refine (eqRingOut (newN n0 n1) (newC n0 n1) qa21 qa1 qc22 qc2 (newL n0 n1) _ (by unfold maxLen; omega) O24.out.at_ O4.out.at_).mono ?_
  rintro e wx28 ⟨rfl, hb⟩
  replace B := Lib.hid (B.out.below hb)
  replace O4 := Lib.hid (O4.out.below hb)
  replace V7 := Lib.hid (V7.out.below hb)
  replace O11 := Lib.hid (O11.out.below hb)
  replace V14 := Lib.hid (V14.out.below hb)
  replace O24 := Lib.hid (O24.out.below hb)
  replace V27 := Lib.hid (V27.out.below hb)
  have Z29 := hb.size
  clear hb
  simp at Z29
  obtain ⟨V7_c0, V7_c1, V7_c2, V7_l⟩ := V7.out
  obtain ⟨V14_c0, V14_c1, V14_c2, V14_l⟩ := V14.out
  obtain ⟨V27_c0, V27_c1, V27_c2, V27_l⟩ := V27.out
  go_wp2_with fail
  clear V7_c0 V7_c1 V7_c2 V7_l V14_c0 V14_c1 V14_c2 V14_l V27_c0 V27_c1 V27_c2 V27_l
  refine (heldRingOut (newN n0 n1) (newC n0 n1) qa8 qc9 (newL n0 n1).length (1) _ (by omega) (by omega) (by omega) O11.out.at_).mono ?_
  rintro e wx30 ⟨rfl, hb⟩
  replace B := Lib.hid (B.out.below hb)
  replace O4 := Lib.hid (O4.out.below hb)
  replace V7 := Lib.hid (V7.out.below hb)
  replace O11 := Lib.hid (O11.out.below hb)
  replace V14 := Lib.hid (V14.out.below hb)
  replace O24 := Lib.hid (O24.out.below hb)
  replace V27 := Lib.hid (V27.out.below hb)
  have Z31 := hb.size
  clear hb
  obtain ⟨V7_c0, V7_c1, V7_c2, V7_l⟩ := V7.out
  obtain ⟨V14_c0, V14_c1, V14_c2, V14_l⟩ := V14.out
  obtain ⟨V27_c0, V27_c1, V27_c2, V27_l⟩ := V27.out
  go_wp2
  go_ret
  exact ⟨rfl, B.out⟩
end Go.Proofs.YteibkoaepgdmlaaDoor.Rg
