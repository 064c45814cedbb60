/- The law of RingRight over its contracts. No condition. -/
import Derived.Test.YteibkoaepgdmlaaDoorRingRightI
import Derived.Test.YteibkoaepgdmlaaDoorRingRightS
import Derived.Test.YteibkoaepgdmlaaDoorRingLaw0
import Derived.Test.YteibkoaepgdmlaaDoorRingOpen
set_option linter.unusedSimpArgs false
set_option linter.unusedVariables false
namespace Go.Proofs.YteibkoaepgdmlaaDoor.Rg
open Go.RowKit Go.Proofs.YteibkoaepgdmlaaDoor.Mk Go.Proofs.YteibkoaepgdmlaaDoor.Rw Go.Proofs.YteibkoaepgdmlaaDoor.Tk Go.Proofs.YteibkoaepgdmlaaDoor.Iz

set_option maxRecDepth 100000 in
set_option maxHeartbeats 4000000 in
theorem law_RingRight (n0 : Int) (a0 : Option Addr) (cap0 : Nat) (l0 : List (Int × Int)) (w : World) (h0 : CameRing w n0 a0 l0) :
    Calls Tryd.prog 4 #[rv n0 a0 l0.length cap0] w fun e w' => e = .returned (.bool true) ∧ Below w.heap.size w w' := by
  obtain ⟨hm0, hl0, hnw0⟩ := h0
  have H0 := Lib.hid (InAt.of hm0)
  have HF := Lib.hid hnw0
  clear hm0 hnw0
  unfold maxLen at hl0
  unfold rv
  by_cases hn0 : 1048576 < (l0.length : Int)
  · have hb1 := Lib.hid (step_alloc w (.cells #[.int .i64 n0, .slice a0 l0.length cap0] 50))
    go_enter Tryd.func4, Tryd.ntmps4
    go_wp2_with fail
    refine (szRing_no n0 a0 l0.length cap0 1048576 _ (by unfold maxLen; omega) (by omega) (by omega) hn0).mono ?_
    rintro e w1 ⟨rfl, hb⟩
    have HB := Lib.hid (hb1.out.trans (hb.mono hb1.out.size))
    clear hb hb1
    go_wp2
    go_ret
    exact ⟨rfl, HB.out⟩
  have hs0 : (l0.length : Int) ≤ 1048576 := by omega
  clear hn0
  have B := Lib.hid (show Base w w from Below.refl _ _)
  go_enter Tryd.func4, Tryd.ntmps4
  have hb := step_alloc w (.cells #[.int .i64 n0, .slice a0 l0.length cap0] 50)
  replace B := Lib.hid (B.out.below hb)
  replace H0 := Lib.hid (H0.out.below hb)
  clear hb
  have Z1 : w.heap.size < (w.alloc (.cells #[.int .i64 n0, .slice a0 l0.length cap0] 50)).heap.size := by simp
  have yZ1 : (w.alloc (.cells #[.int .i64 n0, .slice a0 l0.length cap0] 50)).heap.size ≤ w.heap.size + 1 := by simp
  have V2 := Lib.hid (Var2.new w (.int .i64 n0) (.slice a0 l0.length cap0) 50)
  obtain ⟨V2_c0, V2_c1, V2_l⟩ := V2.out
  go_wp2_with fail
  clear V2_c0 V2_c1 V2_l
  refine (szRing_yes (n0) a0 (l0).length cap0 (1048576) _ (by omega) (by omega) (by omega)).mono ?_
  rintro e wx3 ⟨rfl, hb⟩
  replace B := Lib.hid (B.out.below hb)
  replace H0 := Lib.hid (H0.out.below hb)
  replace V2 := Lib.hid (V2.out.below hb)
  have Z4 := hb.size
  clear hb
  simp at Z4
  obtain ⟨V2_c0, V2_c1, V2_l⟩ := V2.out
  go_wp2_with fail
  clear V2_c0 V2_c1 V2_l
  refine (toRing (n0) a0 cap0 (l0) _ (by omega) H0.out.at_).mono ?_
  rintro e wx7 ⟨qa5, qc6, rfl, ho, hb⟩
  unfold rv
  replace B := Lib.hid (B.out.below hb)
  replace H0 := Lib.hid (H0.out.below hb)
  replace V2 := Lib.hid (V2.out.below hb)
  have O8 := Lib.hid (show OwnI wx7 wx3.heap.size wx7.heap.size qa5 (l0) from ⟨ho, Nat.le_refl _⟩)
  have Z9 := hb.size
  clear hb ho
  obtain ⟨V2_c0, V2_c1, V2_l⟩ := V2.out
  go_wp2_with fail
  clear V2_c0 V2_c1 V2_l
  refine (spec_ringRight (n0) qa5 qc6 (l0) _ (by unfold maxLen; omega) O8.out.at_).mono ?_
  rintro e wx10 ⟨rfl, hb⟩
  replace B := Lib.hid (B.out.below hb)
  replace H0 := Lib.hid (H0.out.below hb)
  replace V2 := Lib.hid (V2.out.below hb)
  replace O8 := Lib.hid (O8.out.below hb)
  have Z11 := hb.size
  clear hb
  obtain ⟨V2_c0, V2_c1, V2_l⟩ := V2.out
  go_wp2_with fail
  clear V2_c0 V2_c1 V2_l
  refine (toRing (n0) a0 cap0 (l0) _ (by omega) H0.out.at_).mono ?_
  rintro e wx14 ⟨qa12, qc13, rfl, ho, hb⟩
  unfold rv
  replace B := Lib.hid (B.out.below hb)
  replace H0 := Lib.hid (H0.out.below hb)
  replace V2 := Lib.hid (V2.out.below hb)
  replace O8 := Lib.hid (O8.out.below hb)
  have O15 := Lib.hid (show OwnI wx14 wx10.heap.size wx14.heap.size qa12 (l0) from ⟨ho, Nat.le_refl _⟩)
  have Z16 := hb.size
  clear hb ho
  have hb := step_alloc wx14 (.cells #[.int .i64 (n0), .slice qa12 (l0).length qc13] 27)
  replace B := Lib.hid (B.out.below hb)
  replace H0 := Lib.hid (H0.out.below hb)
  replace V2 := Lib.hid (V2.out.below hb)
  replace O8 := Lib.hid (O8.out.below hb)
  replace O15 := Lib.hid (O15.out.below hb)
  clear hb
  have Z17 : wx14.heap.size < (wx14.alloc (.cells #[.int .i64 (n0), .slice qa12 (l0).length qc13] 27)).heap.size := by simp
  have yZ17 : (wx14.alloc (.cells #[.int .i64 (n0), .slice qa12 (l0).length qc13] 27)).heap.size ≤ wx14.heap.size + 1 := by simp
  have V18 := Lib.hid (Var2.new wx14 (.int .i64 (n0)) (.slice qa12 (l0).length qc13) 27)
  obtain ⟨V2_c0, V2_c1, V2_l⟩ := V2.out
  obtain ⟨V18_c0, V18_c1, V18_l⟩ := V18.out
  go_wp2_with fail
  clear V2_c0 V2_c1 V2_l V18_c0 V18_c1 V18_l
  refine (impl_ringRight (n0) qa12 qc13 (l0) _ (by unfold maxLen; omega) O15.out.at_).mono ?_
  rintro e wx19 ⟨rfl, hb⟩
  replace B := Lib.hid (B.out.below hb)
  replace H0 := Lib.hid (H0.out.below hb)
  replace V2 := Lib.hid (V2.out.below hb)
  replace O8 := Lib.hid (O8.out.below hb)
  replace O15 := Lib.hid (O15.out.below hb)
  replace V18 := Lib.hid (V18.out.below hb)
  have Z20 := hb.size
  clear hb
  simp at Z20
  obtain ⟨V2_c0, V2_c1, V2_l⟩ := V2.out
  obtain ⟨V18_c0, V18_c1, V18_l⟩ := V18.out
  go_wp2_with fail
  clear V2_c0 V2_c1 V2_l V18_c0 V18_c1 V18_l
  have hb := step_drew wx19
  replace B := Lib.hid (B.out.below hb)
  replace H0 := Lib.hid (H0.out.below hb)
  replace V2 := Lib.hid (V2.out.below hb)
  replace O8 := Lib.hid (O8.out.below hb)
  replace O15 := Lib.hid (O15.out.below hb)
  replace V18 := Lib.hid (V18.out.below hb)
  clear hb
  refine wp_region_held_drew (S := (fun w' => w'.cell? ⟨wx14.heap.size, 0, none⟩ = some (.int .i64 (n0)) ∧ w'.cell? ⟨wx14.heap.size, 1, none⟩ = some (.slice qa12 (l0).length qc13) ∧ w'.cell? ⟨w.heap.size, 0, none⟩ = some (.int .i64 n0) ∧ w'.cell? ⟨w.heap.size, 1, none⟩ = some (.slice a0 l0.length cap0))) (by kernel_rfl) (by exact ⟨V18.out.c0, V18.out.c1, V2.out.c0, V2.out.c1⟩) (fun hHeld => ?_)
  have Z21 : wx19.heap.size ≤ wx19.drew.heap.size := Nat.le_refl _
  generalize wx19.drew = wd22 at Z21 hHeld B H0 V2 O8 O15 V18 ⊢
  refine wpAnyH_take (i := 0) (v := ?_) rfl (by kernel_rfl) (by kernel_rfl) (by kernel_rfl) (fun _ _ _ h => h) (Or.inl ⟨by rfl, fun w hSw => by (try dsimp only at hSw); go_simp; (try with_reducible rfl)⟩) (by assumption) ?_
  try simp only [Act.put, List.setIfInBounds_toArray, List.set_cons_zero, List.set_cons_succ, List.getElem_toArray, List.getElem_cons_zero, List.getElem_cons_succ]
  refine wpAnyH_take (i := 1) (v := ?_) rfl (by kernel_rfl) (by kernel_rfl) (by kernel_rfl) (fun _ _ _ h => h) (Or.inl ⟨by rfl, fun w hSw => by (try dsimp only at hSw); go_simp; (try with_reducible rfl)⟩) (by assumption) ?_
  try simp only [Act.put, List.setIfInBounds_toArray, List.set_cons_zero, List.set_cons_succ, List.getElem_toArray, List.getElem_cons_zero, List.getElem_cons_succ]
  refine wpAnyH_ready (rs := [2]) (by kernel_rfl) (by simp) ?_
  refine AllReadyH.cons rfl (fun K hK => ?_) AllReadyH.nil
  go_simp
  refine (toRing (n0) a0 cap0 (l0) _ (by omega) H0.out.at_).mono ?_
  rintro e wx25 ⟨qa23, qc24, rfl, ho, hb⟩
  unfold rv
  replace B := Lib.hid (B.out.below hb)
  replace H0 := Lib.hid (H0.out.below hb)
  replace V2 := Lib.hid (V2.out.below hb)
  replace O8 := Lib.hid (O8.out.below hb)
  replace O15 := Lib.hid (O15.out.below hb)
  replace V18 := Lib.hid (V18.out.below hb)
  have O26 := Lib.hid (show OwnI wx25 wd22.heap.size wx25.heap.size qa23 (l0) from ⟨ho, Nat.le_refl _⟩)
  have Z27 := hb.size
  clear hb ho
  go_wp2_with fail
  refine hK.out _ _ (by exact ⟨V18.out.c0, V18.out.c1, V2.out.c0, V2.out.c1⟩) (fun hHeld => ?_)
  clear hK K
  try simp only [Act.put, List.setIfInBounds_toArray, List.set_cons_zero, List.set_cons_succ, List.getElem_toArray, List.getElem_cons_zero, List.getElem_cons_succ]
  refine wpAnyH_ready (rs := [3]) (by kernel_rfl) (by simp) ?_
  refine AllReadyH.cons rfl (fun K hK => ?_) AllReadyH.nil
  go_simp
  refine (eqRing (n0) qa12 qa23 qc13 qc24 (l0) _ (by unfold maxLen; omega) O15.out.at_ O26.out.at_).mono ?_
  rintro e wx28 ⟨rfl, hb⟩
  replace B := Lib.hid (B.out.below hb)
  replace H0 := Lib.hid (H0.out.below hb)
  replace V2 := Lib.hid (V2.out.below hb)
  replace O8 := Lib.hid (O8.out.below hb)
  replace O15 := Lib.hid (O15.out.below hb)
  replace V18 := Lib.hid (V18.out.below hb)
  replace O26 := Lib.hid (O26.out.below hb)
  have Z29 := hb.size
  clear hb
  go_wp2_with fail
  refine hK.out _ _ (by exact ⟨V18.out.c0, V18.out.c1, V2.out.c0, V2.out.c1⟩) (fun hHeld => ?_)
  clear hK K
  try simp only [Act.put, List.setIfInBounds_toArray, List.set_cons_zero, List.set_cons_succ, List.getElem_toArray, List.getElem_cons_zero, List.getElem_cons_succ]
  refine wpAnyH_take (i := 4) (v := ?_) rfl (by kernel_rfl) (by kernel_rfl) (by kernel_rfl) (fun _ _ _ h => h) (Or.inl ⟨by rfl, fun w hSw => by (try dsimp only at hSw); go_simp; (try with_reducible rfl)⟩) (by assumption) ?_
  try simp only [Act.put, List.setIfInBounds_toArray, List.set_cons_zero, List.set_cons_succ, List.getElem_toArray, List.getElem_cons_zero, List.getElem_cons_succ]
  refine wpAnyH_done (by kernel_rfl) ?_ _
  obtain ⟨V2_c0, V2_c1, V2_l⟩ := V2.out
  obtain ⟨V18_c0, V18_c1, V18_l⟩ := V18.out
  go_wp2
  go_ret
  exact ⟨rfl, B.out⟩
end Go.Proofs.YteibkoaepgdmlaaDoor.Rg
