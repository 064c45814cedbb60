/- The law of Owners over its contracts. No condition. -/
import Derived.Test.YteibkoaepgdmlaaDoorOwners
import Derived.Test.YteibkoaepgdmlaaDoorRingLaw0
import Derived.Test.YteibkoaepgdmlaaDoorRingOpen
set_option linter.unusedSimpArgs false
set_option linter.unusedVariables false
namespace Go.Proofs.YteibkoaepgdmlaaDoor.Rg
open Go.RowKit Go.Proofs.YteibkoaepgdmlaaDoor.Mk Go.Proofs.YteibkoaepgdmlaaDoor.Rw Go.Proofs.YteibkoaepgdmlaaDoor.Tk Go.Proofs.YteibkoaepgdmlaaDoor.Iz

set_option maxRecDepth 100000 in
set_option maxHeartbeats 4000000 in
theorem law_Owners (n0 : Int) (a0 : Option Addr) (cap0 : Nat) (l0 : List (Int × Int)) (s1 : ByteArray) (n2 : Int) (w : World) (h0 : CameRing w n0 a0 l0) (h1 : s1.size ≤ maxLen) (h2 : (Lit.int .i64 n2).wf = true) :
    Calls Tryd.prog 7 #[rv n0 a0 l0.length cap0, .string s1, .int .i64 n2] w fun e w' => e = .returned (.bool true) ∧ Below w.heap.size w w' := by
  obtain ⟨hm0, hl0, hnw0⟩ := h0
  have H0 := Lib.hid (InAt.of hm0)
  have HF := Lib.hid hnw0
  clear hm0 hnw0
  unfold maxLen at hl0
  unfold rv
  have HK := Lib.hid h1
  unfold maxLen at h1
  have Wn2 := Lib.hid h2
  clear h2
  by_cases hn1 : 1048576 < s1.size
  · go_enter Tryd.func7, Tryd.ntmps7
    go_wp2
    go_ret
    exact ⟨rfl, (Below.refl _ _).alloc (Nat.le_refl _) _⟩
  have hs1 : s1.size ≤ 1048576 := by omega
  have hd1 : decide (1048576 < (s1.size : Int)) = false := by simp; omega
  clear hn1
  by_cases hn0 : 1048576 < (l0.length : Int)
  · have hb1 := Lib.hid (step_alloc w (.cells #[.int .i64 n0, .slice a0 l0.length cap0] 50))
    go_enter Tryd.func7, Tryd.ntmps7
    go_wp2_with fail
    refine (szRing_no n0 a0 l0.length cap0 1048576 _ (by unfold maxLen; omega) (by omega) (by omega) hn0).mono ?_
    rintro e w1 ⟨rfl, hb⟩
    have HB := Lib.hid (hb1.out.trans (hb.mono hb1.out.size))
    clear hb hb1
    go_wp2
    go_ret
    exact ⟨rfl, HB.out⟩
  have hs0 : (l0.length : Int) ≤ 1048576 := by omega
  clear hn0
  have B := Lib.hid (show Base w w from Below.refl _ _)
  have hj := Nat.le_trans (ownersV_len n0 l0 s1 n2) (by omega : 5 ≤ 1048576)
  go_enter Tryd.func7, Tryd.ntmps7
  have hb := step_alloc w (.cells #[.int .i64 n0, .slice a0 l0.length cap0] 50)
  replace B := Lib.hid (B.out.below hb)
  replace H0 := Lib.hid (H0.out.below hb)
  clear hb
  have Z1 : w.heap.size < (w.alloc (.cells #[.int .i64 n0, .slice a0 l0.length cap0] 50)).heap.size := by simp
  have yZ1 : (w.alloc (.cells #[.int .i64 n0, .slice a0 l0.length cap0] 50)).heap.size ≤ w.heap.size + 1 := by simp
  have V2 := Lib.hid (Var2.new w (.int .i64 n0) (.slice a0 l0.length cap0) 50)
  obtain ⟨V2_c0, V2_c1, V2_l⟩ := V2.out
  go_wp2_with fail
  clear V2_c0 V2_c1 V2_l
  refine (szRing_yes (n0) a0 (l0).length cap0 (1048576) _ (by omega) (by omega) (by omega)).mono ?_
  rintro e wx3 ⟨rfl, hb⟩
  replace B := Lib.hid (B.out.below hb)
  replace H0 := Lib.hid (H0.out.below hb)
  replace V2 := Lib.hid (V2.out.below hb)
  have Z4 := hb.size
  clear hb
  simp at Z4
  obtain ⟨V2_c0, V2_c1, V2_l⟩ := V2.out
  go_wp2_with fail
  clear V2_c0 V2_c1 V2_l
  refine (toRing (n0) a0 cap0 (l0) _ (by omega) H0.out.at_).mono ?_
  rintro e wx7 ⟨qa5, qc6, rfl, ho, hb⟩
  unfold rv
  replace B := Lib.hid (B.out.below hb)
  replace H0 := Lib.hid (H0.out.below hb)
  replace V2 := Lib.hid (V2.out.below hb)
  have O8 := Lib.hid (show OwnI wx7 wx3.heap.size wx7.heap.size qa5 (l0) from ⟨ho, Nat.le_refl _⟩)
  have Z9 := hb.size
  clear hb ho
  obtain ⟨V2_c0, V2_c1, V2_l⟩ := V2.out
  go_wp2_with fail
  clear V2_c0 V2_c1 V2_l
  refine (spec_owners (n0) qa5 qc6 (l0) s1 n2 _ (by unfold maxLen; omega) HK.out O8.out.at_).mono ?_
  rintro e wx12 ⟨qa10, qc11, rfl, ho, hb⟩
  replace B := Lib.hid (B.out.below hb)
  replace H0 := Lib.hid (H0.out.below hb)
  replace V2 := Lib.hid (V2.out.below hb)
  replace O8 := Lib.hid (O8.out.below hb)
  have O13 := Lib.hid (show ROwnI 1 zenc wx12 wx7.heap.size wx12.heap.size qa10 (ownersV (n0) (l0) s1 n2) from ⟨ho, Nat.le_refl _⟩)
  have Z14 := hb.size
  clear hb ho
  obtain ⟨V2_c0, V2_c1, V2_l⟩ := V2.out
  go_wp2_with fail
  clear V2_c0 V2_c1 V2_l
  refine (toRing (n0) a0 cap0 (l0) _ (by omega) H0.out.at_).mono ?_
  rintro e wx17 ⟨qa15, qc16, rfl, ho, hb⟩
  unfold rv
  replace B := Lib.hid (B.out.below hb)
  replace H0 := Lib.hid (H0.out.below hb)
  replace V2 := Lib.hid (V2.out.below hb)
  replace O8 := Lib.hid (O8.out.below hb)
  replace O13 := Lib.hid (O13.out.below hb)
  have O18 := Lib.hid (show OwnI wx17 wx12.heap.size wx17.heap.size qa15 (l0) from ⟨ho, Nat.le_refl _⟩)
  have Z19 := hb.size
  clear hb ho
  have hb := step_alloc wx17 (.cells #[.int .i64 (n0), .slice qa15 (l0).length qc16] 27)
  replace B := Lib.hid (B.out.below hb)
  replace H0 := Lib.hid (H0.out.below hb)
  replace V2 := Lib.hid (V2.out.below hb)
  replace O8 := Lib.hid (O8.out.below hb)
  replace O13 := Lib.hid (O13.out.below hb)
  replace O18 := Lib.hid (O18.out.below hb)
  clear hb
  have Z20 : wx17.heap.size < (wx17.alloc (.cells #[.int .i64 (n0), .slice qa15 (l0).length qc16] 27)).heap.size := by simp
  have yZ20 : (wx17.alloc (.cells #[.int .i64 (n0), .slice qa15 (l0).length qc16] 27)).heap.size ≤ wx17.heap.size + 1 := by simp
  have V21 := Lib.hid (Var2.new wx17 (.int .i64 (n0)) (.slice qa15 (l0).length qc16) 27)
  obtain ⟨V2_c0, V2_c1, V2_l⟩ := V2.out
  obtain ⟨V21_c0, V21_c1, V21_l⟩ := V21.out
  go_wp2_with fail
  clear V2_c0 V2_c1 V2_l V21_c0 V21_c1 V21_l
  refine (impl_owners (n0) qa15 qc16 (l0) s1 n2 _ (by unfold maxLen; omega) HK.out O18.out.at_).mono ?_
  rintro e wx24 ⟨qa22, qc23, rfl, ho, hb⟩
  replace B := Lib.hid (B.out.below hb)
  replace H0 := Lib.hid (H0.out.below hb)
  replace V2 := Lib.hid (V2.out.below hb)
  replace O8 := Lib.hid (O8.out.below hb)
  replace O13 := Lib.hid (O13.out.below hb)
  replace O18 := Lib.hid (O18.out.below hb)
  replace V21 := Lib.hid (V21.out.below hb)
  have O25 := Lib.hid (show ROwnI 1 zenc wx24 (wx17.alloc (.cells #[.int .i64 (n0), .slice qa15 (l0).length qc16] 27)).heap.size wx24.heap.size qa22 (ownersV (n0) (l0) s1 n2) from ⟨ho, Nat.le_refl _⟩)
  have Z26 := hb.size
  clear hb ho
  simp at Z26
  obtain ⟨V2_c0, V2_c1, V2_l⟩ := V2.out
  obtain ⟨V21_c0, V21_c1, V21_l⟩ := V21.out
  go_wp2_with fail
  clear V2_c0 V2_c1 V2_l V21_c0 V21_c1 V21_l
  refine (eqInt64S qa22 qa10 qc23 qc11 (ownersV (n0) (l0) s1 n2) _ (by unfold maxLen; omega) O25.out.at_ O13.out.at_).mono ?_
  rintro e wx27 ⟨rfl, hb⟩
  replace B := Lib.hid (B.out.below hb)
  replace H0 := Lib.hid (H0.out.below hb)
  replace V2 := Lib.hid (V2.out.below hb)
  replace O8 := Lib.hid (O8.out.below hb)
  replace O13 := Lib.hid (O13.out.below hb)
  replace O18 := Lib.hid (O18.out.below hb)
  replace V21 := Lib.hid (V21.out.below hb)
  replace O25 := Lib.hid (O25.out.below hb)
  have Z28 := hb.size
  clear hb
  obtain ⟨V2_c0, V2_c1, V2_l⟩ := V2.out
  obtain ⟨V21_c0, V21_c1, V21_l⟩ := V21.out
  go_wp2_with fail
  clear V2_c0 V2_c1 V2_l V21_c0 V21_c1 V21_l
  have hb := step_drew wx27
  replace B := Lib.hid (B.out.below hb)
  replace H0 := Lib.hid (H0.out.below hb)
  replace V2 := Lib.hid (V2.out.below hb)
  replace O8 := Lib.hid (O8.out.below hb)
  replace O13 := Lib.hid (O13.out.below hb)
  replace O18 := Lib.hid (O18.out.below hb)
  replace V21 := Lib.hid (V21.out.below hb)
  replace O25 := Lib.hid (O25.out.below hb)
  clear hb
  refine wp_region_held_drew (S := (fun w' => w'.cell? ⟨wx17.heap.size, 0, none⟩ = some (.int .i64 (n0)) ∧ w'.cell? ⟨wx17.heap.size, 1, none⟩ = some (.slice qa15 (l0).length qc16) ∧ w'.cell? ⟨w.heap.size, 0, none⟩ = some (.int .i64 n0) ∧ w'.cell? ⟨w.heap.size, 1, none⟩ = some (.slice a0 l0.length cap0))) (by kernel_rfl) (by exact ⟨V21.out.c0, V21.out.c1, V2.out.c0, V2.out.c1⟩) (fun hHeld => ?_)
  have Z29 : wx27.heap.size ≤ wx27.drew.heap.size := Nat.le_refl _
  generalize wx27.drew = wd30 at Z29 hHeld B H0 V2 O8 O13 O18 V21 O25 ⊢
  refine wpAnyH_take (i := 0) (v := ?_) rfl (by kernel_rfl) (by kernel_rfl) (by kernel_rfl) (fun _ _ _ h => h) (Or.inl ⟨by rfl, fun w hSw => by (try dsimp only at hSw); go_simp; (try with_reducible rfl)⟩) (by assumption) ?_
  try simp only [Act.put, List.setIfInBounds_toArray, List.set_cons_zero, List.set_cons_succ, List.getElem_toArray, List.getElem_cons_zero, List.getElem_cons_succ]
  refine wpAnyH_take (i := 1) (v := ?_) rfl (by kernel_rfl) (by kernel_rfl) (by kernel_rfl) (fun _ _ _ h => h) (Or.inl ⟨by rfl, fun w hSw => by (try dsimp only at hSw); go_simp; (try with_reducible rfl)⟩) (by assumption) ?_
  try simp only [Act.put, List.setIfInBounds_toArray, List.set_cons_zero, List.set_cons_succ, List.getElem_toArray, List.getElem_cons_zero, List.getElem_cons_succ]
  refine wpAnyH_ready (rs := [2]) (by kernel_rfl) (by simp) ?_
  refine AllReadyH.cons rfl (fun K hK => ?_) AllReadyH.nil
  go_simp
  refine (toRing (n0) a0 cap0 (l0) _ (by omega) H0.out.at_).mono ?_
  rintro e wx33 ⟨qa31, qc32, rfl, ho, hb⟩
  unfold rv
  replace B := Lib.hid (B.out.below hb)
  replace H0 := Lib.hid (H0.out.below hb)
  replace V2 := Lib.hid (V2.out.below hb)
  replace O8 := Lib.hid (O8.out.below hb)
  replace O13 := Lib.hid (O13.out.below hb)
  replace O18 := Lib.hid (O18.out.below hb)
  replace V21 := Lib.hid (V21.out.below hb)
  replace O25 := Lib.hid (O25.out.below hb)
  have O34 := Lib.hid (show OwnI wx33 wd30.heap.size wx33.heap.size qa31 (l0) from ⟨ho, Nat.le_refl _⟩)
  have Z35 := hb.size
  clear hb ho
  go_wp2_with fail
  refine hK.out _ _ (by exact ⟨V21.out.c0, V21.out.c1, V2.out.c0, V2.out.c1⟩) (fun hHeld => ?_)
  clear hK K
  try simp only [Act.put, List.setIfInBounds_toArray, List.set_cons_zero, List.set_cons_succ, List.getElem_toArray, List.getElem_cons_zero, List.getElem_cons_succ]
  refine wpAnyH_ready (rs := [3]) (by kernel_rfl) (by simp) ?_
  refine AllReadyH.cons rfl (fun K hK => ?_) AllReadyH.nil
  go_simp
  refine (eqRing (n0) qa15 qa31 qc16 qc32 (l0) _ (by unfold maxLen; omega) O18.out.at_ O34.out.at_).mono ?_
  rintro e wx36 ⟨rfl, hb⟩
  replace B := Lib.hid (B.out.below hb)
  replace H0 := Lib.hid (H0.out.below hb)
  replace V2 := Lib.hid (V2.out.below hb)
  replace O8 := Lib.hid (O8.out.below hb)
  replace O13 := Lib.hid (O13.out.below hb)
  replace O18 := Lib.hid (O18.out.below hb)
  replace V21 := Lib.hid (V21.out.below hb)
  replace O25 := Lib.hid (O25.out.below hb)
  replace O34 := Lib.hid (O34.out.below hb)
  have Z37 := hb.size
  clear hb
  go_wp2_with fail
  refine hK.out _ _ (by exact ⟨V21.out.c0, V21.out.c1, V2.out.c0, V2.out.c1⟩) (fun hHeld => ?_)
  clear hK K
  try simp only [Act.put, List.setIfInBounds_toArray, List.set_cons_zero, List.set_cons_succ, List.getElem_toArray, List.getElem_cons_zero, List.getElem_cons_succ]
  refine wpAnyH_take (i := 4) (v := ?_) rfl (by kernel_rfl) (by kernel_rfl) (by kernel_rfl) (fun _ _ _ h => h) (Or.inl ⟨by rfl, fun w hSw => by (try dsimp only at hSw); go_simp; (try with_reducible rfl)⟩) (by assumption) ?_
  try simp only [Act.put, List.setIfInBounds_toArray, List.set_cons_zero, List.set_cons_succ, List.getElem_toArray, List.getElem_cons_zero, List.getElem_cons_succ]
  refine wpAnyH_done (by kernel_rfl) ?_ _
  obtain ⟨V2_c0, V2_c1, V2_l⟩ := V2.out
  obtain ⟨V21_c0, V21_c1, V21_l⟩ := V21.out
  go_wp2_with fail
  clear V2_c0 V2_c1 V2_l V21_c0 V21_c1 V21_l
  refine (markRing wx12.heap.size wx17.heap.size (n0) qa15 qc16 (l0) (1) _ (by omega) (by omega) (by omega) O18.out).mono ?_
  rintro e wx38 ⟨rfl, ho, hw⟩
  replace B := Lib.hid (B.out.within hw (by omega))
  replace H0 := Lib.hid (H0.out.within hw (by omega))
  replace V2 := Lib.hid (V2.out.within hw (by omega))
  replace O8 := Lib.hid (O8.out.within hw (by omega))
  replace O13 := Lib.hid (O13.out.within hw (by omega))
  replace V21 := Lib.hid (V21.out.within hw (by omega))
  replace O25 := Lib.hid (O25.out.within hw (by omega))
  replace O34 := Lib.hid (O34.out.within hw (by omega))
  replace O18 := Lib.hid (show OwnI wx38 wx12.heap.size wx17.heap.size qa15 (markL (1) (l0).length) from ⟨ho, Nat.le_trans O18.out.2 hw.size⟩)
  have Z39 := hw.size
  clear hw ho
  obtain ⟨V2_c0, V2_c1, V2_l⟩ := V2.out
  obtain ⟨V21_c0, V21_c1, V21_l⟩ := V21.out
  go_wp2_with fail
  clear V2_c0 V2_c1 V2_l V21_c0 V21_c1 V21_l
  refine (eqInt64S qa22 qa10 qc23 qc11 (ownersV (n0) (l0) s1 n2) _ (by unfold maxLen; omega) O25.out.at_ O13.out.at_).mono ?_
  rintro e wx40 ⟨rfl, hb⟩
  replace B := Lib.hid (B.out.below hb)
  replace H0 := Lib.hid (H0.out.below hb)
  replace V2 := Lib.hid (V2.out.below hb)
  replace O8 := Lib.hid (O8.out.below hb)
  replace O13 := Lib.hid (O13.out.below hb)
  replace O18 := Lib.hid (O18.out.below hb)
  replace V21 := Lib.hid (V21.out.below hb)
  replace O25 := Lib.hid (O25.out.below hb)
  replace O34 := Lib.hid (O34.out.below hb)
  have Z41 := hb.size
  clear hb
  obtain ⟨V2_c0, V2_c1, V2_l⟩ := V2.out
  obtain ⟨V21_c0, V21_c1, V21_l⟩ := V21.out
  go_wp2_with fail
  clear V2_c0 V2_c1 V2_l V21_c0 V21_c1 V21_l
  refine (markInt64S (wx17.alloc (.cells #[.int .i64 (n0), .slice qa15 (l0).length qc16] 27)).heap.size wx24.heap.size qa22 qc23 (ownersV (n0) (l0) s1 n2) (1) _ (by omega) (by omega) (by omega) O25.out.1).mono ?_
  rintro e wx42 ⟨rfl, ho, hw⟩
  replace B := Lib.hid (B.out.within hw (by omega))
  replace H0 := Lib.hid (H0.out.within hw (by omega))
  replace V2 := Lib.hid (V2.out.within hw (by omega))
  replace O8 := Lib.hid (O8.out.within hw (by omega))
  replace O13 := Lib.hid (O13.out.within hw (by omega))
  replace O18 := Lib.hid (O18.out.within hw (by omega))
  replace V21 := Lib.hid (V21.out.within hw (by omega))
  replace O34 := Lib.hid (O34.out.within hw (by omega))
  replace O25 := Lib.hid (show ROwnI 1 zenc wx42 (wx17.alloc (.cells #[.int .i64 (n0), .slice qa15 (l0).length qc16] 27)).heap.size wx24.heap.size qa22 (zL (1) (ownersV (n0) (l0) s1 n2).length) from ⟨ho, Nat.le_trans O25.out.2 hw.size⟩)
  have Z43 := hw.size
  clear hw ho
  obtain ⟨V2_c0, V2_c1, V2_l⟩ := V2.out
  obtain ⟨V21_c0, V21_c1, V21_l⟩ := V21.out
  go_wp2_with fail
  clear V2_c0 V2_c1 V2_l V21_c0 V21_c1 V21_l
  refine (heldInt64S qa22 qc23 (ownersV (n0) (l0) s1 n2).length (1) _ (by omega) (by omega) (by omega) O25.out.at_).mono ?_
  rintro e wx44 ⟨rfl, hb⟩
  replace B := Lib.hid (B.out.below hb)
  replace H0 := Lib.hid (H0.out.below hb)
  replace V2 := Lib.hid (V2.out.below hb)
  replace O8 := Lib.hid (O8.out.below hb)
  replace O13 := Lib.hid (O13.out.below hb)
  replace O18 := Lib.hid (O18.out.below hb)
  replace V21 := Lib.hid (V21.out.below hb)
  replace O25 := Lib.hid (O25.out.below hb)
  replace O34 := Lib.hid (O34.out.below hb)
  have Z45 := hb.size
  clear hb
  obtain ⟨V2_c0, V2_c1, V2_l⟩ := V2.out
  obtain ⟨V21_c0, V21_c1, V21_l⟩ := V21.out
  go_wp2_with fail
  clear V2_c0 V2_c1 V2_l V21_c0 V21_c1 V21_l
  refine (toRing (n0) a0 cap0 (l0) _ (by omega) H0.out.at_).mono ?_
  rintro e wx48 ⟨qa46, qc47, rfl, ho, hb⟩
  unfold rv
  replace B := Lib.hid (B.out.below hb)
  replace H0 := Lib.hid (H0.out.below hb)
  replace V2 := Lib.hid (V2.out.below hb)
  replace O8 := Lib.hid (O8.out.below hb)
  replace O13 := Lib.hid (O13.out.below hb)
  replace O18 := Lib.hid (O18.out.below hb)
  replace V21 := Lib.hid (V21.out.below hb)
  replace O25 := Lib.hid (O25.out.below hb)
  replace O34 := Lib.hid (O34.out.below hb)
  have O49 := Lib.hid (show OwnI wx48 wx44.heap.size wx48.heap.size qa46 (l0) from ⟨ho, Nat.le_refl _⟩)
  have Z50 := hb.size
  clear hb ho
  obtain ⟨V2_c0, V2_c1, V2_l⟩ := V2.out
  obtain ⟨V21_c0, V21_c1, V21_l⟩ := V21.out
  go_wp2_with fail
  clear V2_c0 V2_c1 V2_l V21_c0 V21_c1 V21_l
  refine (impl_owners (n0) qa46 qc47 (l0) s1 n2 _ (by unfold maxLen; omega) HK.out O49.out.at_).mono ?_
  rintro e wx53 ⟨qa51, qc52, rfl, ho, hb⟩
  replace B := Lib.hid (B.out.below hb)
  replace H0 := Lib.hid (H0.out.below hb)
  replace V2 := Lib.hid (V2.out.below hb)
  replace O8 := Lib.hid (O8.out.below hb)
  replace O13 := Lib.hid (O13.out.below hb)
  replace O18 := Lib.hid (O18.out.below hb)
  replace V21 := Lib.hid (V21.out.below hb)
  replace O25 := Lib.hid (O25.out.below hb)
  replace O34 := Lib.hid (O34.out.below hb)
  replace O49 := Lib.hid (O49.out.below hb)
  have O54 := Lib.hid (show ROwnI 1 zenc wx53 wx48.heap.size wx53.heap.size qa51 (ownersV (n0) (l0) s1 n2) from ⟨ho, Nat.le_refl _⟩)
  have Z55 := hb.size
  clear hb ho
  obtain ⟨V2_c0, V2_c1, V2_l⟩ := V2.out
  obtain ⟨V21_c0, V21_c1, V21_l⟩ := V21.out
  go_wp2_with fail
  clear V2_c0 V2_c1 V2_l V21_c0 V21_c1 V21_l
  refine (eqInt64S qa51 qa10 qc52 qc11 (ownersV (n0) (l0) s1 n2) _ (by unfold maxLen; omega) O54.out.at_ O13.out.at_).mono ?_
  rintro e wx56 ⟨rfl, hb⟩
  replace B := Lib.hid (B.out.below hb)
  replace H0 := Lib.hid (H0.out.below hb)
  replace V2 := Lib.hid (V2.out.below hb)
  replace O8 := Lib.hid (O8.out.below hb)
  replace O13 := Lib.hid (O13.out.below hb)
  replace O18 := Lib.hid (O18.out.below hb)
  replace V21 := Lib.hid (V21.out.below hb)
  replace O25 := Lib.hid (O25.out.below hb)
  replace O34 := Lib.hid (O34.out.below hb)
  replace O49 := Lib.hid (O49.out.below hb)
  replace O54 := Lib.hid (O54.out.below hb)
  have Z57 := hb.size
  clear hb
  obtain ⟨V2_c0, V2_c1, V2_l⟩ := V2.out
  obtain ⟨V21_c0, V21_c1, V21_l⟩ := V21.out
  go_wp2_with fail
  clear V2_c0 V2_c1 V2_l V21_c0 V21_c1 V21_l
  refine (heldInt64S qa22 qc23 (ownersV (n0) (l0) s1 n2).length (1) _ (by omega) (by omega) (by omega) O25.out.at_).mono ?_
  rintro e wx58 ⟨rfl, hb⟩
  replace B := Lib.hid (B.out.below hb)
  replace H0 := Lib.hid (H0.out.below hb)
  replace V2 := Lib.hid (V2.out.below hb)
  replace O8 := Lib.hid (O8.out.below hb)
  replace O13 := Lib.hid (O13.out.below hb)
  replace O18 := Lib.hid (O18.out.below hb)
  replace V21 := Lib.hid (V21.out.below hb)
  replace O25 := Lib.hid (O25.out.below hb)
  replace O34 := Lib.hid (O34.out.below hb)
  replace O49 := Lib.hid (O49.out.below hb)
  replace O54 := Lib.hid (O54.out.below hb)
  have Z59 := hb.size
  clear hb
  obtain ⟨V2_c0, V2_c1, V2_l⟩ := V2.out
  obtain ⟨V21_c0, V21_c1, V21_l⟩ := V21.out
  go_wp2
  go_ret
  exact ⟨rfl, B.out⟩
end Go.Proofs.YteibkoaepgdmlaaDoor.Rg
