/- The law of StandIns over its contracts. No condition. -/
import Derived.Test.YteibkoaepgdmlaaDoorStandI
import Derived.Test.YteibkoaepgdmlaaDoorRingLaw0
import Derived.Test.YteibkoaepgdmlaaDoorRingOpen
set_option linter.unusedSimpArgs false
set_option linter.unusedVariables false
namespace Go.Proofs.YteibkoaepgdmlaaDoor.Rg
open Go.RowKit Go.Proofs.YteibkoaepgdmlaaDoor.Mk Go.Proofs.YteibkoaepgdmlaaDoor.Rw Go.Proofs.YteibkoaepgdmlaaDoor.Tk Go.Proofs.YteibkoaepgdmlaaDoor.Iz

set_option maxRecDepth 100000 in
set_option maxHeartbeats 4000000 in
theorem law_StandIns (n0 : Int) (a0 : Option Addr) (cap0 : Nat) (l0 : List (Int × Int)) (s1 : ByteArray) (n2 : Int) (a3 : Option Addr) (cap3 : Nat) (l3 : List Int) (w : World) (h0 : CameRing w n0 a0 l0) (h1 : s1.size ≤ maxLen) (h2 : (Lit.int .i64 n2).wf = true) (h3 : CameInts w a3 l3) :
    Calls Tryd.prog 8 #[rv n0 a0 l0.length cap0, .string s1, .int .i64 n2, .slice a3 l3.length cap3] w fun e w' => e = .returned (.bool true) ∧ Below w.heap.size w w' := by
  obtain ⟨hm0, hl0, hnw0⟩ := h0
  have H0 := Lib.hid (InAt.of hm0)
  have HF := Lib.hid hnw0
  clear hm0 hnw0
  unfold maxLen at hl0
  unfold rv
  have HK := Lib.hid h1
  unfold maxLen at h1
  have Wn2 := Lib.hid h2
  clear h2
  obtain ⟨hm3, hl3⟩ := h3
  have H3 := Lib.hid (RIn.of (by decide) hm3)
  clear hm3
  unfold maxLen at hl3
  by_cases hn1 : 1048576 < s1.size
  · go_enter Tryd.func8, Tryd.ntmps8
    go_wp2
    go_ret
    exact ⟨rfl, (Below.refl _ _).alloc (Nat.le_refl _) _⟩
  have hs1 : s1.size ≤ 1048576 := by omega
  have hd1 : decide (1048576 < (s1.size : Int)) = false := by simp; omega
  clear hn1
  by_cases hn3 : 1048576 < l3.length
  · go_enter Tryd.func8, Tryd.ntmps8
    go_wp2
    go_ret
    exact ⟨rfl, (Below.refl _ _).alloc (Nat.le_refl _) _⟩
  have hs3 : l3.length ≤ 1048576 := by omega
  have hd3 : decide (1048576 < (l3.length : Int)) = false := by simp; omega
  clear hn3
  by_cases hn0 : 1048576 < (l0.length : Int)
  · have hb1 := Lib.hid (step_alloc w (.cells #[.int .i64 n0, .slice a0 l0.length cap0] 50))
    go_enter Tryd.func8, Tryd.ntmps8
    go_wp2_with fail
    refine (szRing_no n0 a0 l0.length cap0 1048576 _ (by unfold maxLen; omega) (by omega) (by omega) hn0).mono ?_
    rintro e w1 ⟨rfl, hb⟩
    have HB := Lib.hid (hb1.out.trans (hb.mono hb1.out.size))
    clear hb hb1
    go_wp2
    go_ret
    exact ⟨rfl, HB.out⟩
  have hs0 : (l0.length : Int) ≤ 1048576 := by omega
  clear hn0
  have B := Lib.hid (show Base w w from Below.refl _ _)
  have hj := Nat.le_trans (standV_len n0 l0 s1 n2 l3) (by omega : 5 ≤ 1048576)
  go_enter Tryd.func8, Tryd.ntmps8
  have hb := step_alloc w (.cells #[.int .i64 n0, .slice a0 l0.length cap0] 50)
  replace B := Lib.hid (B.out.below hb)
  replace H0 := Lib.hid (H0.out.below hb)
  replace H3 := Lib.hid (H3.out.below hb)
  clear hb
  have Z1 : w.heap.size < (w.alloc (.cells #[.int .i64 n0, .slice a0 l0.length cap0] 50)).heap.size := by simp
  have yZ1 : (w.alloc (.cells #[.int .i64 n0, .slice a0 l0.length cap0] 50)).heap.size ≤ w.heap.size + 1 := by simp
  have V2 := Lib.hid (Var2.new w (.int .i64 n0) (.slice a0 l0.length cap0) 50)
  obtain ⟨V2_c0, V2_c1, V2_l⟩ := V2.out
  go_wp2_with fail
  clear V2_c0 V2_c1 V2_l
  refine (szRing_yes (n0) a0 (l0).length cap0 (1048576) _ (by omega) (by omega) (by omega)).mono ?_
  rintro e wx3 ⟨rfl, hb⟩
  replace B := Lib.hid (B.out.below hb)
  replace H0 := Lib.hid (H0.out.below hb)
  replace H3 := Lib.hid (H3.out.below hb)
  replace V2 := Lib.hid (V2.out.below hb)
  have Z4 := hb.size
  clear hb
  simp at Z4
  obtain ⟨V2_c0, V2_c1, V2_l⟩ := V2.out
  go_wp2_with fail
  clear V2_c0 V2_c1 V2_l
  refine (toRing (n0) a0 cap0 (l0) _ (by omega) H0.out.at_).mono ?_
  rintro e wx7 ⟨qa5, qc6, rfl, ho, hb⟩
  unfold rv
  replace B := Lib.hid (B.out.below hb)
  replace H0 := Lib.hid (H0.out.below hb)
  replace H3 := Lib.hid (H3.out.below hb)
  replace V2 := Lib.hid (V2.out.below hb)
  have O8 := Lib.hid (show OwnI wx7 wx3.heap.size wx7.heap.size qa5 (l0) from ⟨ho, Nat.le_refl _⟩)
  have Z9 := hb.size
  clear hb ho
  obtain ⟨V2_c0, V2_c1, V2_l⟩ := V2.out
  go_wp2_with fail
  clear V2_c0 V2_c1 V2_l
  refine (toInt64S a3 cap3 (l3) _ (by omega) H3.out.at_).mono ?_
  rintro e wx12 ⟨qa10, qc11, rfl, ho, hb⟩
  replace B := Lib.hid (B.out.below hb)
  replace H0 := Lib.hid (H0.out.below hb)
  replace H3 := Lib.hid (H3.out.below hb)
  replace V2 := Lib.hid (V2.out.below hb)
  replace O8 := Lib.hid (O8.out.below hb)
  have O13 := Lib.hid (show ROwnI 1 zenc wx12 wx7.heap.size wx12.heap.size qa10 (l3) from ⟨ho, Nat.le_refl _⟩)
  have Z14 := hb.size
  clear hb ho
  obtain ⟨V2_c0, V2_c1, V2_l⟩ := V2.out
  go_wp2_with fail
  clear V2_c0 V2_c1 V2_l
  refine (spec_standIns (n0) qa5 qc6 (l0) s1 n2 qa10 qc11 (l3) _ (by unfold maxLen; omega) HK.out (by unfold maxLen; omega) O8.out.at_ O13.out.at_).mono ?_
  rintro e wx17 ⟨qa15, qc16, rfl, ho, hb⟩
  replace B := Lib.hid (B.out.below hb)
  replace H0 := Lib.hid (H0.out.below hb)
  replace H3 := Lib.hid (H3.out.below hb)
  replace V2 := Lib.hid (V2.out.below hb)
  replace O8 := Lib.hid (O8.out.below hb)
  replace O13 := Lib.hid (O13.out.below hb)
  have O18 := Lib.hid (show ROwnI 1 zenc wx17 wx12.heap.size wx17.heap.size qa15 (standV (n0) (l0) s1 n2 (l3)) from ⟨ho, Nat.le_refl _⟩)
  have Z19 := hb.size
  clear hb ho
  obtain ⟨V2_c0, V2_c1, V2_l⟩ := V2.out
  go_wp2_with fail
  clear V2_c0 V2_c1 V2_l
  refine (toRing (n0) a0 cap0 (l0) _ (by omega) H0.out.at_).mono ?_
  rintro e wx22 ⟨qa20, qc21, rfl, ho, hb⟩
  unfold rv
  replace B := Lib.hid (B.out.below hb)
  replace H0 := Lib.hid (H0.out.below hb)
  replace H3 := Lib.hid (H3.out.below hb)
  replace V2 := Lib.hid (V2.out.below hb)
  replace O8 := Lib.hid (O8.out.below hb)
  replace O13 := Lib.hid (O13.out.below hb)
  replace O18 := Lib.hid (O18.out.below hb)
  have O23 := Lib.hid (show OwnI wx22 wx17.heap.size wx22.heap.size qa20 (l0) from ⟨ho, Nat.le_refl _⟩)
  have Z24 := hb.size
  clear hb ho
  have hb := step_alloc wx22 (.cells #[.int .i64 (n0), .slice qa20 (l0).length qc21] 27)
  replace B := Lib.hid (B.out.below hb)
  replace H0 := Lib.hid (H0.out.below hb)
  replace H3 := Lib.hid (H3.out.below hb)
  replace V2 := Lib.hid (V2.out.below hb)
  replace O8 := Lib.hid (O8.out.below hb)
  replace O13 := Lib.hid (O13.out.below hb)
  replace O18 := Lib.hid (O18.out.below hb)
  replace O23 := Lib.hid (O23.out.below hb)
  clear hb
  have Z25 : wx22.heap.size < (wx22.alloc (.cells #[.int .i64 (n0), .slice qa20 (l0).length qc21] 27)).heap.size := by simp
  have yZ25 : (wx22.alloc (.cells #[.int .i64 (n0), .slice qa20 (l0).length qc21] 27)).heap.size ≤ wx22.heap.size + 1 := by simp
  have V26 := Lib.hid (Var2.new wx22 (.int .i64 (n0)) (.slice qa20 (l0).length qc21) 27)
  obtain ⟨V2_c0, V2_c1, V2_l⟩ := V2.out
  obtain ⟨V26_c0, V26_c1, V26_l⟩ := V26.out
  go_wp2_with fail
  clear V2_c0 V2_c1 V2_l V26_c0 V26_c1 V26_l
  refine (toInt64S a3 cap3 (l3) _ (by omega) H3.out.at_).mono ?_
  rintro e wx29 ⟨qa27, qc28, rfl, ho, hb⟩
  replace B := Lib.hid (B.out.below hb)
  replace H0 := Lib.hid (H0.out.below hb)
  replace H3 := Lib.hid (H3.out.below hb)
  replace V2 := Lib.hid (V2.out.below hb)
  replace O8 := Lib.hid (O8.out.below hb)
  replace O13 := Lib.hid (O13.out.below hb)
  replace O18 := Lib.hid (O18.out.below hb)
  replace O23 := Lib.hid (O23.out.below hb)
  replace V26 := Lib.hid (V26.out.below hb)
  have O30 := Lib.hid (show ROwnI 1 zenc wx29 (wx22.alloc (.cells #[.int .i64 (n0), .slice qa20 (l0).length qc21] 27)).heap.size wx29.heap.size qa27 (l3) from ⟨ho, Nat.le_refl _⟩)
  have Z31 := hb.size
  clear hb ho
  simp at Z31
  obtain ⟨V2_c0, V2_c1, V2_l⟩ := V2.out
  obtain ⟨V26_c0, V26_c1, V26_l⟩ := V26.out
  go_wp2_with fail
  clear V2_c0 V2_c1 V2_l V26_c0 V26_c1 V26_l
  refine (impl_standIns (n0) qa20 qc21 (l0) s1 n2 qa27 qc28 (l3) _ (by unfold maxLen; omega) HK.out (by unfold maxLen; omega) O23.out.at_ O30.out.at_).mono ?_
  rintro e wx34 ⟨qa32, qc33, rfl, ho, hb⟩
  replace B := Lib.hid (B.out.below hb)
  replace H0 := Lib.hid (H0.out.below hb)
  replace H3 := Lib.hid (H3.out.below hb)
  replace V2 := Lib.hid (V2.out.below hb)
  replace O8 := Lib.hid (O8.out.below hb)
  replace O13 := Lib.hid (O13.out.below hb)
  replace O18 := Lib.hid (O18.out.below hb)
  replace O23 := Lib.hid (O23.out.below hb)
  replace V26 := Lib.hid (V26.out.below hb)
  replace O30 := Lib.hid (O30.out.below hb)
  have O35 := Lib.hid (show ROwnI 1 zenc wx34 wx29.heap.size wx34.heap.size qa32 (standV (n0) (l0) s1 n2 (l3)) from ⟨ho, Nat.le_refl _⟩)
  have Z36 := hb.size
  clear hb ho
  obtain ⟨V2_c0, V2_c1, V2_l⟩ := V2.out
  obtain ⟨V26_c0, V26_c1, V26_l⟩ := V26.out
  go_wp2_with fail
  clear V2_c0 V2_c1 V2_l V26_c0 V26_c1 V26_l
  refine (eqInt64S qa32 qa15 qc33 qc16 (standV (n0) (l0) s1 n2 (l3)) _ (by unfold maxLen; omega) O35.out.at_ O18.out.at_).mono ?_
  rintro e wx37 ⟨rfl, hb⟩
  replace B := Lib.hid (B.out.below hb)
  replace H0 := Lib.hid (H0.out.below hb)
  replace H3 := Lib.hid (H3.out.below hb)
  replace V2 := Lib.hid (V2.out.below hb)
  replace O8 := Lib.hid (O8.out.below hb)
  replace O13 := Lib.hid (O13.out.below hb)
  replace O18 := Lib.hid (O18.out.below hb)
  replace O23 := Lib.hid (O23.out.below hb)
  replace V26 := Lib.hid (V26.out.below hb)
  replace O30 := Lib.hid (O30.out.below hb)
  replace O35 := Lib.hid (O35.out.below hb)
  have Z38 := hb.size
  clear hb
  obtain ⟨V2_c0, V2_c1, V2_l⟩ := V2.out
  obtain ⟨V26_c0, V26_c1, V26_l⟩ := V26.out
  go_wp2_with fail
  clear V2_c0 V2_c1 V2_l V26_c0 V26_c1 V26_l
  have hb := step_drew wx37
  replace B := Lib.hid (B.out.below hb)
  replace H0 := Lib.hid (H0.out.below hb)
  replace H3 := Lib.hid (H3.out.below hb)
  replace V2 := Lib.hid (V2.out.below hb)
  replace O8 := Lib.hid (O8.out.below hb)
  replace O13 := Lib.hid (O13.out.below hb)
  replace O18 := Lib.hid (O18.out.below hb)
  replace O23 := Lib.hid (O23.out.below hb)
  replace V26 := Lib.hid (V26.out.below hb)
  replace O30 := Lib.hid (O30.out.below hb)
  replace O35 := Lib.hid (O35.out.below hb)
  clear hb
  refine wp_region_held_drew (S := (fun w' => w'.cell? ⟨wx22.heap.size, 0, none⟩ = some (.int .i64 (n0)) ∧ w'.cell? ⟨wx22.heap.size, 1, none⟩ = some (.slice qa20 (l0).length qc21) ∧ w'.cell? ⟨w.heap.size, 0, none⟩ = some (.int .i64 n0) ∧ w'.cell? ⟨w.heap.size, 1, none⟩ = some (.slice a0 l0.length cap0))) (by kernel_rfl) (by exact ⟨V26.out.c0, V26.out.c1, V2.out.c0, V2.out.c1⟩) (fun hHeld => ?_)
  have Z39 : wx37.heap.size ≤ wx37.drew.heap.size := Nat.le_refl _
  generalize wx37.drew = wd40 at Z39 hHeld B H0 H3 V2 O8 O13 O18 O23 V26 O30 O35 ⊢
  refine wpAnyH_take (i := 0) (v := ?_) rfl (by kernel_rfl) (by kernel_rfl) (by kernel_rfl) (fun _ _ _ h => h) (Or.inl ⟨by rfl, fun w hSw => by (try dsimp only at hSw); go_simp; (try with_reducible rfl)⟩) (by assumption) ?_
  try simp only [Act.put, List.setIfInBounds_toArray, List.set_cons_zero, List.set_cons_succ, List.getElem_toArray, List.getElem_cons_zero, List.getElem_cons_succ]
  refine wpAnyH_take (i := 1) (v := ?_) rfl (by kernel_rfl) (by kernel_rfl) (by kernel_rfl) (fun _ _ _ h => h) (Or.inl ⟨by rfl, fun w hSw => by (try dsimp only at hSw); go_simp; (try with_reducible rfl)⟩) (by assumption) ?_
  try simp only [Act.put, List.setIfInBounds_toArray, List.set_cons_zero, List.set_cons_succ, List.getElem_toArray, List.getElem_cons_zero, List.getElem_cons_succ]
  refine wpAnyH_ready (rs := [2]) (by kernel_rfl) (by simp) ?_
  refine AllReadyH.cons rfl (fun K hK => ?_) AllReadyH.nil
  go_simp
  refine (toRing (n0) a0 cap0 (l0) _ (by omega) H0.out.at_).mono ?_
  rintro e wx43 ⟨qa41, qc42, rfl, ho, hb⟩
  unfold rv
  replace B := Lib.hid (B.out.below hb)
  replace H0 := Lib.hid (H0.out.below hb)
  replace H3 := Lib.hid (H3.out.below hb)
  replace V2 := Lib.hid (V2.out.below hb)
  replace O8 := Lib.hid (O8.out.below hb)
  replace O13 := Lib.hid (O13.out.below hb)
  replace O18 := Lib.hid (O18.out.below hb)
  replace O23 := Lib.hid (O23.out.below hb)
  replace V26 := Lib.hid (V26.out.below hb)
  replace O30 := Lib.hid (O30.out.below hb)
  replace O35 := Lib.hid (O35.out.below hb)
  have O44 := Lib.hid (show OwnI wx43 wd40.heap.size wx43.heap.size qa41 (l0) from ⟨ho, Nat.le_refl _⟩)
  have Z45 := hb.size
  clear hb ho
  go_wp2_with fail
  refine hK.out _ _ (by exact ⟨V26.out.c0, V26.out.c1, V2.out.c0, V2.out.c1⟩) (fun hHeld => ?_)
  clear hK K
  try simp only [Act.put, List.setIfInBounds_toArray, List.set_cons_zero, List.set_cons_succ, List.getElem_toArray, List.getElem_cons_zero, List.getElem_cons_succ]
  refine wpAnyH_ready (rs := [3]) (by kernel_rfl) (by simp) ?_
  refine AllReadyH.cons rfl (fun K hK => ?_) AllReadyH.nil
  go_simp
  refine (eqRing (n0) qa20 qa41 qc21 qc42 (l0) _ (by unfold maxLen; omega) O23.out.at_ O44.out.at_).mono ?_
  rintro e wx46 ⟨rfl, hb⟩
  replace B := Lib.hid (B.out.below hb)
  replace H0 := Lib.hid (H0.out.below hb)
  replace H3 := Lib.hid (H3.out.below hb)
  replace V2 := Lib.hid (V2.out.below hb)
  replace O8 := Lib.hid (O8.out.below hb)
  replace O13 := Lib.hid (O13.out.below hb)
  replace O18 := Lib.hid (O18.out.below hb)
  replace O23 := Lib.hid (O23.out.below hb)
  replace V26 := Lib.hid (V26.out.below hb)
  replace O30 := Lib.hid (O30.out.below hb)
  replace O35 := Lib.hid (O35.out.below hb)
  replace O44 := Lib.hid (O44.out.below hb)
  have Z47 := hb.size
  clear hb
  go_wp2_with fail
  refine hK.out _ _ (by exact ⟨V26.out.c0, V26.out.c1, V2.out.c0, V2.out.c1⟩) (fun hHeld => ?_)
  clear hK K
  try simp only [Act.put, List.setIfInBounds_toArray, List.set_cons_zero, List.set_cons_succ, List.getElem_toArray, List.getElem_cons_zero, List.getElem_cons_succ]
  refine wpAnyH_take (i := 4) (v := ?_) rfl (by kernel_rfl) (by kernel_rfl) (by kernel_rfl) (fun _ _ _ h => h) (Or.inl ⟨by rfl, fun w hSw => by (try dsimp only at hSw); go_simp; (try with_reducible rfl)⟩) (by assumption) ?_
  try simp only [Act.put, List.setIfInBounds_toArray, List.set_cons_zero, List.set_cons_succ, List.getElem_toArray, List.getElem_cons_zero, List.getElem_cons_succ]
  refine wpAnyH_done (by kernel_rfl) ?_ _
  obtain ⟨V2_c0, V2_c1, V2_l⟩ := V2.out
  obtain ⟨V26_c0, V26_c1, V26_l⟩ := V26.out
  go_wp2_with fail
  clear V2_c0 V2_c1 V2_l V26_c0 V26_c1 V26_l
  refine (toInt64S a3 cap3 (l3) _ (by omega) H3.out.at_).mono ?_
  rintro e wx50 ⟨qa48, qc49, rfl, ho, hb⟩
  replace B := Lib.hid (B.out.below hb)
  replace H0 := Lib.hid (H0.out.below hb)
  replace H3 := Lib.hid (H3.out.below hb)
  replace V2 := Lib.hid (V2.out.below hb)
  replace O8 := Lib.hid (O8.out.below hb)
  replace O13 := Lib.hid (O13.out.below hb)
  replace O18 := Lib.hid (O18.out.below hb)
  replace O23 := Lib.hid (O23.out.below hb)
  replace V26 := Lib.hid (V26.out.below hb)
  replace O30 := Lib.hid (O30.out.below hb)
  replace O35 := Lib.hid (O35.out.below hb)
  replace O44 := Lib.hid (O44.out.below hb)
  have O51 := Lib.hid (show ROwnI 1 zenc wx50 wx46.heap.size wx50.heap.size qa48 (l3) from ⟨ho, Nat.le_refl _⟩)
  have Z52 := hb.size
  clear hb ho
  obtain ⟨V2_c0, V2_c1, V2_l⟩ := V2.out
  obtain ⟨V26_c0, V26_c1, V26_l⟩ := V26.out
  go_wp2_with fail
  clear V2_c0 V2_c1 V2_l V26_c0 V26_c1 V26_l
  refine (eqInt64S qa27 qa48 qc28 qc49 (l3) _ (by unfold maxLen; omega) O30.out.at_ O51.out.at_).mono ?_
  rintro e wx53 ⟨rfl, hb⟩
  replace B := Lib.hid (B.out.below hb)
  replace H0 := Lib.hid (H0.out.below hb)
  replace H3 := Lib.hid (H3.out.below hb)
  replace V2 := Lib.hid (V2.out.below hb)
  replace O8 := Lib.hid (O8.out.below hb)
  replace O13 := Lib.hid (O13.out.below hb)
  replace O18 := Lib.hid (O18.out.below hb)
  replace O23 := Lib.hid (O23.out.below hb)
  replace V26 := Lib.hid (V26.out.below hb)
  replace O30 := Lib.hid (O30.out.below hb)
  replace O35 := Lib.hid (O35.out.below hb)
  replace O44 := Lib.hid (O44.out.below hb)
  replace O51 := Lib.hid (O51.out.below hb)
  have Z54 := hb.size
  clear hb
  obtain ⟨V2_c0, V2_c1, V2_l⟩ := V2.out
  obtain ⟨V26_c0, V26_c1, V26_l⟩ := V26.out
  go_wp2_with fail
  clear V2_c0 V2_c1 V2_l V26_c0 V26_c1 V26_l
  refine (markRing wx17.heap.size wx22.heap.size (n0) qa20 qc21 (l0) (1) _ (by omega) (by omega) (by omega) O23.out).mono ?_
  rintro e wx55 ⟨rfl, ho, hw⟩
  replace B := Lib.hid (B.out.within hw (by omega))
  replace H0 := Lib.hid (H0.out.within hw (by omega))
  replace H3 := Lib.hid (H3.out.within hw (by omega))
  replace V2 := Lib.hid (V2.out.within hw (by omega))
  replace O8 := Lib.hid (O8.out.within hw (by omega))
  replace O13 := Lib.hid (O13.out.within hw (by omega))
  replace O18 := Lib.hid (O18.out.within hw (by omega))
  replace V26 := Lib.hid (V26.out.within hw (by omega))
  replace O30 := Lib.hid (O30.out.within hw (by omega))
  replace O35 := Lib.hid (O35.out.within hw (by omega))
  replace O44 := Lib.hid (O44.out.within hw (by omega))
  replace O51 := Lib.hid (O51.out.within hw (by omega))
  replace O23 := Lib.hid (show OwnI wx55 wx17.heap.size wx22.heap.size qa20 (markL (1) (l0).length) from ⟨ho, Nat.le_trans O23.out.2 hw.size⟩)
  have Z56 := hw.size
  clear hw ho
  obtain ⟨V2_c0, V2_c1, V2_l⟩ := V2.out
  obtain ⟨V26_c0, V26_c1, V26_l⟩ := V26.out
  go_wp2_with fail
  clear V2_c0 V2_c1 V2_l V26_c0 V26_c1 V26_l
  refine (markInt64S (wx22.alloc (.cells #[.int .i64 (n0), .slice qa20 (l0).length qc21] 27)).heap.size wx29.heap.size qa27 qc28 (l3) ((1 + 2 * ((l0).length : Int))) _ (by omega) (by omega) (by omega) O30.out.1).mono ?_
  rintro e wx57 ⟨rfl, ho, hw⟩
  replace B := Lib.hid (B.out.within hw (by omega))
  replace H0 := Lib.hid (H0.out.within hw (by omega))
  replace H3 := Lib.hid (H3.out.within hw (by omega))
  replace V2 := Lib.hid (V2.out.within hw (by omega))
  replace O8 := Lib.hid (O8.out.within hw (by omega))
  replace O13 := Lib.hid (O13.out.within hw (by omega))
  replace O18 := Lib.hid (O18.out.within hw (by omega))
  replace O23 := Lib.hid (O23.out.within hw (by omega))
  replace V26 := Lib.hid (V26.out.within hw (by omega))
  replace O35 := Lib.hid (O35.out.within hw (by omega))
  replace O44 := Lib.hid (O44.out.within hw (by omega))
  replace O51 := Lib.hid (O51.out.within hw (by omega))
  replace O30 := Lib.hid (show ROwnI 1 zenc wx57 (wx22.alloc (.cells #[.int .i64 (n0), .slice qa20 (l0).length qc21] 27)).heap.size wx29.heap.size qa27 (zL ((1 + 2 * ((l0).length : Int))) (l3).length) from ⟨ho, Nat.le_trans O30.out.2 hw.size⟩)
  have Z58 := hw.size
  clear hw ho
  obtain ⟨V2_c0, V2_c1, V2_l⟩ := V2.out
  obtain ⟨V26_c0, V26_c1, V26_l⟩ := V26.out
  go_wp2_with fail
  clear V2_c0 V2_c1 V2_l V26_c0 V26_c1 V26_l
  refine (eqInt64S qa32 qa15 qc33 qc16 (standV (n0) (l0) s1 n2 (l3)) _ (by unfold maxLen; omega) O35.out.at_ O18.out.at_).mono ?_
  rintro e wx59 ⟨rfl, hb⟩
  replace B := Lib.hid (B.out.below hb)
  replace H0 := Lib.hid (H0.out.below hb)
  replace H3 := Lib.hid (H3.out.below hb)
  replace V2 := Lib.hid (V2.out.below hb)
  replace O8 := Lib.hid (O8.out.below hb)
  replace O13 := Lib.hid (O13.out.below hb)
  replace O18 := Lib.hid (O18.out.below hb)
  replace O23 := Lib.hid (O23.out.below hb)
  replace V26 := Lib.hid (V26.out.below hb)
  replace O30 := Lib.hid (O30.out.below hb)
  replace O35 := Lib.hid (O35.out.below hb)
  replace O44 := Lib.hid (O44.out.below hb)
  replace O51 := Lib.hid (O51.out.below hb)
  have Z60 := hb.size
  clear hb
  obtain ⟨V2_c0, V2_c1, V2_l⟩ := V2.out
  obtain ⟨V26_c0, V26_c1, V26_l⟩ := V26.out
  go_wp2_with fail
  clear V2_c0 V2_c1 V2_l V26_c0 V26_c1 V26_l
  refine (markInt64S wx29.heap.size wx34.heap.size qa32 qc33 (standV (n0) (l0) s1 n2 (l3)) (1) _ (by omega) (by omega) (by omega) O35.out.1).mono ?_
  rintro e wx61 ⟨rfl, ho, hw⟩
  replace B := Lib.hid (B.out.within hw (by omega))
  replace H0 := Lib.hid (H0.out.within hw (by omega))
  replace H3 := Lib.hid (H3.out.within hw (by omega))
  replace V2 := Lib.hid (V2.out.within hw (by omega))
  replace O8 := Lib.hid (O8.out.within hw (by omega))
  replace O13 := Lib.hid (O13.out.within hw (by omega))
  replace O18 := Lib.hid (O18.out.within hw (by omega))
  replace O23 := Lib.hid (O23.out.within hw (by omega))
  replace V26 := Lib.hid (V26.out.within hw (by omega))
  replace O30 := Lib.hid (O30.out.within hw (by omega))
  replace O44 := Lib.hid (O44.out.within hw (by omega))
  replace O51 := Lib.hid (O51.out.within hw (by omega))
  replace O35 := Lib.hid (show ROwnI 1 zenc wx61 wx29.heap.size wx34.heap.size qa32 (zL (1) (standV (n0) (l0) s1 n2 (l3)).length) from ⟨ho, Nat.le_trans O35.out.2 hw.size⟩)
  have Z62 := hw.size
  clear hw ho
  obtain ⟨V2_c0, V2_c1, V2_l⟩ := V2.out
  obtain ⟨V26_c0, V26_c1, V26_l⟩ := V26.out
  go_wp2_with fail
  clear V2_c0 V2_c1 V2_l V26_c0 V26_c1 V26_l
  refine (heldInt64S qa32 qc33 (standV (n0) (l0) s1 n2 (l3)).length (1) _ (by omega) (by omega) (by omega) O35.out.at_).mono ?_
  rintro e wx63 ⟨rfl, hb⟩
  replace B := Lib.hid (B.out.below hb)
  replace H0 := Lib.hid (H0.out.below hb)
  replace H3 := Lib.hid (H3.out.below hb)
  replace V2 := Lib.hid (V2.out.below hb)
  replace O8 := Lib.hid (O8.out.below hb)
  replace O13 := Lib.hid (O13.out.below hb)
  replace O18 := Lib.hid (O18.out.below hb)
  replace O23 := Lib.hid (O23.out.below hb)
  replace V26 := Lib.hid (V26.out.below hb)
  replace O30 := Lib.hid (O30.out.below hb)
  replace O35 := Lib.hid (O35.out.below hb)
  replace O44 := Lib.hid (O44.out.below hb)
  replace O51 := Lib.hid (O51.out.below hb)
  have Z64 := hb.size
  clear hb
  obtain ⟨V2_c0, V2_c1, V2_l⟩ := V2.out
  obtain ⟨V26_c0, V26_c1, V26_l⟩ := V26.out
  go_wp2_with fail
  clear V2_c0 V2_c1 V2_l V26_c0 V26_c1 V26_l
  refine (toRing (n0) a0 cap0 (l0) _ (by omega) H0.out.at_).mono ?_
  rintro e wx67 ⟨qa65, qc66, rfl, ho, hb⟩
  unfold rv
  replace B := Lib.hid (B.out.below hb)
  replace H0 := Lib.hid (H0.out.below hb)
  replace H3 := Lib.hid (H3.out.below hb)
  replace V2 := Lib.hid (V2.out.below hb)
  replace O8 := Lib.hid (O8.out.below hb)
  replace O13 := Lib.hid (O13.out.below hb)
  replace O18 := Lib.hid (O18.out.below hb)
  replace O23 := Lib.hid (O23.out.below hb)
  replace V26 := Lib.hid (V26.out.below hb)
  replace O30 := Lib.hid (O30.out.below hb)
  replace O35 := Lib.hid (O35.out.below hb)
  replace O44 := Lib.hid (O44.out.below hb)
  replace O51 := Lib.hid (O51.out.below hb)
  have O68 := Lib.hid (show OwnI wx67 wx63.heap.size wx67.heap.size qa65 (l0) from ⟨ho, Nat.le_refl _⟩)
  have Z69 := hb.size
  clear hb ho
  obtain ⟨V2_c0, V2_c1, V2_l⟩ := V2.out
  obtain ⟨V26_c0, V26_c1, V26_l⟩ := V26.out
  go_wp2_with fail
  clear V2_c0 V2_c1 V2_l V26_c0 V26_c1 V26_l
  refine (toInt64S a3 cap3 (l3) _ (by omega) H3.out.at_).mono ?_
  rintro e wx72 ⟨qa70, qc71, rfl, ho, hb⟩
  replace B := Lib.hid (B.out.below hb)
  replace H0 := Lib.hid (H0.out.below hb)
  replace H3 := Lib.hid (H3.out.below hb)
  replace V2 := Lib.hid (V2.out.below hb)
  replace O8 := Lib.hid (O8.out.below hb)
  replace O13 := Lib.hid (O13.out.below hb)
  replace O18 := Lib.hid (O18.out.below hb)
  replace O23 := Lib.hid (O23.out.below hb)
  replace V26 := Lib.hid (V26.out.below hb)
  replace O30 := Lib.hid (O30.out.below hb)
  replace O35 := Lib.hid (O35.out.below hb)
  replace O44 := Lib.hid (O44.out.below hb)
  replace O51 := Lib.hid (O51.out.below hb)
  replace O68 := Lib.hid (O68.out.below hb)
  have O73 := Lib.hid (show ROwnI 1 zenc wx72 wx67.heap.size wx72.heap.size qa70 (l3) from ⟨ho, Nat.le_refl _⟩)
  have Z74 := hb.size
  clear hb ho
  obtain ⟨V2_c0, V2_c1, V2_l⟩ := V2.out
  obtain ⟨V26_c0, V26_c1, V26_l⟩ := V26.out
  go_wp2_with fail
  clear V2_c0 V2_c1 V2_l V26_c0 V26_c1 V26_l
  refine (impl_standIns (n0) qa65 qc66 (l0) s1 n2 qa70 qc71 (l3) _ (by unfold maxLen; omega) HK.out (by unfold maxLen; omega) O68.out.at_ O73.out.at_).mono ?_
  rintro e wx77 ⟨qa75, qc76, rfl, ho, hb⟩
  replace B := Lib.hid (B.out.below hb)
  replace H0 := Lib.hid (H0.out.below hb)
  replace H3 := Lib.hid (H3.out.below hb)
  replace V2 := Lib.hid (V2.out.below hb)
  replace O8 := Lib.hid (O8.out.below hb)
  replace O13 := Lib.hid (O13.out.below hb)
  replace O18 := Lib.hid (O18.out.below hb)
  replace O23 := Lib.hid (O23.out.below hb)
  replace V26 := Lib.hid (V26.out.below hb)
  replace O30 := Lib.hid (O30.out.below hb)
  replace O35 := Lib.hid (O35.out.below hb)
  replace O44 := Lib.hid (O44.out.below hb)
  replace O51 := Lib.hid (O51.out.below hb)
  replace O68 := Lib.hid (O68.out.below hb)
  replace O73 := Lib.hid (O73.out.below hb)
  have O78 := Lib.hid (show ROwnI 1 zenc wx77 wx72.heap.size wx77.heap.size qa75 (standV (n0) (l0) s1 n2 (l3)) from ⟨ho, Nat.le_refl _⟩)
  have Z79 := hb.size
  clear hb ho
  obtain ⟨V2_c0, V2_c1, V2_l⟩ := V2.out
  obtain ⟨V26_c0, V26_c1, V26_l⟩ := V26.out
  go_wp2_with fail
  clear V2_c0 V2_c1 V2_l V26_c0 V26_c1 V26_l
  refine (eqInt64S qa75 qa15 qc76 qc16 (standV (n0) (l0) s1 n2 (l3)) _ (by unfold maxLen; omega) O78.out.at_ O18.out.at_).mono ?_
  rintro e wx80 ⟨rfl, hb⟩
  replace B := Lib.hid (B.out.below hb)
  replace H0 := Lib.hid (H0.out.below hb)
  replace H3 := Lib.hid (H3.out.below hb)
  replace V2 := Lib.hid (V2.out.below hb)
  replace O8 := Lib.hid (O8.out.below hb)
  replace O13 := Lib.hid (O13.out.below hb)
  replace O18 := Lib.hid (O18.out.below hb)
  replace O23 := Lib.hid (O23.out.below hb)
  replace V26 := Lib.hid (V26.out.below hb)
  replace O30 := Lib.hid (O30.out.below hb)
  replace O35 := Lib.hid (O35.out.below hb)
  replace O44 := Lib.hid (O44.out.below hb)
  replace O51 := Lib.hid (O51.out.below hb)
  replace O68 := Lib.hid (O68.out.below hb)
  replace O73 := Lib.hid (O73.out.below hb)
  replace O78 := Lib.hid (O78.out.below hb)
  have Z81 := hb.size
  clear hb
  obtain ⟨V2_c0, V2_c1, V2_l⟩ := V2.out
  obtain ⟨V26_c0, V26_c1, V26_l⟩ := V26.out
  go_wp2_with fail
  clear V2_c0 V2_c1 V2_l V26_c0 V26_c1 V26_l
  refine (heldInt64S qa32 qc33 (standV (n0) (l0) s1 n2 (l3)).length (1) _ (by omega) (by omega) (by omega) O35.out.at_).mono ?_
  rintro e wx82 ⟨rfl, hb⟩
  replace B := Lib.hid (B.out.below hb)
  replace H0 := Lib.hid (H0.out.below hb)
  replace H3 := Lib.hid (H3.out.below hb)
  replace V2 := Lib.hid (V2.out.below hb)
  replace O8 := Lib.hid (O8.out.below hb)
  replace O13 := Lib.hid (O13.out.below hb)
  replace O18 := Lib.hid (O18.out.below hb)
  replace O23 := Lib.hid (O23.out.below hb)
  replace V26 := Lib.hid (V26.out.below hb)
  replace O30 := Lib.hid (O30.out.below hb)
  replace O35 := Lib.hid (O35.out.below hb)
  replace O44 := Lib.hid (O44.out.below hb)
  replace O51 := Lib.hid (O51.out.below hb)
  replace O68 := Lib.hid (O68.out.below hb)
  replace O73 := Lib.hid (O73.out.below hb)
  replace O78 := Lib.hid (O78.out.below hb)
  have Z83 := hb.size
  clear hb
  obtain ⟨V2_c0, V2_c1, V2_l⟩ := V2.out
  obtain ⟨V26_c0, V26_c1, V26_l⟩ := V26.out
  go_wp2
  go_ret
  exact ⟨rfl, B.out⟩
end Go.Proofs.YteibkoaepgdmlaaDoor.Rg
