/- The law of Values over its contracts. No condition. -/
import Derived.Test.YtflhiopdfkggdaaSetOpen
import Derived.Test.YtflhiopdfkggdaaValues
import Derived.Test.YtflhiopdfkggdaaZLaw
set_option linter.unusedSimpArgs false
set_option linter.unusedVariables false
namespace Go.Proofs.Ytflhiopdfkggdaa.Sb
open Go.RowKit Go.Proofs.Ytflhiopdfkggdaa.Mk Go.Proofs.Ytflhiopdfkggdaa.Rw

set_option maxRecDepth 100000 in
set_option maxHeartbeats 4000000 in
theorem law_Values (a0 : Option Addr) (cap0 : Nat) (l0 : List (Int × Int)) (b0 : Option Addr) (dap0 : Nat) (s0 : List Sib) (w : World) (h0 : CameSet w a0 b0 l0 s0) :
    Calls Try.prog 11 #[.agg #[.slice a0 l0.length cap0, .slice b0 s0.length dap0]] w fun e w' => e = .returned (.bool true) ∧ Below w.heap.size w w' := by
  obtain ⟨⟨hm0, hl0, _⟩, hs0, hk0, hd0, hf0⟩ := h0
  have H0 := Lib.hid (InAt.of hm0)
  have K0 := Lib.hid (RIn.of (by decide) hs0)
  have HD := Lib.hid hd0
  have HF := Lib.hid hf0
  clear hm0 hs0 hd0 hf0
  unfold maxLen at hl0 hk0
  have B := Lib.hid (show Base w w from Below.refl _ _)
  have hj : (setVals l0 s0).length ≤ 8 := setVals_len l0 s0
  go_enter Try.func11, Try.ntmps11
  have hb := step_alloc w (.cells #[.slice a0 l0.length cap0, .slice b0 s0.length dap0] 76)
  replace B := Lib.hid (B.out.below hb)
  replace H0 := Lib.hid (H0.out.below hb)
  replace K0 := Lib.hid (K0.out.below hb)
  clear hb
  have Z1 : w.heap.size < (w.alloc (.cells #[.slice a0 l0.length cap0, .slice b0 s0.length dap0] 76)).heap.size := by simp
  have yZ1 : (w.alloc (.cells #[.slice a0 l0.length cap0, .slice b0 s0.length dap0] 76)).heap.size ≤ w.heap.size + 1 := by simp
  have V2 := Lib.hid (Var2.new w (.slice a0 l0.length cap0) (.slice b0 s0.length dap0) 76)
  obtain ⟨V2_c0, V2_c1, V2_l⟩ := V2.out
  go_wp2_with fail
  clear V2_c0 V2_c1 V2_l
  refine (szSet a0 b0 cap0 dap0 (l0) (s0) (1048576) _ (by unfold maxLen; omega) (by unfold maxLen; omega) HD.out (by omega) (by omega) K0.out.at_).mono ?_
  rintro e wx3 ⟨r4, rfl, hr, hb⟩
  replace B := Lib.hid (B.out.below hb)
  replace H0 := Lib.hid (H0.out.below hb)
  replace K0 := Lib.hid (K0.out.below hb)
  replace V2 := Lib.hid (V2.out.below hb)
  have Z5 := hb.size
  clear hb
  simp at Z5
  rcases hr with rfl | ⟨q0r4, q1r4, q2r4, q3r4⟩
  · go_wp2
    go_ret
    exact ⟨rfl, B.out⟩
  have hnr4 : ¬ r4 < 0 := by omega
  obtain ⟨V2_c0, V2_c1, V2_l⟩ := V2.out
  go_wp2_with fail
  clear V2_c0 V2_c1 V2_l
  refine (toSet a0 b0 cap0 dap0 (l0) (s0) _ (by omega) (by omega) H0.out.at_ K0.out.at_).mono ?_
  rintro e wx11 ⟨qa6, qc7, qb8, qd9, mid10, rfl, ho, hs, hm1, hm2, hb⟩
  replace B := Lib.hid (B.out.below hb)
  replace H0 := Lib.hid (H0.out.below hb)
  replace K0 := Lib.hid (K0.out.below hb)
  replace V2 := Lib.hid (V2.out.below hb)
  have O12 := Lib.hid (show OwnI wx11 wx3.heap.size mid10 qa6 (l0) from ⟨ho, hm2⟩)
  have O13 := Lib.hid (show ROwnI 4 senc wx11 mid10 wx11.heap.size qb8 (s0) from ⟨hs, Nat.le_refl _⟩)
  have Z14 := hb.size
  have Z14a := hm1
  have Z14b := hm2
  clear hb ho hs hm1 hm2
  obtain ⟨V2_c0, V2_c1, V2_l⟩ := V2.out
  go_wp2_with fail
  clear V2_c0 V2_c1 V2_l
  refine (spec_values qa6 qb8 qc7 qd9 (l0) (s0) _ (by unfold maxLen; omega) (by unfold maxLen; omega) HD.out O12.out.at_ O13.out.at_).mono ?_
  rintro e wx17 ⟨qa15, qc16, rfl, ho, hb⟩
  replace B := Lib.hid (B.out.below hb)
  replace H0 := Lib.hid (H0.out.below hb)
  replace K0 := Lib.hid (K0.out.below hb)
  replace V2 := Lib.hid (V2.out.below hb)
  replace O12 := Lib.hid (O12.out.below hb)
  replace O13 := Lib.hid (O13.out.below hb)
  have O18 := Lib.hid (show ROwnI 1 tenc wx17 wx11.heap.size wx17.heap.size qa15 (setVals (l0) (s0)) from ⟨ho, Nat.le_refl _⟩)
  have Z19 := hb.size
  clear hb ho
  obtain ⟨V2_c0, V2_c1, V2_l⟩ := V2.out
  go_wp2_with fail
  clear V2_c0 V2_c1 V2_l
  refine (toSet a0 b0 cap0 dap0 (l0) (s0) _ (by omega) (by omega) H0.out.at_ K0.out.at_).mono ?_
  rintro e wx25 ⟨qa20, qc21, qb22, qd23, mid24, rfl, ho, hs, hm1, hm2, hb⟩
  replace B := Lib.hid (B.out.below hb)
  replace H0 := Lib.hid (H0.out.below hb)
  replace K0 := Lib.hid (K0.out.below hb)
  replace V2 := Lib.hid (V2.out.below hb)
  replace O12 := Lib.hid (O12.out.below hb)
  replace O13 := Lib.hid (O13.out.below hb)
  replace O18 := Lib.hid (O18.out.below hb)
  have O26 := Lib.hid (show OwnI wx25 wx17.heap.size mid24 qa20 (l0) from ⟨ho, hm2⟩)
  have O27 := Lib.hid (show ROwnI 4 senc wx25 mid24 wx25.heap.size qb22 (s0) from ⟨hs, Nat.le_refl _⟩)
  have Z28 := hb.size
  have Z28a := hm1
  have Z28b := hm2
  clear hb ho hs hm1 hm2
  have hb := step_alloc wx25 (.cells #[.slice qa20 (l0).length qc21, .slice qb22 (s0).length qd23] 47)
  replace B := Lib.hid (B.out.below hb)
  replace H0 := Lib.hid (H0.out.below hb)
  replace K0 := Lib.hid (K0.out.below hb)
  replace V2 := Lib.hid (V2.out.below hb)
  replace O12 := Lib.hid (O12.out.below hb)
  replace O13 := Lib.hid (O13.out.below hb)
  replace O18 := Lib.hid (O18.out.below hb)
  replace O26 := Lib.hid (O26.out.below hb)
  replace O27 := Lib.hid (O27.out.below hb)
  clear hb
  have Z29 : wx25.heap.size < (wx25.alloc (.cells #[.slice qa20 (l0).length qc21, .slice qb22 (s0).length qd23] 47)).heap.size := by simp
  have yZ29 : (wx25.alloc (.cells #[.slice qa20 (l0).length qc21, .slice qb22 (s0).length qd23] 47)).heap.size ≤ wx25.heap.size + 1 := by simp
  have V30 := Lib.hid (Var2.new wx25 (.slice qa20 (l0).length qc21) (.slice qb22 (s0).length qd23) 47)
  obtain ⟨V2_c0, V2_c1, V2_l⟩ := V2.out
  obtain ⟨V30_c0, V30_c1, V30_l⟩ := V30.out
  go_wp2_with fail
  clear V2_c0 V2_c1 V2_l V30_c0 V30_c1 V30_l
  refine (impl_values qa20 qb22 qc21 qd23 (l0) (s0) _ (by unfold maxLen; omega) (by unfold maxLen; omega) HD.out HF.out O26.out.at_ O27.out.at_).mono ?_
  rintro e wx33 ⟨qa31, qc32, rfl, ho, hb⟩
  replace B := Lib.hid (B.out.below hb)
  replace H0 := Lib.hid (H0.out.below hb)
  replace K0 := Lib.hid (K0.out.below hb)
  replace V2 := Lib.hid (V2.out.below hb)
  replace O12 := Lib.hid (O12.out.below hb)
  replace O13 := Lib.hid (O13.out.below hb)
  replace O18 := Lib.hid (O18.out.below hb)
  replace O26 := Lib.hid (O26.out.below hb)
  replace O27 := Lib.hid (O27.out.below hb)
  replace V30 := Lib.hid (V30.out.below hb)
  have O34 := Lib.hid (show ROwnI 1 tenc wx33 (wx25.alloc (.cells #[.slice qa20 (l0).length qc21, .slice qb22 (s0).length qd23] 47)).heap.size wx33.heap.size qa31 (setVals (l0) (s0)) from ⟨ho, Nat.le_refl _⟩)
  have Z35 := hb.size
  clear hb ho
  simp at Z35
  obtain ⟨V2_c0, V2_c1, V2_l⟩ := V2.out
  obtain ⟨V30_c0, V30_c1, V30_l⟩ := V30.out
  go_wp2_with fail
  clear V2_c0 V2_c1 V2_l V30_c0 V30_c1 V30_l
  refine (eqStringS qa31 qa15 qc32 qc16 (setVals (l0) (s0)) _ (by unfold maxLen; omega) O34.out.at_ O18.out.at_).mono ?_
  rintro e wx36 ⟨rfl, hb⟩
  replace B := Lib.hid (B.out.below hb)
  replace H0 := Lib.hid (H0.out.below hb)
  replace K0 := Lib.hid (K0.out.below hb)
  replace V2 := Lib.hid (V2.out.below hb)
  replace O12 := Lib.hid (O12.out.below hb)
  replace O13 := Lib.hid (O13.out.below hb)
  replace O18 := Lib.hid (O18.out.below hb)
  replace O26 := Lib.hid (O26.out.below hb)
  replace O27 := Lib.hid (O27.out.below hb)
  replace V30 := Lib.hid (V30.out.below hb)
  replace O34 := Lib.hid (O34.out.below hb)
  have Z37 := hb.size
  clear hb
  obtain ⟨V2_c0, V2_c1, V2_l⟩ := V2.out
  obtain ⟨V30_c0, V30_c1, V30_l⟩ := V30.out
  go_wp2_with fail
  clear V2_c0 V2_c1 V2_l V30_c0 V30_c1 V30_l
  have hb := step_drew wx36
  replace B := Lib.hid (B.out.below hb)
  replace H0 := Lib.hid (H0.out.below hb)
  replace K0 := Lib.hid (K0.out.below hb)
  replace V2 := Lib.hid (V2.out.below hb)
  replace O12 := Lib.hid (O12.out.below hb)
  replace O13 := Lib.hid (O13.out.below hb)
  replace O18 := Lib.hid (O18.out.below hb)
  replace O26 := Lib.hid (O26.out.below hb)
  replace O27 := Lib.hid (O27.out.below hb)
  replace V30 := Lib.hid (V30.out.below hb)
  replace O34 := Lib.hid (O34.out.below hb)
  clear hb
  refine wp_region_held_drew (S := (fun w' => w'.cell? ⟨wx25.heap.size, 0, none⟩ = some (.slice qa20 (l0).length qc21) ∧ w'.cell? ⟨wx25.heap.size, 1, none⟩ = some (.slice qb22 (s0).length qd23) ∧ w'.cell? ⟨w.heap.size, 0, none⟩ = some (.slice a0 l0.length cap0) ∧ w'.cell? ⟨w.heap.size, 1, none⟩ = some (.slice b0 s0.length dap0))) (by kernel_rfl) (by exact ⟨V30.out.c0, V30.out.c1, V2.out.c0, V2.out.c1⟩) (fun hHeld => ?_)
  have Z38 : wx36.heap.size ≤ wx36.drew.heap.size := Nat.le_refl _
  generalize wx36.drew = wd39 at Z38 hHeld B H0 K0 V2 O12 O13 O18 O26 O27 V30 O34 ⊢
  refine wpAnyH_take (i := 0) (v := ?_) rfl (by kernel_rfl) (by kernel_rfl) (by kernel_rfl) (fun _ _ _ h => h) (Or.inl ⟨by rfl, fun w hSw => by (try dsimp only at hSw); go_simp; (try with_reducible rfl)⟩) (by assumption) ?_
  try simp only [Act.put, List.setIfInBounds_toArray, List.set_cons_zero, List.set_cons_succ, List.getElem_toArray, List.getElem_cons_zero, List.getElem_cons_succ]
  refine wpAnyH_take (i := 1) (v := ?_) rfl (by kernel_rfl) (by kernel_rfl) (by kernel_rfl) (fun _ _ _ h => h) (Or.inl ⟨by rfl, fun w hSw => by (try dsimp only at hSw); go_simp; (try with_reducible rfl)⟩) (by assumption) ?_
  try simp only [Act.put, List.setIfInBounds_toArray, List.set_cons_zero, List.set_cons_succ, List.getElem_toArray, List.getElem_cons_zero, List.getElem_cons_succ]
  refine wpAnyH_ready (rs := [2]) (by kernel_rfl) (by simp) ?_
  refine AllReadyH.cons rfl (fun K hK => ?_) AllReadyH.nil
  go_simp
  refine (toSet a0 b0 cap0 dap0 (l0) (s0) _ (by omega) (by omega) H0.out.at_ K0.out.at_).mono ?_
  rintro e wx45 ⟨qa40, qc41, qb42, qd43, mid44, rfl, ho, hs, hm1, hm2, hb⟩
  replace B := Lib.hid (B.out.below hb)
  replace H0 := Lib.hid (H0.out.below hb)
  replace K0 := Lib.hid (K0.out.below hb)
  replace V2 := Lib.hid (V2.out.below hb)
  replace O12 := Lib.hid (O12.out.below hb)
  replace O13 := Lib.hid (O13.out.below hb)
  replace O18 := Lib.hid (O18.out.below hb)
  replace O26 := Lib.hid (O26.out.below hb)
  replace O27 := Lib.hid (O27.out.below hb)
  replace V30 := Lib.hid (V30.out.below hb)
  replace O34 := Lib.hid (O34.out.below hb)
  have O46 := Lib.hid (show OwnI wx45 wd39.heap.size mid44 qa40 (l0) from ⟨ho, hm2⟩)
  have O47 := Lib.hid (show ROwnI 4 senc wx45 mid44 wx45.heap.size qb42 (s0) from ⟨hs, Nat.le_refl _⟩)
  have Z48 := hb.size
  have Z48a := hm1
  have Z48b := hm2
  clear hb ho hs hm1 hm2
  go_wp2_with fail
  refine hK.out _ _ (by exact ⟨V30.out.c0, V30.out.c1, V2.out.c0, V2.out.c1⟩) (fun hHeld => ?_)
  clear hK K
  try simp only [Act.put, List.setIfInBounds_toArray, List.set_cons_zero, List.set_cons_succ, List.getElem_toArray, List.getElem_cons_zero, List.getElem_cons_succ]
  refine wpAnyH_ready (rs := [3]) (by kernel_rfl) (by simp) ?_
  refine AllReadyH.cons rfl (fun K hK => ?_) AllReadyH.nil
  go_simp
  refine (eqSet qa20 qa40 qb22 qb42 qc21 qd23 qc41 qd43 (l0) (s0) _ (by unfold maxLen; omega) (by unfold maxLen; omega) O26.out.at_ O46.out.at_ O27.out.at_ O47.out.at_).mono ?_
  rintro e wx49 ⟨rfl, hb⟩
  replace B := Lib.hid (B.out.below hb)
  replace H0 := Lib.hid (H0.out.below hb)
  replace K0 := Lib.hid (K0.out.below hb)
  replace V2 := Lib.hid (V2.out.below hb)
  replace O12 := Lib.hid (O12.out.below hb)
  replace O13 := Lib.hid (O13.out.below hb)
  replace O18 := Lib.hid (O18.out.below hb)
  replace O26 := Lib.hid (O26.out.below hb)
  replace O27 := Lib.hid (O27.out.below hb)
  replace V30 := Lib.hid (V30.out.below hb)
  replace O34 := Lib.hid (O34.out.below hb)
  replace O46 := Lib.hid (O46.out.below hb)
  replace O47 := Lib.hid (O47.out.below hb)
  have Z50 := hb.size
  clear hb
  go_wp2_with fail
  refine hK.out _ _ (by exact ⟨V30.out.c0, V30.out.c1, V2.out.c0, V2.out.c1⟩) (fun hHeld => ?_)
  clear hK K
  try simp only [Act.put, List.setIfInBounds_toArray, List.set_cons_zero, List.set_cons_succ, List.getElem_toArray, List.getElem_cons_zero, List.getElem_cons_succ]
  refine wpAnyH_take (i := 4) (v := ?_) rfl (by kernel_rfl) (by kernel_rfl) (by kernel_rfl) (fun _ _ _ h => h) (Or.inl ⟨by rfl, fun w hSw => by (try dsimp only at hSw); go_simp; (try with_reducible rfl)⟩) (by assumption) ?_
  try simp only [Act.put, List.setIfInBounds_toArray, List.set_cons_zero, List.set_cons_succ, List.getElem_toArray, List.getElem_cons_zero, List.getElem_cons_succ]
  refine wpAnyH_done (by kernel_rfl) ?_ _
  obtain ⟨V2_c0, V2_c1, V2_l⟩ := V2.out
  obtain ⟨V30_c0, V30_c1, V30_l⟩ := V30.out
  go_wp2_with fail
  clear V2_c0 V2_c1 V2_l V30_c0 V30_c1 V30_l
  refine (markSetZ (1) (1) rfl wx17.heap.size mid24 wx25.heap.size qa20 qb22 qc21 qd23 (l0) (s0) _ (by omega) (by omega) (by omega) (by omega) (by omega) (by omega) (by omega) O26.out.1 O27.out.1).mono ?_
  rintro e wx51 ⟨rfl, ho, hs, hw⟩
  replace B := Lib.hid (B.out.within hw (by omega))
  replace H0 := Lib.hid (H0.out.within hw (by omega))
  replace K0 := Lib.hid (K0.out.within hw (by omega))
  replace V2 := Lib.hid (V2.out.within hw (by omega))
  replace O12 := Lib.hid (O12.out.within hw (by omega))
  replace O13 := Lib.hid (O13.out.within hw (by omega))
  replace O18 := Lib.hid (O18.out.within hw (by omega))
  replace V30 := Lib.hid (V30.out.within hw (by omega))
  replace O34 := Lib.hid (O34.out.within hw (by omega))
  replace O46 := Lib.hid (O46.out.within hw (by omega))
  replace O47 := Lib.hid (O47.out.within hw (by omega))
  replace O26 := Lib.hid (show OwnI wx51 wx17.heap.size mid24 qa20 (markL ((1 : Nat) : Int) (l0).length) from ⟨ho, Nat.le_trans O26.out.2 hw.size⟩)
  replace O27 := Lib.hid (show ROwnI 4 senc wx51 mid24 wx25.heap.size qb22 (sibL (1 + 2 * (l0).length) (s0).length) from ⟨hs, Nat.le_trans O27.out.2 hw.size⟩)
  have Z52 := hw.size
  clear hw ho hs
  obtain ⟨r53, hr⟩ : ∃ r : Nat, r = 1 + 2 * (l0).length + 4 * (s0).length := ⟨_, rfl⟩
  rw [← hr]
  have Er53 := Lib.hid hr
  have Lr53 : r53 ≤ 90000000 := by omega
  have Nr53 : ¬ (r53 : Int) < 0 := by omega
  have Pr53 : 0 < r53 := by omega
  clear hr
  obtain ⟨V2_c0, V2_c1, V2_l⟩ := V2.out
  obtain ⟨V30_c0, V30_c1, V30_l⟩ := V30.out
  go_wp2_with fail
  clear V2_c0 V2_c1 V2_l V30_c0 V30_c1 V30_l
  refine (eqStringS qa31 qa15 qc32 qc16 (setVals (l0) (s0)) _ (by unfold maxLen; omega) O34.out.at_ O18.out.at_).mono ?_
  rintro e wx54 ⟨rfl, hb⟩
  replace B := Lib.hid (B.out.below hb)
  replace H0 := Lib.hid (H0.out.below hb)
  replace K0 := Lib.hid (K0.out.below hb)
  replace V2 := Lib.hid (V2.out.below hb)
  replace O12 := Lib.hid (O12.out.below hb)
  replace O13 := Lib.hid (O13.out.below hb)
  replace O18 := Lib.hid (O18.out.below hb)
  replace O26 := Lib.hid (O26.out.below hb)
  replace O27 := Lib.hid (O27.out.below hb)
  replace V30 := Lib.hid (V30.out.below hb)
  replace O34 := Lib.hid (O34.out.below hb)
  replace O46 := Lib.hid (O46.out.below hb)
  replace O47 := Lib.hid (O47.out.below hb)
  have Z55 := hb.size
  clear hb
  obtain ⟨V2_c0, V2_c1, V2_l⟩ := V2.out
  obtain ⟨V30_c0, V30_c1, V30_l⟩ := V30.out
  go_wp2_with fail
  clear V2_c0 V2_c1 V2_l V30_c0 V30_c1 V30_l
  refine (markStringZ (1) (1) rfl (wx25.alloc (.cells #[.slice qa20 (l0).length qc21, .slice qb22 (s0).length qd23] 47)).heap.size wx33.heap.size qa31 qc32 (setVals (l0) (s0)) _ (by omega) (by omega) (by omega) O34.out.1).mono ?_
  rintro e wx56 ⟨rfl, ho, hw⟩
  replace B := Lib.hid (B.out.within hw (by omega))
  replace H0 := Lib.hid (H0.out.within hw (by omega))
  replace K0 := Lib.hid (K0.out.within hw (by omega))
  replace V2 := Lib.hid (V2.out.within hw (by omega))
  replace O12 := Lib.hid (O12.out.within hw (by omega))
  replace O13 := Lib.hid (O13.out.within hw (by omega))
  replace O18 := Lib.hid (O18.out.within hw (by omega))
  replace O26 := Lib.hid (O26.out.within hw (by omega))
  replace O27 := Lib.hid (O27.out.within hw (by omega))
  replace V30 := Lib.hid (V30.out.within hw (by omega))
  replace O46 := Lib.hid (O46.out.within hw (by omega))
  replace O47 := Lib.hid (O47.out.within hw (by omega))
  replace O34 := Lib.hid (show ROwnI 1 tenc wx56 (wx25.alloc (.cells #[.slice qa20 (l0).length qc21, .slice qb22 (s0).length qd23] 47)).heap.size wx33.heap.size qa31 (strL (1) (setVals (l0) (s0)).length) from ⟨ho, Nat.le_trans O34.out.2 hw.size⟩)
  have Z57 := hw.size
  clear hw ho
  obtain ⟨r58, hr⟩ : ∃ r : Nat, r = 1 + (setVals (l0) (s0)).length := ⟨_, rfl⟩
  rw [← hr]
  have Er58 := Lib.hid hr
  have Lr58 : r58 ≤ 90000000 := by omega
  have Nr58 : ¬ (r58 : Int) < 0 := by omega
  have Pr58 : 0 < r58 := by omega
  clear hr
  obtain ⟨V2_c0, V2_c1, V2_l⟩ := V2.out
  obtain ⟨V30_c0, V30_c1, V30_l⟩ := V30.out
  go_wp2_with fail
  clear V2_c0 V2_c1 V2_l V30_c0 V30_c1 V30_l
  refine (heldStringZ (1) (1) rfl qa31 qc32 (setVals (l0) (s0)).length _ (by omega) (by omega) (by omega) O34.out.at_).mono ?_
  rintro e wx59 ⟨rfl, hb⟩
  replace B := Lib.hid (B.out.below hb)
  replace H0 := Lib.hid (H0.out.below hb)
  replace K0 := Lib.hid (K0.out.below hb)
  replace V2 := Lib.hid (V2.out.below hb)
  replace O12 := Lib.hid (O12.out.below hb)
  replace O13 := Lib.hid (O13.out.below hb)
  replace O18 := Lib.hid (O18.out.below hb)
  replace O26 := Lib.hid (O26.out.below hb)
  replace O27 := Lib.hid (O27.out.below hb)
  replace V30 := Lib.hid (V30.out.below hb)
  replace O34 := Lib.hid (O34.out.below hb)
  replace O46 := Lib.hid (O46.out.below hb)
  replace O47 := Lib.hid (O47.out.below hb)
  have Z60 := hb.size
  clear hb
  rw [← Er58.out]
  obtain ⟨V2_c0, V2_c1, V2_l⟩ := V2.out
  obtain ⟨V30_c0, V30_c1, V30_l⟩ := V30.out
  go_wp2_with fail
  clear V2_c0 V2_c1 V2_l V30_c0 V30_c1 V30_l
  refine (toSet a0 b0 cap0 dap0 (l0) (s0) _ (by omega) (by omega) H0.out.at_ K0.out.at_).mono ?_
  rintro e wx66 ⟨qa61, qc62, qb63, qd64, mid65, rfl, ho, hs, hm1, hm2, hb⟩
  replace B := Lib.hid (B.out.below hb)
  replace H0 := Lib.hid (H0.out.below hb)
  replace K0 := Lib.hid (K0.out.below hb)
  replace V2 := Lib.hid (V2.out.below hb)
  replace O12 := Lib.hid (O12.out.below hb)
  replace O13 := Lib.hid (O13.out.below hb)
  replace O18 := Lib.hid (O18.out.below hb)
  replace O26 := Lib.hid (O26.out.below hb)
  replace O27 := Lib.hid (O27.out.below hb)
  replace V30 := Lib.hid (V30.out.below hb)
  replace O34 := Lib.hid (O34.out.below hb)
  replace O46 := Lib.hid (O46.out.below hb)
  replace O47 := Lib.hid (O47.out.below hb)
  have O67 := Lib.hid (show OwnI wx66 wx59.heap.size mid65 qa61 (l0) from ⟨ho, hm2⟩)
  have O68 := Lib.hid (show ROwnI 4 senc wx66 mid65 wx66.heap.size qb63 (s0) from ⟨hs, Nat.le_refl _⟩)
  have Z69 := hb.size
  have Z69a := hm1
  have Z69b := hm2
  clear hb ho hs hm1 hm2
  obtain ⟨V2_c0, V2_c1, V2_l⟩ := V2.out
  obtain ⟨V30_c0, V30_c1, V30_l⟩ := V30.out
  go_wp2_with fail
  clear V2_c0 V2_c1 V2_l V30_c0 V30_c1 V30_l
  refine (impl_values qa61 qb63 qc62 qd64 (l0) (s0) _ (by unfold maxLen; omega) (by unfold maxLen; omega) HD.out HF.out O67.out.at_ O68.out.at_).mono ?_
  rintro e wx72 ⟨qa70, qc71, rfl, ho, hb⟩
  replace B := Lib.hid (B.out.below hb)
  replace H0 := Lib.hid (H0.out.below hb)
  replace K0 := Lib.hid (K0.out.below hb)
  replace V2 := Lib.hid (V2.out.below hb)
  replace O12 := Lib.hid (O12.out.below hb)
  replace O13 := Lib.hid (O13.out.below hb)
  replace O18 := Lib.hid (O18.out.below hb)
  replace O26 := Lib.hid (O26.out.below hb)
  replace O27 := Lib.hid (O27.out.below hb)
  replace V30 := Lib.hid (V30.out.below hb)
  replace O34 := Lib.hid (O34.out.below hb)
  replace O46 := Lib.hid (O46.out.below hb)
  replace O47 := Lib.hid (O47.out.below hb)
  replace O67 := Lib.hid (O67.out.below hb)
  replace O68 := Lib.hid (O68.out.below hb)
  have O73 := Lib.hid (show ROwnI 1 tenc wx72 wx66.heap.size wx72.heap.size qa70 (setVals (l0) (s0)) from ⟨ho, Nat.le_refl _⟩)
  have Z74 := hb.size
  clear hb ho
  obtain ⟨V2_c0, V2_c1, V2_l⟩ := V2.out
  obtain ⟨V30_c0, V30_c1, V30_l⟩ := V30.out
  go_wp2_with fail
  clear V2_c0 V2_c1 V2_l V30_c0 V30_c1 V30_l
  refine (eqStringS qa70 qa15 qc71 qc16 (setVals (l0) (s0)) _ (by unfold maxLen; omega) O73.out.at_ O18.out.at_).mono ?_
  rintro e wx75 ⟨rfl, hb⟩
  replace B := Lib.hid (B.out.below hb)
  replace H0 := Lib.hid (H0.out.below hb)
  replace K0 := Lib.hid (K0.out.below hb)
  replace V2 := Lib.hid (V2.out.below hb)
  replace O12 := Lib.hid (O12.out.below hb)
  replace O13 := Lib.hid (O13.out.below hb)
  replace O18 := Lib.hid (O18.out.below hb)
  replace O26 := Lib.hid (O26.out.below hb)
  replace O27 := Lib.hid (O27.out.below hb)
  replace V30 := Lib.hid (V30.out.below hb)
  replace O34 := Lib.hid (O34.out.below hb)
  replace O46 := Lib.hid (O46.out.below hb)
  replace O47 := Lib.hid (O47.out.below hb)
  replace O67 := Lib.hid (O67.out.below hb)
  replace O68 := Lib.hid (O68.out.below hb)
  replace O73 := Lib.hid (O73.out.below hb)
  have Z76 := hb.size
  clear hb
  obtain ⟨V2_c0, V2_c1, V2_l⟩ := V2.out
  obtain ⟨V30_c0, V30_c1, V30_l⟩ := V30.out
  go_wp2_with fail
  clear V2_c0 V2_c1 V2_l V30_c0 V30_c1 V30_l
  refine (heldStringZ (1) (1) rfl qa31 qc32 (setVals (l0) (s0)).length _ (by omega) (by omega) (by omega) O34.out.at_).mono ?_
  rintro e wx77 ⟨rfl, hb⟩
  replace B := Lib.hid (B.out.below hb)
  replace H0 := Lib.hid (H0.out.below hb)
  replace K0 := Lib.hid (K0.out.below hb)
  replace V2 := Lib.hid (V2.out.below hb)
  replace O12 := Lib.hid (O12.out.below hb)
  replace O13 := Lib.hid (O13.out.below hb)
  replace O18 := Lib.hid (O18.out.below hb)
  replace O26 := Lib.hid (O26.out.below hb)
  replace O27 := Lib.hid (O27.out.below hb)
  replace V30 := Lib.hid (V30.out.below hb)
  replace O34 := Lib.hid (O34.out.below hb)
  replace O46 := Lib.hid (O46.out.below hb)
  replace O47 := Lib.hid (O47.out.below hb)
  replace O67 := Lib.hid (O67.out.below hb)
  replace O68 := Lib.hid (O68.out.below hb)
  replace O73 := Lib.hid (O73.out.below hb)
  have Z78 := hb.size
  clear hb
  rw [← Er58.out]
  obtain ⟨V2_c0, V2_c1, V2_l⟩ := V2.out
  obtain ⟨V30_c0, V30_c1, V30_l⟩ := V30.out
  go_wp2
  go_ret
  exact ⟨rfl, B.out⟩
end Go.Proofs.Ytflhiopdfkggdaa.Sb
