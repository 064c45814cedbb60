/- The law of SetHas over its contracts. No condition. -/
import Derived.Test.YtflhiopdfkggdaaSetOpen
import Derived.Test.YtflhiopdfkggdaaSetHas
set_option linter.unusedSimpArgs false
set_option linter.unusedVariables false
namespace Go.Proofs.Ytflhiopdfkggdaa.Sb
open Go.RowKit Go.Proofs.Ytflhiopdfkggdaa.Mk Go.Proofs.Ytflhiopdfkggdaa.Rw

set_option maxRecDepth 100000 in
set_option maxHeartbeats 4000000 in
theorem law_SetHas (a0 : Option Addr) (cap0 : Nat) (l0 : List (Int × Int)) (b0 : Option Addr) (dap0 : Nat) (s0 : List Sib) (m1 : Int × Int) (w : World) (h0 : CameSet w a0 b0 l0 s0) (h1 : WfMark m1) :
    Calls Try.prog 10 #[.agg #[.slice a0 l0.length cap0, .slice b0 s0.length dap0], mv m1] w fun e w' => e = .returned (.bool true) ∧ Below w.heap.size w w' := by
  obtain ⟨⟨hm0, hl0, _⟩, hs0, hk0, hd0, hf0⟩ := h0
  have H0 := Lib.hid (InAt.of hm0)
  have K0 := Lib.hid (RIn.of (by decide) hs0)
  have HD := Lib.hid hd0
  have HF := Lib.hid hf0
  clear hm0 hs0 hd0 hf0
  unfold maxLen at hl0 hk0
  obtain ⟨hw1, _⟩ := h1
  have WM := Lib.hid hw1
  obtain ⟨x1, y1⟩ := m1
  unfold mv
  simp only at WM
  clear hw1
  have B := Lib.hid (show Base w w from Below.refl _ _)
  go_enter Try.func10, Try.ntmps10
  have hb := step_alloc w (.cells #[.slice a0 l0.length cap0, .slice b0 s0.length dap0] 76)
  replace B := Lib.hid (B.out.below hb)
  replace H0 := Lib.hid (H0.out.below hb)
  replace K0 := Lib.hid (K0.out.below hb)
  clear hb
  have Z1 : w.heap.size < (w.alloc (.cells #[.slice a0 l0.length cap0, .slice b0 s0.length dap0] 76)).heap.size := by simp
  have yZ1 : (w.alloc (.cells #[.slice a0 l0.length cap0, .slice b0 s0.length dap0] 76)).heap.size ≤ w.heap.size + 1 := by simp
  have V2 := Lib.hid (Var2.new w (.slice a0 l0.length cap0) (.slice b0 s0.length dap0) 76)
  have hb := step_alloc (w.alloc (.cells #[.slice a0 l0.length cap0, .slice b0 s0.length dap0] 76)) (.cells #[.int .i64 x1, .int .i64 y1] 87)
  replace B := Lib.hid (B.out.below hb)
  replace H0 := Lib.hid (H0.out.below hb)
  replace K0 := Lib.hid (K0.out.below hb)
  replace V2 := Lib.hid (V2.out.below hb)
  clear hb
  have Z3 : (w.alloc (.cells #[.slice a0 l0.length cap0, .slice b0 s0.length dap0] 76)).heap.size < ((w.alloc (.cells #[.slice a0 l0.length cap0, .slice b0 s0.length dap0] 76)).alloc (.cells #[.int .i64 x1, .int .i64 y1] 87)).heap.size := by simp
  have yZ3 : ((w.alloc (.cells #[.slice a0 l0.length cap0, .slice b0 s0.length dap0] 76)).alloc (.cells #[.int .i64 x1, .int .i64 y1] 87)).heap.size ≤ (w.alloc (.cells #[.slice a0 l0.length cap0, .slice b0 s0.length dap0] 76)).heap.size + 1 := by simp
  have V4 := Lib.hid (Var2.new (w.alloc (.cells #[.slice a0 l0.length cap0, .slice b0 s0.length dap0] 76)) (.int .i64 x1) (.int .i64 y1) 87)
  simp only [World.size_alloc] at V4
  obtain ⟨V2_c0, V2_c1, V2_l⟩ := V2.out
  obtain ⟨V4_c0, V4_c1, V4_l⟩ := V4.out
  go_wp2_with fail
  clear V2_c0 V2_c1 V2_l V4_c0 V4_c1 V4_l
  refine (szSet a0 b0 cap0 dap0 (l0) (s0) (1048576) _ (by unfold maxLen; omega) (by unfold maxLen; omega) HD.out (by omega) (by omega) K0.out.at_).mono ?_
  rintro e wx5 ⟨r6, rfl, hr, hb⟩
  replace B := Lib.hid (B.out.below hb)
  replace H0 := Lib.hid (H0.out.below hb)
  replace K0 := Lib.hid (K0.out.below hb)
  replace V2 := Lib.hid (V2.out.below hb)
  replace V4 := Lib.hid (V4.out.below hb)
  have Z7 := hb.size
  clear hb
  simp at Z7
  rcases hr with rfl | ⟨q0r6, q1r6, q2r6, q3r6⟩
  · go_wp2
    go_ret
    exact ⟨rfl, B.out⟩
  have hnr6 : ¬ r6 < 0 := by omega
  obtain ⟨V2_c0, V2_c1, V2_l⟩ := V2.out
  obtain ⟨V4_c0, V4_c1, V4_l⟩ := V4.out
  go_wp2_with fail
  clear V2_c0 V2_c1 V2_l V4_c0 V4_c1 V4_l
  have hb := step_drew wx5
  replace B := Lib.hid (B.out.below hb)
  replace H0 := Lib.hid (H0.out.below hb)
  replace K0 := Lib.hid (K0.out.below hb)
  replace V2 := Lib.hid (V2.out.below hb)
  replace V4 := Lib.hid (V4.out.below hb)
  clear hb
  refine wp_region_held_drew (S := (fun w' => w'.cell? ⟨w.heap.size, 0, none⟩ = some (.slice a0 l0.length cap0) ∧ w'.cell? ⟨w.heap.size, 1, none⟩ = some (.slice b0 s0.length dap0) ∧ w'.cell? ⟨w.heap.size + 1, 0, none⟩ = some (.int .i64 x1) ∧ w'.cell? ⟨w.heap.size + 1, 1, none⟩ = some (.int .i64 y1))) (by kernel_rfl) (by exact ⟨V2.out.c0, V2.out.c1, V4.out.c0, V4.out.c1⟩) (fun hHeld => ?_)
  have Z8 : wx5.heap.size ≤ wx5.drew.heap.size := Nat.le_refl _
  generalize wx5.drew = wd9 at Z8 hHeld B H0 K0 V2 V4 ⊢
  refine wpAnyH_take (i := 0) (v := ?_) rfl (by kernel_rfl) (by kernel_rfl) (by kernel_rfl) (fun _ _ _ h => h) (Or.inl ⟨by rfl, fun w hSw => by (try dsimp only at hSw); go_simp; (try with_reducible rfl)⟩) (by assumption) ?_
  try simp only [Act.put, List.setIfInBounds_toArray, List.set_cons_zero, List.set_cons_succ, List.getElem_toArray, List.getElem_cons_zero, List.getElem_cons_succ]
  refine wpAnyH_take (i := 2) (v := ?_) rfl (by kernel_rfl) (by kernel_rfl) (by kernel_rfl) (fun _ _ _ h => h) (Or.inl ⟨by rfl, fun w hSw => by (try dsimp only at hSw); go_simp; (try with_reducible rfl)⟩) (by assumption) ?_
  try simp only [Act.put, List.setIfInBounds_toArray, List.set_cons_zero, List.set_cons_succ, List.getElem_toArray, List.getElem_cons_zero, List.getElem_cons_succ]
  refine wpAnyH_ready (rs := [1]) (by kernel_rfl) (by simp) ?_
  refine AllReadyH.cons rfl (fun K hK => ?_) AllReadyH.nil
  go_simp
  refine (toSet a0 b0 cap0 dap0 (l0) (s0) _ (by omega) (by omega) H0.out.at_ K0.out.at_).mono ?_
  rintro e wx15 ⟨qa10, qc11, qb12, qd13, mid14, rfl, ho, hs, hm1, hm2, hb⟩
  replace B := Lib.hid (B.out.below hb)
  replace H0 := Lib.hid (H0.out.below hb)
  replace K0 := Lib.hid (K0.out.below hb)
  replace V2 := Lib.hid (V2.out.below hb)
  replace V4 := Lib.hid (V4.out.below hb)
  have O16 := Lib.hid (show OwnI wx15 wd9.heap.size mid14 qa10 (l0) from ⟨ho, hm2⟩)
  have O17 := Lib.hid (show ROwnI 4 senc wx15 mid14 wx15.heap.size qb12 (s0) from ⟨hs, Nat.le_refl _⟩)
  have Z18 := hb.size
  have Z18a := hm1
  have Z18b := hm2
  clear hb ho hs hm1 hm2
  go_wp2_with fail
  refine hK.out _ _ (by exact ⟨V2.out.c0, V2.out.c1, V4.out.c0, V4.out.c1⟩) (fun hHeld => ?_)
  clear hK K
  try simp only [Act.put, List.setIfInBounds_toArray, List.set_cons_zero, List.set_cons_succ, List.getElem_toArray, List.getElem_cons_zero, List.getElem_cons_succ]
  refine wpAnyH_ready (rs := [3]) (by kernel_rfl) (by simp) ?_
  refine AllReadyH.cons rfl (fun K hK => ?_) AllReadyH.nil
  go_simp
  refine (toMark ((x1, y1)) _).mono ?_
  rintro e wx19 ⟨rfl, hb⟩
  unfold mv
  replace B := Lib.hid (B.out.below hb)
  replace H0 := Lib.hid (H0.out.below hb)
  replace K0 := Lib.hid (K0.out.below hb)
  replace V2 := Lib.hid (V2.out.below hb)
  replace V4 := Lib.hid (V4.out.below hb)
  replace O16 := Lib.hid (O16.out.below hb)
  replace O17 := Lib.hid (O17.out.below hb)
  have Z20 := hb.size
  clear hb
  go_wp2_with fail
  refine hK.out _ _ (by exact ⟨V2.out.c0, V2.out.c1, V4.out.c0, V4.out.c1⟩) (fun hHeld => ?_)
  clear hK K
  try simp only [Act.put, List.setIfInBounds_toArray, List.set_cons_zero, List.set_cons_succ, List.getElem_toArray, List.getElem_cons_zero, List.getElem_cons_succ]
  refine wpAnyH_ready (rs := [4]) (by kernel_rfl) (by simp) ?_
  refine AllReadyH.cons rfl (fun K hK => ?_) AllReadyH.nil
  go_simp
  refine (spec_setHas qa10 qb12 qc11 qd13 (l0) (s0) ((x1, y1)) _ (by unfold maxLen; omega) (by unfold maxLen; omega) HD.out O16.out.at_ O17.out.at_).mono ?_
  rintro e wx21 ⟨rfl, hb⟩
  replace B := Lib.hid (B.out.below hb)
  replace H0 := Lib.hid (H0.out.below hb)
  replace K0 := Lib.hid (K0.out.below hb)
  replace V2 := Lib.hid (V2.out.below hb)
  replace V4 := Lib.hid (V4.out.below hb)
  replace O16 := Lib.hid (O16.out.below hb)
  replace O17 := Lib.hid (O17.out.below hb)
  have Z22 := hb.size
  clear hb
  go_wp2_with fail
  refine hK.out _ _ (by exact ⟨V2.out.c0, V2.out.c1, V4.out.c0, V4.out.c1⟩) (fun hHeld => ?_)
  clear hK K
  try simp only [Act.put, List.setIfInBounds_toArray, List.set_cons_zero, List.set_cons_succ, List.getElem_toArray, List.getElem_cons_zero, List.getElem_cons_succ]
  refine wpAnyH_take (i := 5) (v := ?_) rfl (by kernel_rfl) (by kernel_rfl) (by kernel_rfl) (fun _ _ _ h => h) (Or.inl ⟨by rfl, fun w hSw => by (try dsimp only at hSw); go_simp; (try with_reducible rfl)⟩) (by assumption) ?_
  try simp only [Act.put, List.setIfInBounds_toArray, List.set_cons_zero, List.set_cons_succ, List.getElem_toArray, List.getElem_cons_zero, List.getElem_cons_succ]
  refine wpAnyH_done (by kernel_rfl) ?_ _
  obtain ⟨V2_c0, V2_c1, V2_l⟩ := V2.out
  obtain ⟨V4_c0, V4_c1, V4_l⟩ := V4.out
  go_wp2_with fail
  clear V2_c0 V2_c1 V2_l V4_c0 V4_c1 V4_l
  refine (toSet a0 b0 cap0 dap0 (l0) (s0) _ (by omega) (by omega) H0.out.at_ K0.out.at_).mono ?_
  rintro e wx28 ⟨qa23, qc24, qb25, qd26, mid27, rfl, ho, hs, hm1, hm2, hb⟩
  replace B := Lib.hid (B.out.below hb)
  replace H0 := Lib.hid (H0.out.below hb)
  replace K0 := Lib.hid (K0.out.below hb)
  replace V2 := Lib.hid (V2.out.below hb)
  replace V4 := Lib.hid (V4.out.below hb)
  replace O16 := Lib.hid (O16.out.below hb)
  replace O17 := Lib.hid (O17.out.below hb)
  have O29 := Lib.hid (show OwnI wx28 wx21.heap.size mid27 qa23 (l0) from ⟨ho, hm2⟩)
  have O30 := Lib.hid (show ROwnI 4 senc wx28 mid27 wx28.heap.size qb25 (s0) from ⟨hs, Nat.le_refl _⟩)
  have Z31 := hb.size
  have Z31a := hm1
  have Z31b := hm2
  clear hb ho hs hm1 hm2
  have hb := step_alloc wx28 (.cells #[.slice qa23 (l0).length qc24, .slice qb25 (s0).length qd26] 47)
  replace B := Lib.hid (B.out.below hb)
  replace H0 := Lib.hid (H0.out.below hb)
  replace K0 := Lib.hid (K0.out.below hb)
  replace V2 := Lib.hid (V2.out.below hb)
  replace V4 := Lib.hid (V4.out.below hb)
  replace O16 := Lib.hid (O16.out.below hb)
  replace O17 := Lib.hid (O17.out.below hb)
  replace O29 := Lib.hid (O29.out.below hb)
  replace O30 := Lib.hid (O30.out.below hb)
  clear hb
  have Z32 : wx28.heap.size < (wx28.alloc (.cells #[.slice qa23 (l0).length qc24, .slice qb25 (s0).length qd26] 47)).heap.size := by simp
  have yZ32 : (wx28.alloc (.cells #[.slice qa23 (l0).length qc24, .slice qb25 (s0).length qd26] 47)).heap.size ≤ wx28.heap.size + 1 := by simp
  have V33 := Lib.hid (Var2.new wx28 (.slice qa23 (l0).length qc24) (.slice qb25 (s0).length qd26) 47)
  obtain ⟨V2_c0, V2_c1, V2_l⟩ := V2.out
  obtain ⟨V4_c0, V4_c1, V4_l⟩ := V4.out
  obtain ⟨V33_c0, V33_c1, V33_l⟩ := V33.out
  go_wp2_with fail
  clear V2_c0 V2_c1 V2_l V4_c0 V4_c1 V4_l V33_c0 V33_c1 V33_l
  have hb := step_drew (wx28.alloc (.cells #[.slice qa23 (l0).length qc24, .slice qb25 (s0).length qd26] 47))
  replace B := Lib.hid (B.out.below hb)
  replace H0 := Lib.hid (H0.out.below hb)
  replace K0 := Lib.hid (K0.out.below hb)
  replace V2 := Lib.hid (V2.out.below hb)
  replace V4 := Lib.hid (V4.out.below hb)
  replace O16 := Lib.hid (O16.out.below hb)
  replace O17 := Lib.hid (O17.out.below hb)
  replace O29 := Lib.hid (O29.out.below hb)
  replace O30 := Lib.hid (O30.out.below hb)
  replace V33 := Lib.hid (V33.out.below hb)
  clear hb
  refine wp_region_held_drew (S := (fun w' => w'.cell? ⟨wx28.heap.size, 0, none⟩ = some (.slice qa23 (l0).length qc24) ∧ w'.cell? ⟨wx28.heap.size, 1, none⟩ = some (.slice qb25 (s0).length qd26) ∧ w'.cell? ⟨w.heap.size + 1, 0, none⟩ = some (.int .i64 x1) ∧ w'.cell? ⟨w.heap.size + 1, 1, none⟩ = some (.int .i64 y1))) (by kernel_rfl) (by exact ⟨V33.out.c0, V33.out.c1, V4.out.c0, V4.out.c1⟩) (fun hHeld => ?_)
  have Z34 : (wx28.alloc (.cells #[.slice qa23 (l0).length qc24, .slice qb25 (s0).length qd26] 47)).heap.size ≤ (wx28.alloc (.cells #[.slice qa23 (l0).length qc24, .slice qb25 (s0).length qd26] 47)).drew.heap.size := Nat.le_refl _
  generalize (wx28.alloc (.cells #[.slice qa23 (l0).length qc24, .slice qb25 (s0).length qd26] 47)).drew = wd35 at Z34 hHeld B H0 K0 V2 V4 O16 O17 O29 O30 V33 ⊢
  refine wpAnyH_take (i := 0) (v := ?_) rfl (by kernel_rfl) (by kernel_rfl) (by kernel_rfl) (fun _ _ _ h => h) (Or.inl ⟨by rfl, fun w hSw => by (try dsimp only at hSw); go_simp; (try with_reducible rfl)⟩) (by assumption) ?_
  try simp only [Act.put, List.setIfInBounds_toArray, List.set_cons_zero, List.set_cons_succ, List.getElem_toArray, List.getElem_cons_zero, List.getElem_cons_succ]
  refine wpAnyH_take (i := 1) (v := ?_) rfl (by kernel_rfl) (by kernel_rfl) (by kernel_rfl) (fun _ _ _ h => h) (Or.inl ⟨by rfl, fun w hSw => by (try dsimp only at hSw); go_simp; (try with_reducible rfl)⟩) (by assumption) ?_
  try simp only [Act.put, List.setIfInBounds_toArray, List.set_cons_zero, List.set_cons_succ, List.getElem_toArray, List.getElem_cons_zero, List.getElem_cons_succ]
  refine wpAnyH_ready (rs := [2]) (by kernel_rfl) (by simp) ?_
  refine AllReadyH.cons rfl (fun K hK => ?_) AllReadyH.nil
  go_simp
  refine (toMark ((x1, y1)) _).mono ?_
  rintro e wx36 ⟨rfl, hb⟩
  unfold mv
  replace B := Lib.hid (B.out.below hb)
  replace H0 := Lib.hid (H0.out.below hb)
  replace K0 := Lib.hid (K0.out.below hb)
  replace V2 := Lib.hid (V2.out.below hb)
  replace V4 := Lib.hid (V4.out.below hb)
  replace O16 := Lib.hid (O16.out.below hb)
  replace O17 := Lib.hid (O17.out.below hb)
  replace O29 := Lib.hid (O29.out.below hb)
  replace O30 := Lib.hid (O30.out.below hb)
  replace V33 := Lib.hid (V33.out.below hb)
  have Z37 := hb.size
  clear hb
  go_wp2_with fail
  refine hK.out _ _ (by exact ⟨V33.out.c0, V33.out.c1, V4.out.c0, V4.out.c1⟩) (fun hHeld => ?_)
  clear hK K
  try simp only [Act.put, List.setIfInBounds_toArray, List.set_cons_zero, List.set_cons_succ, List.getElem_toArray, List.getElem_cons_zero, List.getElem_cons_succ]
  refine wpAnyH_ready (rs := [3]) (by kernel_rfl) (by simp) ?_
  refine AllReadyH.cons rfl (fun K hK => ?_) AllReadyH.nil
  go_simp
  refine (impl_setHas qa23 qb25 qc24 qd26 (l0) (s0) ((x1, y1)) _ (by unfold maxLen; omega) (by unfold maxLen; omega) HD.out HF.out O29.out.at_ O30.out.at_).mono ?_
  rintro e wx38 ⟨rfl, hb⟩
  replace B := Lib.hid (B.out.below hb)
  replace H0 := Lib.hid (H0.out.below hb)
  replace K0 := Lib.hid (K0.out.below hb)
  replace V2 := Lib.hid (V2.out.below hb)
  replace V4 := Lib.hid (V4.out.below hb)
  replace O16 := Lib.hid (O16.out.below hb)
  replace O17 := Lib.hid (O17.out.below hb)
  replace O29 := Lib.hid (O29.out.below hb)
  replace O30 := Lib.hid (O30.out.below hb)
  replace V33 := Lib.hid (V33.out.below hb)
  have Z39 := hb.size
  clear hb
  go_wp2_with fail
  refine hK.out _ _ (by exact ⟨V33.out.c0, V33.out.c1, V4.out.c0, V4.out.c1⟩) (fun hHeld => ?_)
  clear hK K
  try simp only [Act.put, List.setIfInBounds_toArray, List.set_cons_zero, List.set_cons_succ, List.getElem_toArray, List.getElem_cons_zero, List.getElem_cons_succ]
  refine wpAnyH_take (i := 4) (v := ?_) rfl (by kernel_rfl) (by kernel_rfl) (by kernel_rfl) (fun _ _ _ h => h) (Or.inl ⟨by rfl, fun w hSw => by (try dsimp only at hSw); go_simp; (try with_reducible rfl)⟩) (by assumption) ?_
  try simp only [Act.put, List.setIfInBounds_toArray, List.set_cons_zero, List.set_cons_succ, List.getElem_toArray, List.getElem_cons_zero, List.getElem_cons_succ]
  refine wpAnyH_done (by kernel_rfl) ?_ _
  obtain ⟨V2_c0, V2_c1, V2_l⟩ := V2.out
  obtain ⟨V4_c0, V4_c1, V4_l⟩ := V4.out
  obtain ⟨V33_c0, V33_c1, V33_l⟩ := V33.out
  go_wp2_with fail
  clear V2_c0 V2_c1 V2_l V4_c0 V4_c1 V4_l V33_c0 V33_c1 V33_l
  have hb := step_drew wx38
  replace B := Lib.hid (B.out.below hb)
  replace H0 := Lib.hid (H0.out.below hb)
  replace K0 := Lib.hid (K0.out.below hb)
  replace V2 := Lib.hid (V2.out.below hb)
  replace V4 := Lib.hid (V4.out.below hb)
  replace O16 := Lib.hid (O16.out.below hb)
  replace O17 := Lib.hid (O17.out.below hb)
  replace O29 := Lib.hid (O29.out.below hb)
  replace O30 := Lib.hid (O30.out.below hb)
  replace V33 := Lib.hid (V33.out.below hb)
  clear hb
  refine wp_region_held_drew (S := (fun w' => w'.cell? ⟨wx28.heap.size, 0, none⟩ = some (.slice qa23 (l0).length qc24) ∧ w'.cell? ⟨wx28.heap.size, 1, none⟩ = some (.slice qb25 (s0).length qd26) ∧ w'.cell? ⟨w.heap.size, 0, none⟩ = some (.slice a0 l0.length cap0) ∧ w'.cell? ⟨w.heap.size, 1, none⟩ = some (.slice b0 s0.length dap0))) (by kernel_rfl) (by exact ⟨V33.out.c0, V33.out.c1, V2.out.c0, V2.out.c1⟩) (fun hHeld => ?_)
  have Z40 : wx38.heap.size ≤ wx38.drew.heap.size := Nat.le_refl _
  generalize wx38.drew = wd41 at Z40 hHeld B H0 K0 V2 V4 O16 O17 O29 O30 V33 ⊢
  refine wpAnyH_take (i := 0) (v := ?_) rfl (by kernel_rfl) (by kernel_rfl) (by kernel_rfl) (fun _ _ _ h => h) (Or.inl ⟨by rfl, fun w hSw => by (try dsimp only at hSw); go_simp; (try with_reducible rfl)⟩) (by assumption) ?_
  try simp only [Act.put, List.setIfInBounds_toArray, List.set_cons_zero, List.set_cons_succ, List.getElem_toArray, List.getElem_cons_zero, List.getElem_cons_succ]
  refine wpAnyH_take (i := 1) (v := ?_) rfl (by kernel_rfl) (by kernel_rfl) (by kernel_rfl) (fun _ _ _ h => h) (Or.inl ⟨by rfl, fun w hSw => by (try dsimp only at hSw); go_simp; (try with_reducible rfl)⟩) (by assumption) ?_
  try simp only [Act.put, List.setIfInBounds_toArray, List.set_cons_zero, List.set_cons_succ, List.getElem_toArray, List.getElem_cons_zero, List.getElem_cons_succ]
  refine wpAnyH_ready (rs := [2]) (by kernel_rfl) (by simp) ?_
  refine AllReadyH.cons rfl (fun K hK => ?_) AllReadyH.nil
  go_simp
  refine (toSet a0 b0 cap0 dap0 (l0) (s0) _ (by omega) (by omega) H0.out.at_ K0.out.at_).mono ?_
  rintro e wx47 ⟨qa42, qc43, qb44, qd45, mid46, rfl, ho, hs, hm1, hm2, hb⟩
  replace B := Lib.hid (B.out.below hb)
  replace H0 := Lib.hid (H0.out.below hb)
  replace K0 := Lib.hid (K0.out.below hb)
  replace V2 := Lib.hid (V2.out.below hb)
  replace V4 := Lib.hid (V4.out.below hb)
  replace O16 := Lib.hid (O16.out.below hb)
  replace O17 := Lib.hid (O17.out.below hb)
  replace O29 := Lib.hid (O29.out.below hb)
  replace O30 := Lib.hid (O30.out.below hb)
  replace V33 := Lib.hid (V33.out.below hb)
  have O48 := Lib.hid (show OwnI wx47 wd41.heap.size mid46 qa42 (l0) from ⟨ho, hm2⟩)
  have O49 := Lib.hid (show ROwnI 4 senc wx47 mid46 wx47.heap.size qb44 (s0) from ⟨hs, Nat.le_refl _⟩)
  have Z50 := hb.size
  have Z50a := hm1
  have Z50b := hm2
  clear hb ho hs hm1 hm2
  go_wp2_with fail
  refine hK.out _ _ (by exact ⟨V33.out.c0, V33.out.c1, V2.out.c0, V2.out.c1⟩) (fun hHeld => ?_)
  clear hK K
  try simp only [Act.put, List.setIfInBounds_toArray, List.set_cons_zero, List.set_cons_succ, List.getElem_toArray, List.getElem_cons_zero, List.getElem_cons_succ]
  refine wpAnyH_ready (rs := [3]) (by kernel_rfl) (by simp) ?_
  refine AllReadyH.cons rfl (fun K hK => ?_) AllReadyH.nil
  go_simp
  refine (eqSet qa23 qa42 qb25 qb44 qc24 qd26 qc43 qd45 (l0) (s0) _ (by unfold maxLen; omega) (by unfold maxLen; omega) O29.out.at_ O48.out.at_ O30.out.at_ O49.out.at_).mono ?_
  rintro e wx51 ⟨rfl, hb⟩
  replace B := Lib.hid (B.out.below hb)
  replace H0 := Lib.hid (H0.out.below hb)
  replace K0 := Lib.hid (K0.out.below hb)
  replace V2 := Lib.hid (V2.out.below hb)
  replace V4 := Lib.hid (V4.out.below hb)
  replace O16 := Lib.hid (O16.out.below hb)
  replace O17 := Lib.hid (O17.out.below hb)
  replace O29 := Lib.hid (O29.out.below hb)
  replace O30 := Lib.hid (O30.out.below hb)
  replace V33 := Lib.hid (V33.out.below hb)
  replace O48 := Lib.hid (O48.out.below hb)
  replace O49 := Lib.hid (O49.out.below hb)
  have Z52 := hb.size
  clear hb
  go_wp2_with fail
  refine hK.out _ _ (by exact ⟨V33.out.c0, V33.out.c1, V2.out.c0, V2.out.c1⟩) (fun hHeld => ?_)
  clear hK K
  try simp only [Act.put, List.setIfInBounds_toArray, List.set_cons_zero, List.set_cons_succ, List.getElem_toArray, List.getElem_cons_zero, List.getElem_cons_succ]
  refine wpAnyH_take (i := 4) (v := ?_) rfl (by kernel_rfl) (by kernel_rfl) (by kernel_rfl) (fun _ _ _ h => h) (Or.inl ⟨by rfl, fun w hSw => by (try dsimp only at hSw); go_simp; (try with_reducible rfl)⟩) (by assumption) ?_
  try simp only [Act.put, List.setIfInBounds_toArray, List.set_cons_zero, List.set_cons_succ, List.getElem_toArray, List.getElem_cons_zero, List.getElem_cons_succ]
  refine wpAnyH_done (by kernel_rfl) ?_ _
  obtain ⟨V2_c0, V2_c1, V2_l⟩ := V2.out
  obtain ⟨V4_c0, V4_c1, V4_l⟩ := V4.out
  obtain ⟨V33_c0, V33_c1, V33_l⟩ := V33.out
  go_wp2
  go_ret
  exact ⟨rfl, B.out⟩
end Go.Proofs.Ytflhiopdfkggdaa.Sb
