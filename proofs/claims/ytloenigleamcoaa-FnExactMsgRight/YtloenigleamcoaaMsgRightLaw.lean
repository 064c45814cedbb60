/- The law of MsgRight over its contracts. No condition. -/
import Derived.Test.YtloenigleamcoaaMsgOpen
import Derived.Test.YtloenigleamcoaaMsgLaw0
import Derived.Test.YtloenigleamcoaaMsgVar
import Derived.Test.YtloenigleamcoaaMsgRightS
import Derived.Test.YtloenigleamcoaaMsgI
set_option linter.unusedSimpArgs false
set_option linter.unusedVariables false
namespace Go.Proofs.Ytloenigleamcoaa.Sb
open Go.RowKit Go.Proofs.Ytloenigleamcoaa.Mk Go.Proofs.Ytloenigleamcoaa.Rw

set_option maxRecDepth 100000 in
set_option maxHeartbeats 4000000 in
theorem law_MsgRight (kd0 fr0 tq0 rq0 : Int) (ky0 : ByteArray) (ow0 : Int) (a0 : Option Addr) (cap0 : Nat) (l0 : List (Int × Int)) (b0 : Option Addr) (dap0 : Nat) (s0 : List Sib) (w : World) (h0 : CameMsg w kd0 fr0 tq0 rq0 ky0 ow0 a0 b0 l0 s0) :
    Calls Try.prog 3 #[.agg #[.int .i64 kd0, .int .i64 fr0, .int .i64 tq0, .int .i64 rq0, .string ky0, .int .i64 ow0, .slice a0 l0.length cap0, .slice b0 s0.length dap0]] w fun e w' => e = .returned (.bool true) ∧ Below w.heap.size w w' := by
  obtain ⟨⟨⟨hm0, hl0, _⟩, hs0, hk0, hd0, hf0⟩, hi0, hi1, hi2, hi3, hi4, hi5⟩ := h0
  have H0 := Lib.hid (InAt.of hm0)
  have K0 := Lib.hid (RIn.of (by decide) hs0)
  have HD0 := Lib.hid hd0
  have HF0 := Lib.hid hf0
  have HY0 := Lib.hid hi4
  clear hm0 hs0 hd0 hf0 hi0 hi1 hi2 hi3 hi5
  unfold maxLen at hl0 hk0 hi4
  have B := Lib.hid (show Base w w from Below.refl _ _)
  go_enter Try.func3, Try.ntmps3
  have hb := step_alloc w (.cells #[.int .i64 kd0, .int .i64 fr0, .int .i64 tq0, .int .i64 rq0, .string ky0, .int .i64 ow0, .slice a0 l0.length cap0, .slice b0 s0.length dap0] 27)
  replace B := Lib.hid (B.out.below hb)
  replace H0 := Lib.hid (H0.out.below hb)
  replace K0 := Lib.hid (K0.out.below hb)
  clear hb
  have Z1 : w.heap.size < (w.alloc (.cells #[.int .i64 kd0, .int .i64 fr0, .int .i64 tq0, .int .i64 rq0, .string ky0, .int .i64 ow0, .slice a0 l0.length cap0, .slice b0 s0.length dap0] 27)).heap.size := by simp
  have yZ1 : (w.alloc (.cells #[.int .i64 kd0, .int .i64 fr0, .int .i64 tq0, .int .i64 rq0, .string ky0, .int .i64 ow0, .slice a0 l0.length cap0, .slice b0 s0.length dap0] 27)).heap.size ≤ w.heap.size + 1 := by simp
  have V2 := Lib.hid (Var8.new w (.int .i64 kd0) (.int .i64 fr0) (.int .i64 tq0) (.int .i64 rq0) (.string ky0) (.int .i64 ow0) (.slice a0 l0.length cap0) (.slice b0 s0.length dap0) 27)
  obtain ⟨V2_c0, V2_c1, V2_c2, V2_c3, V2_c4, V2_c5, V2_c6, V2_c7, V2_l⟩ := V2.out
  go_wp2_with fail
  clear V2_c0 V2_c1 V2_c2 V2_c3 V2_c4 V2_c5 V2_c6 V2_c7 V2_l
  refine (szMsg (kd0) (fr0) (tq0) (rq0) (ky0) (ow0) a0 b0 cap0 dap0 (l0) (s0) (1048576) _ (by unfold maxLen; omega) (by unfold maxLen; omega) HD0.out HY0.out (by omega) (by omega) K0.out.at_).mono ?_
  rintro e wx3 ⟨r4, rfl, hr, hb⟩
  replace B := Lib.hid (B.out.below hb)
  replace H0 := Lib.hid (H0.out.below hb)
  replace K0 := Lib.hid (K0.out.below hb)
  replace V2 := Lib.hid (V2.out.below hb)
  have Z5 := hb.size
  clear hb
  simp at Z5
  rcases hr with rfl | ⟨q0r4, q1r4, q2r4, q3r4, q4r4⟩
  · go_wp2
    go_ret
    exact ⟨rfl, B.out⟩
  have hnr4 : ¬ r4 < 0 := by omega
  obtain ⟨V2_c0, V2_c1, V2_c2, V2_c3, V2_c4, V2_c5, V2_c6, V2_c7, V2_l⟩ := V2.out
  go_wp2_with fail
  clear V2_c0 V2_c1 V2_c2 V2_c3 V2_c4 V2_c5 V2_c6 V2_c7 V2_l
  refine (toMsg (kd0) (fr0) (tq0) (rq0) (ky0) (ow0) a0 b0 cap0 dap0 (l0) (s0) _ (by omega) (by omega) H0.out.at_ K0.out.at_).mono ?_
  rintro e wx11 ⟨qa6, qc7, qb8, qd9, mid10, rfl, ho, hs, hm1, hm2, hb⟩
  replace B := Lib.hid (B.out.below hb)
  replace H0 := Lib.hid (H0.out.below hb)
  replace K0 := Lib.hid (K0.out.below hb)
  replace V2 := Lib.hid (V2.out.below hb)
  have O12 := Lib.hid (show OwnI wx11 wx3.heap.size mid10 qa6 (l0) from ⟨ho, hm2⟩)
  have O13 := Lib.hid (show ROwnI 4 senc wx11 mid10 wx11.heap.size qb8 (s0) from ⟨hs, Nat.le_refl _⟩)
  have Z14 := hb.size
  have Z14a := hm1
  have Z14b := hm2
  clear hb ho hs hm1 hm2
  obtain ⟨V2_c0, V2_c1, V2_c2, V2_c3, V2_c4, V2_c5, V2_c6, V2_c7, V2_l⟩ := V2.out
  go_wp2_with fail
  clear V2_c0 V2_c1 V2_c2 V2_c3 V2_c4 V2_c5 V2_c6 V2_c7 V2_l
  refine (spec_msgRight (kd0) (fr0) (tq0) (rq0) (ky0) (ow0) qa6 qb8 qc7 qd9 (l0) (s0) _ (by unfold maxLen; omega) (by unfold maxLen; omega) HD0.out HY0.out O12.out.at_ O13.out.at_).mono ?_
  rintro e wx15 ⟨rfl, hb⟩
  replace B := Lib.hid (B.out.below hb)
  replace H0 := Lib.hid (H0.out.below hb)
  replace K0 := Lib.hid (K0.out.below hb)
  replace V2 := Lib.hid (V2.out.below hb)
  replace O12 := Lib.hid (O12.out.below hb)
  replace O13 := Lib.hid (O13.out.below hb)
  have Z16 := hb.size
  clear hb
  obtain ⟨V2_c0, V2_c1, V2_c2, V2_c3, V2_c4, V2_c5, V2_c6, V2_c7, V2_l⟩ := V2.out
  go_wp2_with fail
  clear V2_c0 V2_c1 V2_c2 V2_c3 V2_c4 V2_c5 V2_c6 V2_c7 V2_l
  refine (toMsg (kd0) (fr0) (tq0) (rq0) (ky0) (ow0) a0 b0 cap0 dap0 (l0) (s0) _ (by omega) (by omega) H0.out.at_ K0.out.at_).mono ?_
  rintro e wx22 ⟨qa17, qc18, qb19, qd20, mid21, rfl, ho, hs, hm1, hm2, hb⟩
  replace B := Lib.hid (B.out.below hb)
  replace H0 := Lib.hid (H0.out.below hb)
  replace K0 := Lib.hid (K0.out.below hb)
  replace V2 := Lib.hid (V2.out.below hb)
  replace O12 := Lib.hid (O12.out.below hb)
  replace O13 := Lib.hid (O13.out.below hb)
  have O23 := Lib.hid (show OwnI wx22 wx15.heap.size mid21 qa17 (l0) from ⟨ho, hm2⟩)
  have O24 := Lib.hid (show ROwnI 4 senc wx22 mid21 wx22.heap.size qb19 (s0) from ⟨hs, Nat.le_refl _⟩)
  have Z25 := hb.size
  have Z25a := hm1
  have Z25b := hm2
  clear hb ho hs hm1 hm2
  have hb := step_alloc wx22 (.cells #[.int .i64 kd0, .int .i64 fr0, .int .i64 tq0, .int .i64 rq0, .string ky0, .int .i64 ow0, .slice qa17 (l0).length qc18, .slice qb19 (s0).length qd20] 35)
  replace B := Lib.hid (B.out.below hb)
  replace H0 := Lib.hid (H0.out.below hb)
  replace K0 := Lib.hid (K0.out.below hb)
  replace V2 := Lib.hid (V2.out.below hb)
  replace O12 := Lib.hid (O12.out.below hb)
  replace O13 := Lib.hid (O13.out.below hb)
  replace O23 := Lib.hid (O23.out.below hb)
  replace O24 := Lib.hid (O24.out.below hb)
  clear hb
  have Z26 : wx22.heap.size < (wx22.alloc (.cells #[.int .i64 kd0, .int .i64 fr0, .int .i64 tq0, .int .i64 rq0, .string ky0, .int .i64 ow0, .slice qa17 (l0).length qc18, .slice qb19 (s0).length qd20] 35)).heap.size := by simp
  have yZ26 : (wx22.alloc (.cells #[.int .i64 kd0, .int .i64 fr0, .int .i64 tq0, .int .i64 rq0, .string ky0, .int .i64 ow0, .slice qa17 (l0).length qc18, .slice qb19 (s0).length qd20] 35)).heap.size ≤ wx22.heap.size + 1 := by simp
  have V27 := Lib.hid (Var8.new wx22 (.int .i64 kd0) (.int .i64 fr0) (.int .i64 tq0) (.int .i64 rq0) (.string ky0) (.int .i64 ow0) (.slice qa17 (l0).length qc18) (.slice qb19 (s0).length qd20) 35)
  obtain ⟨V2_c0, V2_c1, V2_c2, V2_c3, V2_c4, V2_c5, V2_c6, V2_c7, V2_l⟩ := V2.out
  obtain ⟨V27_c0, V27_c1, V27_c2, V27_c3, V27_c4, V27_c5, V27_c6, V27_c7, V27_l⟩ := V27.out
  go_wp2_with fail
  clear V2_c0 V2_c1 V2_c2 V2_c3 V2_c4 V2_c5 V2_c6 V2_c7 V2_l V27_c0 V27_c1 V27_c2 V27_c3 V27_c4 V27_c5 V27_c6 V27_c7 V27_l
  refine (impl_msgRight (kd0) (fr0) (tq0) (rq0) (ky0) (ow0) qa17 qb19 qc18 qd20 (l0) (s0) _ HY0.out (by unfold maxLen; omega) (by unfold maxLen; omega) HD0.out HF0.out O23.out.at_ O24.out.at_).mono ?_
  rintro e wx28 ⟨rfl, hb⟩
  replace B := Lib.hid (B.out.below hb)
  replace H0 := Lib.hid (H0.out.below hb)
  replace K0 := Lib.hid (K0.out.below hb)
  replace V2 := Lib.hid (V2.out.below hb)
  replace O12 := Lib.hid (O12.out.below hb)
  replace O13 := Lib.hid (O13.out.below hb)
  replace O23 := Lib.hid (O23.out.below hb)
  replace O24 := Lib.hid (O24.out.below hb)
  replace V27 := Lib.hid (V27.out.below hb)
  have Z29 := hb.size
  clear hb
  simp at Z29
  obtain ⟨V2_c0, V2_c1, V2_c2, V2_c3, V2_c4, V2_c5, V2_c6, V2_c7, V2_l⟩ := V2.out
  obtain ⟨V27_c0, V27_c1, V27_c2, V27_c3, V27_c4, V27_c5, V27_c6, V27_c7, V27_l⟩ := V27.out
  go_wp2_with fail
  clear V2_c0 V2_c1 V2_c2 V2_c3 V2_c4 V2_c5 V2_c6 V2_c7 V2_l V27_c0 V27_c1 V27_c2 V27_c3 V27_c4 V27_c5 V27_c6 V27_c7 V27_l
  have hb := step_drew wx28
  replace B := Lib.hid (B.out.below hb)
  replace H0 := Lib.hid (H0.out.below hb)
  replace K0 := Lib.hid (K0.out.below hb)
  replace V2 := Lib.hid (V2.out.below hb)
  replace O12 := Lib.hid (O12.out.below hb)
  replace O13 := Lib.hid (O13.out.below hb)
  replace O23 := Lib.hid (O23.out.below hb)
  replace O24 := Lib.hid (O24.out.below hb)
  replace V27 := Lib.hid (V27.out.below hb)
  clear hb
  refine wp_region_held_drew (S := (fun w' => w'.cell? ⟨wx22.heap.size, 0, none⟩ = some (.int .i64 kd0) ∧ w'.cell? ⟨wx22.heap.size, 1, none⟩ = some (.int .i64 fr0) ∧ w'.cell? ⟨wx22.heap.size, 2, none⟩ = some (.int .i64 tq0) ∧ w'.cell? ⟨wx22.heap.size, 3, none⟩ = some (.int .i64 rq0) ∧ w'.cell? ⟨wx22.heap.size, 4, none⟩ = some (.string ky0) ∧ w'.cell? ⟨wx22.heap.size, 5, none⟩ = some (.int .i64 ow0) ∧ w'.cell? ⟨wx22.heap.size, 6, none⟩ = some (.slice qa17 (l0).length qc18) ∧ w'.cell? ⟨wx22.heap.size, 7, none⟩ = some (.slice qb19 (s0).length qd20) ∧ w'.cell? ⟨w.heap.size, 0, none⟩ = some (.int .i64 kd0) ∧ w'.cell? ⟨w.heap.size, 1, none⟩ = some (.int .i64 fr0) ∧ w'.cell? ⟨w.heap.size, 2, none⟩ = some (.int .i64 tq0) ∧ w'.cell? ⟨w.heap.size, 3, none⟩ = some (.int .i64 rq0) ∧ w'.cell? ⟨w.heap.size, 4, none⟩ = some (.string ky0) ∧ w'.cell? ⟨w.heap.size, 5, none⟩ = some (.int .i64 ow0) ∧ w'.cell? ⟨w.heap.size, 6, none⟩ = some (.slice a0 l0.length cap0) ∧ w'.cell? ⟨w.heap.size, 7, none⟩ = some (.slice b0 s0.length dap0))) (by kernel_rfl) (by exact ⟨V27.out.c0, V27.out.c1, V27.out.c2, V27.out.c3, V27.out.c4, V27.out.c5, V27.out.c6, V27.out.c7, V2.out.c0, V2.out.c1, V2.out.c2, V2.out.c3, V2.out.c4, V2.out.c5, V2.out.c6, V2.out.c7⟩) (fun hHeld => ?_)
  have Z30 : wx28.heap.size ≤ wx28.drew.heap.size := Nat.le_refl _
  generalize wx28.drew = wd31 at Z30 hHeld B H0 K0 V2 O12 O13 O23 O24 V27 ⊢
  refine wpAnyH_take (i := 0) (v := ?_) rfl (by kernel_rfl) (by kernel_rfl) (by kernel_rfl) (fun _ _ _ h => h) (Or.inl ⟨by rfl, fun w hSw => by (try dsimp only at hSw); go_simp; (try with_reducible rfl)⟩) (by assumption) ?_
  try simp only [Act.put, List.setIfInBounds_toArray, List.set_cons_zero, List.set_cons_succ, List.getElem_toArray, List.getElem_cons_zero, List.getElem_cons_succ]
  refine wpAnyH_take (i := 1) (v := ?_) rfl (by kernel_rfl) (by kernel_rfl) (by kernel_rfl) (fun _ _ _ h => h) (Or.inl ⟨by rfl, fun w hSw => by (try dsimp only at hSw); go_simp; (try with_reducible rfl)⟩) (by assumption) ?_
  try simp only [Act.put, List.setIfInBounds_toArray, List.set_cons_zero, List.set_cons_succ, List.getElem_toArray, List.getElem_cons_zero, List.getElem_cons_succ]
  refine wpAnyH_ready (rs := [2]) (by kernel_rfl) (by simp) ?_
  refine AllReadyH.cons rfl (fun K hK => ?_) AllReadyH.nil
  go_simp
  refine (toMsg (kd0) (fr0) (tq0) (rq0) (ky0) (ow0) a0 b0 cap0 dap0 (l0) (s0) _ (by omega) (by omega) H0.out.at_ K0.out.at_).mono ?_
  rintro e wx37 ⟨qa32, qc33, qb34, qd35, mid36, rfl, ho, hs, hm1, hm2, hb⟩
  replace B := Lib.hid (B.out.below hb)
  replace H0 := Lib.hid (H0.out.below hb)
  replace K0 := Lib.hid (K0.out.below hb)
  replace V2 := Lib.hid (V2.out.below hb)
  replace O12 := Lib.hid (O12.out.below hb)
  replace O13 := Lib.hid (O13.out.below hb)
  replace O23 := Lib.hid (O23.out.below hb)
  replace O24 := Lib.hid (O24.out.below hb)
  replace V27 := Lib.hid (V27.out.below hb)
  have O38 := Lib.hid (show OwnI wx37 wd31.heap.size mid36 qa32 (l0) from ⟨ho, hm2⟩)
  have O39 := Lib.hid (show ROwnI 4 senc wx37 mid36 wx37.heap.size qb34 (s0) from ⟨hs, Nat.le_refl _⟩)
  have Z40 := hb.size
  have Z40a := hm1
  have Z40b := hm2
  clear hb ho hs hm1 hm2
  go_wp2_with fail
  refine hK.out _ _ (by exact ⟨V27.out.c0, V27.out.c1, V27.out.c2, V27.out.c3, V27.out.c4, V27.out.c5, V27.out.c6, V27.out.c7, V2.out.c0, V2.out.c1, V2.out.c2, V2.out.c3, V2.out.c4, V2.out.c5, V2.out.c6, V2.out.c7⟩) (fun hHeld => ?_)
  clear hK K
  try simp only [Act.put, List.setIfInBounds_toArray, List.set_cons_zero, List.set_cons_succ, List.getElem_toArray, List.getElem_cons_zero, List.getElem_cons_succ]
  refine wpAnyH_ready (rs := [3]) (by kernel_rfl) (by simp) ?_
  refine AllReadyH.cons rfl (fun K hK => ?_) AllReadyH.nil
  go_simp
  refine (eqMsg (kd0) (fr0) (tq0) (rq0) (ky0) (ow0) qa17 qa32 qb19 qb34 qc18 qd20 qc33 qd35 (l0) (s0) _ (by unfold maxLen; omega) (by unfold maxLen; omega) O23.out.at_ O38.out.at_ O24.out.at_ O39.out.at_).mono ?_
  rintro e wx41 ⟨rfl, hb⟩
  replace B := Lib.hid (B.out.below hb)
  replace H0 := Lib.hid (H0.out.below hb)
  replace K0 := Lib.hid (K0.out.below hb)
  replace V2 := Lib.hid (V2.out.below hb)
  replace O12 := Lib.hid (O12.out.below hb)
  replace O13 := Lib.hid (O13.out.below hb)
  replace O23 := Lib.hid (O23.out.below hb)
  replace O24 := Lib.hid (O24.out.below hb)
  replace V27 := Lib.hid (V27.out.below hb)
  replace O38 := Lib.hid (O38.out.below hb)
  replace O39 := Lib.hid (O39.out.below hb)
  have Z42 := hb.size
  clear hb
  go_wp2_with fail
  refine hK.out _ _ (by exact ⟨V27.out.c0, V27.out.c1, V27.out.c2, V27.out.c3, V27.out.c4, V27.out.c5, V27.out.c6, V27.out.c7, V2.out.c0, V2.out.c1, V2.out.c2, V2.out.c3, V2.out.c4, V2.out.c5, V2.out.c6, V2.out.c7⟩) (fun hHeld => ?_)
  clear hK K
  try simp only [Act.put, List.setIfInBounds_toArray, List.set_cons_zero, List.set_cons_succ, List.getElem_toArray, List.getElem_cons_zero, List.getElem_cons_succ]
  refine wpAnyH_take (i := 4) (v := ?_) rfl (by kernel_rfl) (by kernel_rfl) (by kernel_rfl) (fun _ _ _ h => h) (Or.inl ⟨by rfl, fun w hSw => by (try dsimp only at hSw); go_simp; (try with_reducible rfl)⟩) (by assumption) ?_
  try simp only [Act.put, List.setIfInBounds_toArray, List.set_cons_zero, List.set_cons_succ, List.getElem_toArray, List.getElem_cons_zero, List.getElem_cons_succ]
  refine wpAnyH_done (by kernel_rfl) ?_ _
  obtain ⟨V2_c0, V2_c1, V2_c2, V2_c3, V2_c4, V2_c5, V2_c6, V2_c7, V2_l⟩ := V2.out
  obtain ⟨V27_c0, V27_c1, V27_c2, V27_c3, V27_c4, V27_c5, V27_c6, V27_c7, V27_l⟩ := V27.out
  go_wp2
  go_ret
  exact ⟨rfl, B.out⟩
end Go.Proofs.Ytloenigleamcoaa.Sb
