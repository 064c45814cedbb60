/- The law of SeenHas over its contracts. No condition. -/
import Derived.Test.YtnlkejneinnbjaaOutLaw
import Derived.Test.YtnlkejneinnbjaaMarkOpen
import Derived.Test.YtnlkejneinnbjaaSeenHas
import Derived.Test.YtnlkejneinnbjaaSeenHasS
namespace Go.Proofs.Ytnlkejneinnbjaa.Mk
open Go.RowKit

set_option maxRecDepth 100000 in
set_option maxHeartbeats 4000000 in
theorem law_SeenHas (a0 : Option Addr) (cap0 : Nat) (l0 : List (Int × Int)) (m1 : Int × Int) (w : World) (h0 : CameMarks w a0 l0) (h1 : WfMark m1) :
    Calls Try.prog 6 #[.slice a0 l0.length cap0, mv m1] w fun e w' => e = .returned (.bool true) ∧ Below w.heap.size w w' := by
  obtain ⟨hm0, hl0, _⟩ := h0
  have H0 := Lib.hid (InAt.of hm0)
  clear hm0
  unfold maxLen at hl0
  obtain ⟨hw1, _⟩ := h1
  have WM := Lib.hid hw1
  obtain ⟨x1, y1⟩ := m1
  unfold mv
  simp only at WM
  clear hw1
  by_cases hn0 : 1048576 < (l0.length : Int)
  ·
    go_enter Try.func6, Try.ntmps6
    go_wp2_with fail
    refine (szMarkS_no _ _ _ _ _ (by unfold maxLen; omega) (by omega) (by omega) hn0).mono ?_
    rintro e w' ⟨rfl, rfl⟩
    go_wp2
    go_ret
    exact ⟨rfl, (Below.refl _ _).alloc (Nat.le_refl _) _⟩
  have hs0 : (l0.length : Int) ≤ 1048576 := by omega
  clear hn0
  have B := Lib.hid (show Base w w from Below.refl _ _)
  go_enter Try.func6, Try.ntmps6
  have hb := step_alloc w (.cells #[.int .i64 x1, .int .i64 y1] 50)
  replace B := Lib.hid (B.out.below hb)
  replace H0 := Lib.hid (H0.out.below hb)
  clear hb
  have Z1 : w.heap.size < (w.alloc (.cells #[.int .i64 x1, .int .i64 y1] 50)).heap.size := by simp
  have yZ1 : (w.alloc (.cells #[.int .i64 x1, .int .i64 y1] 50)).heap.size ≤ w.heap.size + 1 := by simp
  have V2 := Lib.hid (Var2.new w (.int .i64 x1) (.int .i64 y1) 50)
  obtain ⟨V2_c0, V2_c1, V2_l⟩ := V2.out
  go_wp2_with fail
  clear V2_c0 V2_c1 V2_l
  refine (szMarkS_yes _ _ _ _ _ (by omega) (by omega) (by omega)).mono ?_
  rintro e w' ⟨rfl, rfl⟩
  obtain ⟨V2_c0, V2_c1, V2_l⟩ := V2.out
  go_wp2_with fail
  clear V2_c0 V2_c1 V2_l
  have hb := step_drew (w.alloc (.cells #[.int .i64 x1, .int .i64 y1] 50))
  replace B := Lib.hid (B.out.below hb)
  replace H0 := Lib.hid (H0.out.below hb)
  replace V2 := Lib.hid (V2.out.below hb)
  clear hb
  refine wp_region_held_drew (S := (fun w' => w'.cell? ⟨w.heap.size, 0, none⟩ = some (.int .i64 x1) ∧ w'.cell? ⟨w.heap.size, 1, none⟩ = some (.int .i64 y1))) (by kernel_rfl) (by exact ⟨V2.out.c0, V2.out.c1⟩) (fun hHeld => ?_)
  have Z3 : (w.alloc (.cells #[.int .i64 x1, .int .i64 y1] 50)).heap.size ≤ (w.alloc (.cells #[.int .i64 x1, .int .i64 y1] 50)).drew.heap.size := Nat.le_refl _
  generalize (w.alloc (.cells #[.int .i64 x1, .int .i64 y1] 50)).drew = wd4 at Z3 hHeld B H0 V2 ⊢
  refine wpAnyH_take (i := 0) (v := ?_) rfl (by kernel_rfl) (by kernel_rfl) (by kernel_rfl) (fun _ _ _ h => h) (Or.inl ⟨by rfl, fun w hSw => by (try dsimp only at hSw); go_simp; (try with_reducible rfl)⟩) (by assumption) ?_
  try simp only [Act.put, List.setIfInBounds_toArray, List.set_cons_zero, List.set_cons_succ, List.getElem_toArray, List.getElem_cons_zero, List.getElem_cons_succ]
  refine wpAnyH_take (i := 2) (v := ?_) rfl (by kernel_rfl) (by kernel_rfl) (by kernel_rfl) (fun _ _ _ h => h) (Or.inl ⟨by rfl, fun w hSw => by (try dsimp only at hSw); go_simp; (try with_reducible rfl)⟩) (by assumption) ?_
  try simp only [Act.put, List.setIfInBounds_toArray, List.set_cons_zero, List.set_cons_succ, List.getElem_toArray, List.getElem_cons_zero, List.getElem_cons_succ]
  refine wpAnyH_ready (rs := [1]) (by kernel_rfl) (by simp) ?_
  refine AllReadyH.cons rfl (fun K hK => ?_) AllReadyH.nil
  go_simp
  refine (toMarkS a0 cap0 (l0) _ (by omega) H0.out.at_).mono ?_
  rintro e wx7 ⟨qa5, qc6, rfl, ho, hb⟩
  replace B := Lib.hid (B.out.below hb)
  replace H0 := Lib.hid (H0.out.below hb)
  replace V2 := Lib.hid (V2.out.below hb)
  have O8 := Lib.hid (show OwnI wx7 wd4.heap.size wx7.heap.size qa5 (l0) from ⟨ho, Nat.le_refl _⟩)
  have Z9 := hb.size
  clear hb ho
  go_wp2_with fail
  refine hK.out _ _ (by exact ⟨V2.out.c0, V2.out.c1⟩) (fun hHeld => ?_)
  clear hK K
  try simp only [Act.put, List.setIfInBounds_toArray, List.set_cons_zero, List.set_cons_succ, List.getElem_toArray, List.getElem_cons_zero, List.getElem_cons_succ]
  refine wpAnyH_ready (rs := [3]) (by kernel_rfl) (by simp) ?_
  refine AllReadyH.cons rfl (fun K hK => ?_) AllReadyH.nil
  go_simp
  refine (toMark ((x1, y1)) _).mono ?_
  rintro e wx10 ⟨rfl, hb⟩
  unfold mv
  replace B := Lib.hid (B.out.below hb)
  replace H0 := Lib.hid (H0.out.below hb)
  replace V2 := Lib.hid (V2.out.below hb)
  replace O8 := Lib.hid (O8.out.below hb)
  have Z11 := hb.size
  clear hb
  go_wp2_with fail
  refine hK.out _ _ (by exact ⟨V2.out.c0, V2.out.c1⟩) (fun hHeld => ?_)
  clear hK K
  try simp only [Act.put, List.setIfInBounds_toArray, List.set_cons_zero, List.set_cons_succ, List.getElem_toArray, List.getElem_cons_zero, List.getElem_cons_succ]
  refine wpAnyH_ready (rs := [4]) (by kernel_rfl) (by simp) ?_
  refine AllReadyH.cons rfl (fun K hK => ?_) AllReadyH.nil
  go_simp
  refine (spec_seenHas qa5 qc6 (l0) ((x1, y1)) _ (by unfold maxLen; omega) O8.out.at_).mono ?_
  rintro e wx12 ⟨rfl, hb⟩
  replace B := Lib.hid (B.out.below hb)
  replace H0 := Lib.hid (H0.out.below hb)
  replace V2 := Lib.hid (V2.out.below hb)
  replace O8 := Lib.hid (O8.out.below hb)
  have Z13 := hb.size
  clear hb
  go_wp2_with fail
  refine hK.out _ _ (by exact ⟨V2.out.c0, V2.out.c1⟩) (fun hHeld => ?_)
  clear hK K
  try simp only [Act.put, List.setIfInBounds_toArray, List.set_cons_zero, List.set_cons_succ, List.getElem_toArray, List.getElem_cons_zero, List.getElem_cons_succ]
  refine wpAnyH_take (i := 5) (v := ?_) rfl (by kernel_rfl) (by kernel_rfl) (by kernel_rfl) (fun _ _ _ h => h) (Or.inl ⟨by rfl, fun w hSw => by (try dsimp only at hSw); go_simp; (try with_reducible rfl)⟩) (by assumption) ?_
  try simp only [Act.put, List.setIfInBounds_toArray, List.set_cons_zero, List.set_cons_succ, List.getElem_toArray, List.getElem_cons_zero, List.getElem_cons_succ]
  refine wpAnyH_done (by kernel_rfl) ?_ _
  obtain ⟨V2_c0, V2_c1, V2_l⟩ := V2.out
  go_wp2_with fail
  clear V2_c0 V2_c1 V2_l
  refine (toMarkS a0 cap0 (l0) _ (by omega) H0.out.at_).mono ?_
  rintro e wx16 ⟨qa14, qc15, rfl, ho, hb⟩
  replace B := Lib.hid (B.out.below hb)
  replace H0 := Lib.hid (H0.out.below hb)
  replace V2 := Lib.hid (V2.out.below hb)
  replace O8 := Lib.hid (O8.out.below hb)
  have O17 := Lib.hid (show OwnI wx16 wx12.heap.size wx16.heap.size qa14 (l0) from ⟨ho, Nat.le_refl _⟩)
  have Z18 := hb.size
  clear hb ho
  obtain ⟨V2_c0, V2_c1, V2_l⟩ := V2.out
  go_wp2_with fail
  clear V2_c0 V2_c1 V2_l
  refine (toMark ((x1, y1)) _).mono ?_
  rintro e wx19 ⟨rfl, hb⟩
  unfold mv
  replace B := Lib.hid (B.out.below hb)
  replace H0 := Lib.hid (H0.out.below hb)
  replace V2 := Lib.hid (V2.out.below hb)
  replace O8 := Lib.hid (O8.out.below hb)
  replace O17 := Lib.hid (O17.out.below hb)
  have Z20 := hb.size
  clear hb
  obtain ⟨V2_c0, V2_c1, V2_l⟩ := V2.out
  go_wp2_with fail
  clear V2_c0 V2_c1 V2_l
  refine (impl_seenHas qa14 qc15 (l0) ((x1, y1)) _ (by unfold maxLen; omega) WM.out O17.out.at_).mono ?_
  rintro e wx21 ⟨rfl, hb⟩
  replace B := Lib.hid (B.out.below hb)
  replace H0 := Lib.hid (H0.out.below hb)
  replace V2 := Lib.hid (V2.out.below hb)
  replace O8 := Lib.hid (O8.out.below hb)
  replace O17 := Lib.hid (O17.out.below hb)
  have Z22 := hb.size
  clear hb
  obtain ⟨V2_c0, V2_c1, V2_l⟩ := V2.out
  go_wp2_with fail
  clear V2_c0 V2_c1 V2_l
  refine (toMarkS a0 cap0 (l0) _ (by omega) H0.out.at_).mono ?_
  rintro e wx25 ⟨qa23, qc24, rfl, ho, hb⟩
  replace B := Lib.hid (B.out.below hb)
  replace H0 := Lib.hid (H0.out.below hb)
  replace V2 := Lib.hid (V2.out.below hb)
  replace O8 := Lib.hid (O8.out.below hb)
  replace O17 := Lib.hid (O17.out.below hb)
  have O26 := Lib.hid (show OwnI wx25 wx21.heap.size wx25.heap.size qa23 (l0) from ⟨ho, Nat.le_refl _⟩)
  have Z27 := hb.size
  clear hb ho
  obtain ⟨V2_c0, V2_c1, V2_l⟩ := V2.out
  go_wp2_with fail
  clear V2_c0 V2_c1 V2_l
  refine (eqMarkS qa14 qa23 qc15 qc24 (l0) _ (by unfold maxLen; omega) O17.out.at_ O26.out.at_).mono ?_
  rintro e wx28 ⟨rfl, hb⟩
  replace B := Lib.hid (B.out.below hb)
  replace H0 := Lib.hid (H0.out.below hb)
  replace V2 := Lib.hid (V2.out.below hb)
  replace O8 := Lib.hid (O8.out.below hb)
  replace O17 := Lib.hid (O17.out.below hb)
  replace O26 := Lib.hid (O26.out.below hb)
  have Z29 := hb.size
  clear hb
  obtain ⟨V2_c0, V2_c1, V2_l⟩ := V2.out
  go_wp2
  go_ret
  exact ⟨rfl, B.out⟩
end Go.Proofs.Ytnlkejneinnbjaa.Mk
