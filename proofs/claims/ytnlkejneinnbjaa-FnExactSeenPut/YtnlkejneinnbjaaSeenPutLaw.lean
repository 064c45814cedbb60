/- The law of SeenPut over its contracts. No condition. -/
import Derived.Deep.DeepCutAuto
import Derived.Test.YtnlkejneinnbjaaOutLaw
import Derived.Test.YtnlkejneinnbjaaMarkOpen
import Derived.Test.YtnlkejneinnbjaaSeenPut
import Derived.Test.YtnlkejneinnbjaaSeenPutS
namespace Go.Proofs.Ytnlkejneinnbjaa.Mk
open Go.RowKit

set_option maxRecDepth 100000 in
set_option maxHeartbeats 4000000 in
theorem law_SeenPut (a0 : Option Addr) (cap0 : Nat) (l0 : List (Int × Int)) (m1 : Int × Int) (w : World) (h0 : CameMarks w a0 l0) (h1 : WfMark m1) :
    Calls Try.prog 9 #[.slice a0 l0.length cap0, mv m1] w fun e w' => e = .returned (.bool true) ∧ Below w.heap.size w w' := by
  obtain ⟨hm0, hl0, _⟩ := h0
  have H0 := Lib.hid (InAt.of hm0)
  clear hm0
  unfold maxLen at hl0
  obtain ⟨hw1, _⟩ := h1
  have WM := Lib.hid hw1
  obtain ⟨x1, y1⟩ := m1
  unfold mv
  simp only at WM
  clear hw1
  by_cases hn0 : 1048576 < (l0.length : Int)
  ·
    go_enter Try.func9, Try.ntmps9
    go_wp2_with fail
    refine (szMarkS_no _ _ _ _ _ (by unfold maxLen; omega) (by omega) (by omega) hn0).mono ?_
    rintro e w' ⟨rfl, rfl⟩
    go_wp2
    go_ret
    exact ⟨rfl, (Below.refl _ _).alloc (Nat.le_refl _) _⟩
  have hs0 : (l0.length : Int) ≤ 1048576 := by omega
  clear hn0
  have B := Lib.hid (show Base w w from Below.refl _ _)
  have hj := Nat.le_trans (putL_length l0 (x1, y1)) (by omega : 5 ≤ 1048576)
  go_enter Try.func9, Try.ntmps9
  have hb := step_alloc w (.cells #[.int .i64 x1, .int .i64 y1] 50)
  replace B := Lib.hid (B.out.below hb)
  replace H0 := Lib.hid (H0.out.below hb)
  clear hb
  have Z1 : w.heap.size < (w.alloc (.cells #[.int .i64 x1, .int .i64 y1] 50)).heap.size := by simp
  have yZ1 : (w.alloc (.cells #[.int .i64 x1, .int .i64 y1] 50)).heap.size ≤ w.heap.size + 1 := by simp
  have V2 := Lib.hid (Var2.new w (.int .i64 x1) (.int .i64 y1) 50)
  obtain ⟨V2_c0, V2_c1, V2_l⟩ := V2.out
  go_wp2_with fail
  clear V2_c0 V2_c1 V2_l
  refine (szMarkS_yes _ _ _ _ _ (by omega) (by omega) (by omega)).mono ?_
  rintro e w' ⟨rfl, rfl⟩
  obtain ⟨V2_c0, V2_c1, V2_l⟩ := V2.out
  go_upto_region 5 with fail
  clear V2_c0 V2_c1 V2_l
  go_cut [6] (fun s wx => ∃ (gg lo hi : Nat) (qa : Option Addr) (qc : Nat), s = .pointer (some ⟨gg, 0, none⟩) ∧ Var2 wx gg (.slice qa (putL (l0) ((x1, y1))).length qc) (.int .i64 (putC (l0) ((x1, y1)))) ∧ OwnI wx lo hi qa (putL (l0) ((x1, y1))) ∧ Base (w.alloc (.cells #[.int .i64 x1, .int .i64 y1] 50)) wx ∧ (w.alloc (.cells #[.int .i64 x1, .int .i64 y1] 50)).heap.size ≤ lo ∧ lo ≤ hi ∧ (gg < lo ∨ hi ≤ gg) ∧ (w.alloc (.cells #[.int .i64 x1, .int .i64 y1] 50)).heap.size ≤ gg)
  case first =>
    have D := Lib.hid (show Base (w.alloc (.cells #[.int .i64 x1, .int .i64 y1] 50)) (w.alloc (.cells #[.int .i64 x1, .int .i64 y1] 50)) from Below.refl _ _)
    have hb := step_drew (w.alloc (.cells #[.int .i64 x1, .int .i64 y1] 50))
    replace H0 := Lib.hid (H0.out.below hb)
    replace V2 := Lib.hid (V2.out.below hb)
    replace D := Lib.hid (D.out.below hb)
    clear hb
    refine wp_region_held_drew (S := (fun w' => w'.cell? ⟨w.heap.size, 0, none⟩ = some (.int .i64 x1) ∧ w'.cell? ⟨w.heap.size, 1, none⟩ = some (.int .i64 y1))) (by kernel_rfl) (by exact ⟨V2.out.c0, V2.out.c1⟩) (fun hHeld => ?_)
    have Z4 : (w.alloc (.cells #[.int .i64 x1, .int .i64 y1] 50)).heap.size ≤ (w.alloc (.cells #[.int .i64 x1, .int .i64 y1] 50)).drew.heap.size := Nat.le_refl _
    generalize (w.alloc (.cells #[.int .i64 x1, .int .i64 y1] 50)).drew = wd5 at Z4 hHeld H0 V2 D ⊢
    refine wpAnyH_take (i := 0) (v := ?_) rfl (by kernel_rfl) (by kernel_rfl) (by kernel_rfl) (fun _ _ _ h => h) (Or.inl ⟨by rfl, fun w hSw => by (try dsimp only at hSw); go_simp; (try with_reducible rfl)⟩) (by assumption) ?_
    try simp only [Act.put, List.setIfInBounds_toArray, List.set_cons_zero, List.set_cons_succ, List.getElem_toArray, List.getElem_cons_zero, List.getElem_cons_succ]
    refine wpAnyH_take (i := 2) (v := ?_) rfl (by kernel_rfl) (by kernel_rfl) (by kernel_rfl) (fun _ _ _ h => h) (Or.inl ⟨by rfl, fun w hSw => by (try dsimp only at hSw); go_simp; (try with_reducible rfl)⟩) (by assumption) ?_
    try simp only [Act.put, List.setIfInBounds_toArray, List.set_cons_zero, List.set_cons_succ, List.getElem_toArray, List.getElem_cons_zero, List.getElem_cons_succ]
    refine wpAnyH_ready (rs := [1, 5]) (by kernel_rfl) (by simp) ?_
    refine AllReadyH.cons rfl (fun K hK => ?_) ?_
    · go_simp
      refine (toMarkS a0 cap0 (l0) _ (by omega) H0.out.at_).mono ?_
      rintro e wx8 ⟨qa6, qc7, rfl, ho, hb⟩
      replace H0 := Lib.hid (H0.out.below hb)
      replace V2 := Lib.hid (V2.out.below hb)
      replace D := Lib.hid (D.out.below hb)
      have O9 := Lib.hid (show OwnI wx8 wd5.heap.size wx8.heap.size qa6 (l0) from ⟨ho, Nat.le_refl _⟩)
      have Z10 := hb.size
      clear hb ho
      go_wp2_with fail
      refine hK.out _ _ (by exact ⟨V2.out.c0, V2.out.c1⟩) (fun hHeld => ?_)
      clear hK K
      try simp only [Act.put, List.setIfInBounds_toArray, List.set_cons_zero, List.set_cons_succ, List.getElem_toArray, List.getElem_cons_zero, List.getElem_cons_succ]
      refine wpAnyH_ready (rs := [3, 5]) (by kernel_rfl) (by simp) ?_
      refine AllReadyH.cons rfl (fun K hK => ?_) ?_
      · go_simp
        refine (toMark ((x1, y1)) _).mono ?_
        rintro e wx11 ⟨rfl, hb⟩
        unfold mv
        replace H0 := Lib.hid (H0.out.below hb)
        replace V2 := Lib.hid (V2.out.below hb)
        replace D := Lib.hid (D.out.below hb)
        replace O9 := Lib.hid (O9.out.below hb)
        have Z12 := hb.size
        clear hb
        go_wp2_with fail
        refine hK.out _ _ (by exact ⟨V2.out.c0, V2.out.c1⟩) (fun hHeld => ?_)
        clear hK K
        try simp only [Act.put, List.setIfInBounds_toArray, List.set_cons_zero, List.set_cons_succ, List.getElem_toArray, List.getElem_cons_zero, List.getElem_cons_succ]
        refine wpAnyH_ready (rs := [4, 5]) (by kernel_rfl) (by simp) ?_
        refine AllReadyH.cons rfl (fun K hK => ?_) ?_
        · go_simp
          refine (spec_seenPut qa6 qc7 (l0) ((x1, y1)) _ (by unfold maxLen; omega) O9.out.at_).mono ?_
          rintro e wx15 ⟨qa13, qc14, rfl, ho, hb⟩
          replace H0 := Lib.hid (H0.out.below hb)
          replace V2 := Lib.hid (V2.out.below hb)
          replace D := Lib.hid (D.out.below hb)
          replace O9 := Lib.hid (O9.out.below hb)
          have O16 := Lib.hid (show OwnI wx15 wx11.heap.size wx15.heap.size qa13 (putL (l0) ((x1, y1))) from ⟨ho, Nat.le_refl _⟩)
          have Z17 := hb.size
          clear hb ho
          go_wp2_with fail
          refine hK.out _ _ (by exact ⟨V2.out.c0, V2.out.c1⟩) (fun hHeld => ?_)
          clear hK K
          try simp only [Act.put, List.setIfInBounds_toArray, List.set_cons_zero, List.set_cons_succ, List.getElem_toArray, List.getElem_cons_zero, List.getElem_cons_succ]
          refine wpAnyH_ready (rs := [5]) (by kernel_rfl) (by simp) ?_
          refine AllReadyH.cons rfl (fun K hK => ?_) AllReadyH.nil
          go_simp
          have hb := step_alloc wx15 (.cells #[.slice none 0 0, .int .i64 0] 32)
          replace H0 := Lib.hid (H0.out.below hb)
          replace V2 := Lib.hid (V2.out.below hb)
          replace D := Lib.hid (D.out.below hb)
          replace O9 := Lib.hid (O9.out.below hb)
          replace O16 := Lib.hid (O16.out.below hb)
          clear hb
          have NV := Lib.hid (New2.new wx15 (.slice none 0 0) (.int .i64 0) 32)
          have Z18 : wx15.heap.size < (wx15.alloc (.cells #[.slice none 0 0, .int .i64 0] 32)).heap.size := by simp
          obtain ⟨gb, hgb⟩ : ∃ gb, gb = wx15.heap.size := ⟨_, rfl⟩
          have QaZ18 : wx15.heap.size ≤ gb := by omega
          have QbZ18 : gb < (wx15.alloc (.cells #[.slice none 0 0, .int .i64 0] 32)).heap.size := by omega
          rw [← hgb] at NV ⊢
          clear hgb
          generalize wx15.alloc (.cells #[.slice none 0 0, .int .i64 0] 32) = wx19 at NV Z18 QbZ18 H0 V2 D O9 O16 ⊢
          refine hK.out _ _ (by exact ⟨V2.out.c0, V2.out.c1⟩) (fun hHeld => ?_)
          clear hK K
          try simp only [Act.put, List.setIfInBounds_toArray, List.set_cons_zero, List.set_cons_succ, List.getElem_toArray, List.getElem_cons_zero, List.getElem_cons_succ]
          obtain ⟨V2_c0, V2_c1, V2_l⟩ := V2.out
          obtain ⟨nv0, nv1, nf0, nf1, nl⟩ := NV.out
          refine wpAnyH_ready (rs := [6]) (by kernel_rfl) (by simp) ?_
          refine AllReadyH.cons rfl (fun K hK => ?_) AllReadyH.nil
          go_simp
          have hw := ((Within.refl gb (gb + 1) wx19).setCell (p := ⟨gb, 0, none⟩) (Nat.le_refl _) (Nat.lt_succ_self _) (.slice qa13 (putL (l0) ((x1, y1))).length qc14)).setCell (p := ⟨gb, 1, none⟩) (Nat.le_refl _) (Nat.lt_succ_self _) (.int .i64 (putC (l0) ((x1, y1))))
          have VV := NV.out.store (.slice qa13 (putL (l0) ((x1, y1))).length qc14) (.int .i64 (putC (l0) ((x1, y1))))
          replace H0 := Lib.hid (H0.out.within hw (by omega))
          replace V2 := Lib.hid (V2.out.within hw (by omega))
          replace D := Lib.hid (D.out.within hw (by omega))
          replace O9 := Lib.hid (O9.out.within hw (by omega))
          replace O16 := Lib.hid (O16.out.within hw (by omega))
          refine hK.out _ _ (by exact ⟨V2.out.c0, V2.out.c1⟩) (fun hHeld => ?_)
          refine wpAnyH_done (by kernel_rfl) ?_ _
          go_wp2_with fail
          go_meet
          exact ⟨gb, _, _, qa13, qc14, rfl, VV, O16.out, D.out, by omega, by omega, by omega, by omega⟩
        refine AllReadyH.cons rfl (fun K hK => ?_) ?_
        · go_simp
          have hb := step_alloc wx11 (.cells #[.slice none 0 0, .int .i64 0] 32)
          replace H0 := Lib.hid (H0.out.below hb)
          replace V2 := Lib.hid (V2.out.below hb)
          replace D := Lib.hid (D.out.below hb)
          replace O9 := Lib.hid (O9.out.below hb)
          clear hb
          have NV := Lib.hid (New2.new wx11 (.slice none 0 0) (.int .i64 0) 32)
          have Z20 : wx11.heap.size < (wx11.alloc (.cells #[.slice none 0 0, .int .i64 0] 32)).heap.size := by simp
          obtain ⟨gb, hgb⟩ : ∃ gb, gb = wx11.heap.size := ⟨_, rfl⟩
          have QaZ20 : wx11.heap.size ≤ gb := by omega
          have QbZ20 : gb < (wx11.alloc (.cells #[.slice none 0 0, .int .i64 0] 32)).heap.size := by omega
          rw [← hgb] at NV ⊢
          clear hgb
          generalize wx11.alloc (.cells #[.slice none 0 0, .int .i64 0] 32) = wx21 at NV Z20 QbZ20 H0 V2 D O9 ⊢
          refine hK.out _ _ (by exact ⟨V2.out.c0, V2.out.c1⟩) (fun hHeld => ?_)
          clear hK K
          try simp only [Act.put, List.setIfInBounds_toArray, List.set_cons_zero, List.set_cons_succ, List.getElem_toArray, List.getElem_cons_zero, List.getElem_cons_succ]
          refine wpAnyH_ready (rs := [4]) (by kernel_rfl) (by simp) ?_
          refine AllReadyH.cons rfl (fun K hK => ?_) AllReadyH.nil
          go_simp
          refine (spec_seenPut qa6 qc7 (l0) ((x1, y1)) _ (by unfold maxLen; omega) O9.out.at_).mono ?_
          rintro e wx24 ⟨qa22, qc23, rfl, ho, hb⟩
          replace H0 := Lib.hid (H0.out.below hb)
          replace V2 := Lib.hid (V2.out.below hb)
          replace D := Lib.hid (D.out.below hb)
          replace O9 := Lib.hid (O9.out.below hb)
          replace NV := Lib.hid (NV.out.below hb)
          have O25 := Lib.hid (show OwnI wx24 wx21.heap.size wx24.heap.size qa22 (putL (l0) ((x1, y1))) from ⟨ho, Nat.le_refl _⟩)
          have Z26 := hb.size
          clear hb ho
          go_wp2_with fail
          refine hK.out _ _ (by exact ⟨V2.out.c0, V2.out.c1⟩) (fun hHeld => ?_)
          clear hK K
          try simp only [Act.put, List.setIfInBounds_toArray, List.set_cons_zero, List.set_cons_succ, List.getElem_toArray, List.getElem_cons_zero, List.getElem_cons_succ]
          obtain ⟨V2_c0, V2_c1, V2_l⟩ := V2.out
          obtain ⟨nv0, nv1, nf0, nf1, nl⟩ := NV.out
          refine wpAnyH_ready (rs := [6]) (by kernel_rfl) (by simp) ?_
          refine AllReadyH.cons rfl (fun K hK => ?_) AllReadyH.nil
          go_simp
          have hw := ((Within.refl gb (gb + 1) wx24).setCell (p := ⟨gb, 0, none⟩) (Nat.le_refl _) (Nat.lt_succ_self _) (.slice qa22 (putL (l0) ((x1, y1))).length qc23)).setCell (p := ⟨gb, 1, none⟩) (Nat.le_refl _) (Nat.lt_succ_self _) (.int .i64 (putC (l0) ((x1, y1))))
          have VV := NV.out.store (.slice qa22 (putL (l0) ((x1, y1))).length qc23) (.int .i64 (putC (l0) ((x1, y1))))
          replace H0 := Lib.hid (H0.out.within hw (by omega))
          replace V2 := Lib.hid (V2.out.within hw (by omega))
          replace D := Lib.hid (D.out.within hw (by omega))
          replace O9 := Lib.hid (O9.out.within hw (by omega))
          replace O25 := Lib.hid (O25.out.within hw (by omega))
          refine hK.out _ _ (by exact ⟨V2.out.c0, V2.out.c1⟩) (fun hHeld => ?_)
          refine wpAnyH_done (by kernel_rfl) ?_ _
          go_wp2_with fail
          go_meet
          exact ⟨gb, _, _, qa22, qc23, rfl, VV, O25.out, D.out, by omega, by omega, by omega, by omega⟩
        exact AllReadyH.nil
      refine AllReadyH.cons rfl (fun K hK => ?_) ?_
      · go_simp
        have hb := step_alloc wx8 (.cells #[.slice none 0 0, .int .i64 0] 32)
        replace H0 := Lib.hid (H0.out.below hb)
        replace V2 := Lib.hid (V2.out.below hb)
        replace D := Lib.hid (D.out.below hb)
        replace O9 := Lib.hid (O9.out.below hb)
        clear hb
        have NV := Lib.hid (New2.new wx8 (.slice none 0 0) (.int .i64 0) 32)
        have Z27 : wx8.heap.size < (wx8.alloc (.cells #[.slice none 0 0, .int .i64 0] 32)).heap.size := by simp
        obtain ⟨gb, hgb⟩ : ∃ gb, gb = wx8.heap.size := ⟨_, rfl⟩
        have QaZ27 : wx8.heap.size ≤ gb := by omega
        have QbZ27 : gb < (wx8.alloc (.cells #[.slice none 0 0, .int .i64 0] 32)).heap.size := by omega
        rw [← hgb] at NV ⊢
        clear hgb
        generalize wx8.alloc (.cells #[.slice none 0 0, .int .i64 0] 32) = wx28 at NV Z27 QbZ27 H0 V2 D O9 ⊢
        refine hK.out _ _ (by exact ⟨V2.out.c0, V2.out.c1⟩) (fun hHeld => ?_)
        clear hK K
        try simp only [Act.put, List.setIfInBounds_toArray, List.set_cons_zero, List.set_cons_succ, List.getElem_toArray, List.getElem_cons_zero, List.getElem_cons_succ]
        refine wpAnyH_ready (rs := [3]) (by kernel_rfl) (by simp) ?_
        refine AllReadyH.cons rfl (fun K hK => ?_) AllReadyH.nil
        go_simp
        refine (toMark ((x1, y1)) _).mono ?_
        rintro e wx29 ⟨rfl, hb⟩
        unfold mv
        replace H0 := Lib.hid (H0.out.below hb)
        replace V2 := Lib.hid (V2.out.below hb)
        replace D := Lib.hid (D.out.below hb)
        replace O9 := Lib.hid (O9.out.below hb)
        replace NV := Lib.hid (NV.out.below hb)
        have Z30 := hb.size
        clear hb
        go_wp2_with fail
        refine hK.out _ _ (by exact ⟨V2.out.c0, V2.out.c1⟩) (fun hHeld => ?_)
        clear hK K
        try simp only [Act.put, List.setIfInBounds_toArray, List.set_cons_zero, List.set_cons_succ, List.getElem_toArray, List.getElem_cons_zero, List.getElem_cons_succ]
        refine wpAnyH_ready (rs := [4]) (by kernel_rfl) (by simp) ?_
        refine AllReadyH.cons rfl (fun K hK => ?_) AllReadyH.nil
        go_simp
        refine (spec_seenPut qa6 qc7 (l0) ((x1, y1)) _ (by unfold maxLen; omega) O9.out.at_).mono ?_
        rintro e wx33 ⟨qa31, qc32, rfl, ho, hb⟩
        replace H0 := Lib.hid (H0.out.below hb)
        replace V2 := Lib.hid (V2.out.below hb)
        replace D := Lib.hid (D.out.below hb)
        replace O9 := Lib.hid (O9.out.below hb)
        replace NV := Lib.hid (NV.out.below hb)
        have O34 := Lib.hid (show OwnI wx33 wx29.heap.size wx33.heap.size qa31 (putL (l0) ((x1, y1))) from ⟨ho, Nat.le_refl _⟩)
        have Z35 := hb.size
        clear hb ho
        go_wp2_with fail
        refine hK.out _ _ (by exact ⟨V2.out.c0, V2.out.c1⟩) (fun hHeld => ?_)
        clear hK K
        try simp only [Act.put, List.setIfInBounds_toArray, List.set_cons_zero, List.set_cons_succ, List.getElem_toArray, List.getElem_cons_zero, List.getElem_cons_succ]
        obtain ⟨V2_c0, V2_c1, V2_l⟩ := V2.out
        obtain ⟨nv0, nv1, nf0, nf1, nl⟩ := NV.out
        refine wpAnyH_ready (rs := [6]) (by kernel_rfl) (by simp) ?_
        refine AllReadyH.cons rfl (fun K hK => ?_) AllReadyH.nil
        go_simp
        have hw := ((Within.refl gb (gb + 1) wx33).setCell (p := ⟨gb, 0, none⟩) (Nat.le_refl _) (Nat.lt_succ_self _) (.slice qa31 (putL (l0) ((x1, y1))).length qc32)).setCell (p := ⟨gb, 1, none⟩) (Nat.le_refl _) (Nat.lt_succ_self _) (.int .i64 (putC (l0) ((x1, y1))))
        have VV := NV.out.store (.slice qa31 (putL (l0) ((x1, y1))).length qc32) (.int .i64 (putC (l0) ((x1, y1))))
        replace H0 := Lib.hid (H0.out.within hw (by omega))
        replace V2 := Lib.hid (V2.out.within hw (by omega))
        replace D := Lib.hid (D.out.within hw (by omega))
        replace O9 := Lib.hid (O9.out.within hw (by omega))
        replace O34 := Lib.hid (O34.out.within hw (by omega))
        refine hK.out _ _ (by exact ⟨V2.out.c0, V2.out.c1⟩) (fun hHeld => ?_)
        refine wpAnyH_done (by kernel_rfl) ?_ _
        go_wp2_with fail
        go_meet
        exact ⟨gb, _, _, qa31, qc32, rfl, VV, O34.out, D.out, by omega, by omega, by omega, by omega⟩
      exact AllReadyH.nil
    refine AllReadyH.cons rfl (fun K hK => ?_) ?_
    · go_simp
      have hb := step_alloc wd5 (.cells #[.slice none 0 0, .int .i64 0] 32)
      replace H0 := Lib.hid (H0.out.below hb)
      replace V2 := Lib.hid (V2.out.below hb)
      replace D := Lib.hid (D.out.below hb)
      clear hb
      have NV := Lib.hid (New2.new wd5 (.slice none 0 0) (.int .i64 0) 32)
      have Z36 : wd5.heap.size < (wd5.alloc (.cells #[.slice none 0 0, .int .i64 0] 32)).heap.size := by simp
      obtain ⟨gb, hgb⟩ : ∃ gb, gb = wd5.heap.size := ⟨_, rfl⟩
      have QaZ36 : wd5.heap.size ≤ gb := by omega
      have QbZ36 : gb < (wd5.alloc (.cells #[.slice none 0 0, .int .i64 0] 32)).heap.size := by omega
      rw [← hgb] at NV ⊢
      clear hgb
      generalize wd5.alloc (.cells #[.slice none 0 0, .int .i64 0] 32) = wx37 at NV Z36 QbZ36 H0 V2 D ⊢
      refine hK.out _ _ (by exact ⟨V2.out.c0, V2.out.c1⟩) (fun hHeld => ?_)
      clear hK K
      try simp only [Act.put, List.setIfInBounds_toArray, List.set_cons_zero, List.set_cons_succ, List.getElem_toArray, List.getElem_cons_zero, List.getElem_cons_succ]
      refine wpAnyH_ready (rs := [1]) (by kernel_rfl) (by simp) ?_
      refine AllReadyH.cons rfl (fun K hK => ?_) AllReadyH.nil
      go_simp
      refine (toMarkS a0 cap0 (l0) _ (by omega) H0.out.at_).mono ?_
      rintro e wx40 ⟨qa38, qc39, rfl, ho, hb⟩
      replace H0 := Lib.hid (H0.out.below hb)
      replace V2 := Lib.hid (V2.out.below hb)
      replace D := Lib.hid (D.out.below hb)
      replace NV := Lib.hid (NV.out.below hb)
      have O41 := Lib.hid (show OwnI wx40 wx37.heap.size wx40.heap.size qa38 (l0) from ⟨ho, Nat.le_refl _⟩)
      have Z42 := hb.size
      clear hb ho
      go_wp2_with fail
      refine hK.out _ _ (by exact ⟨V2.out.c0, V2.out.c1⟩) (fun hHeld => ?_)
      clear hK K
      try simp only [Act.put, List.setIfInBounds_toArray, List.set_cons_zero, List.set_cons_succ, List.getElem_toArray, List.getElem_cons_zero, List.getElem_cons_succ]
      refine wpAnyH_ready (rs := [3]) (by kernel_rfl) (by simp) ?_
      refine AllReadyH.cons rfl (fun K hK => ?_) AllReadyH.nil
      go_simp
      refine (toMark ((x1, y1)) _).mono ?_
      rintro e wx43 ⟨rfl, hb⟩
      unfold mv
      replace H0 := Lib.hid (H0.out.below hb)
      replace V2 := Lib.hid (V2.out.below hb)
      replace D := Lib.hid (D.out.below hb)
      replace NV := Lib.hid (NV.out.below hb)
      replace O41 := Lib.hid (O41.out.below hb)
      have Z44 := hb.size
      clear hb
      go_wp2_with fail
      refine hK.out _ _ (by exact ⟨V2.out.c0, V2.out.c1⟩) (fun hHeld => ?_)
      clear hK K
      try simp only [Act.put, List.setIfInBounds_toArray, List.set_cons_zero, List.set_cons_succ, List.getElem_toArray, List.getElem_cons_zero, List.getElem_cons_succ]
      refine wpAnyH_ready (rs := [4]) (by kernel_rfl) (by simp) ?_
      refine AllReadyH.cons rfl (fun K hK => ?_) AllReadyH.nil
      go_simp
      refine (spec_seenPut qa38 qc39 (l0) ((x1, y1)) _ (by unfold maxLen; omega) O41.out.at_).mono ?_
      rintro e wx47 ⟨qa45, qc46, rfl, ho, hb⟩
      replace H0 := Lib.hid (H0.out.below hb)
      replace V2 := Lib.hid (V2.out.below hb)
      replace D := Lib.hid (D.out.below hb)
      replace NV := Lib.hid (NV.out.below hb)
      replace O41 := Lib.hid (O41.out.below hb)
      have O48 := Lib.hid (show OwnI wx47 wx43.heap.size wx47.heap.size qa45 (putL (l0) ((x1, y1))) from ⟨ho, Nat.le_refl _⟩)
      have Z49 := hb.size
      clear hb ho
      go_wp2_with fail
      refine hK.out _ _ (by exact ⟨V2.out.c0, V2.out.c1⟩) (fun hHeld => ?_)
      clear hK K
      try simp only [Act.put, List.setIfInBounds_toArray, List.set_cons_zero, List.set_cons_succ, List.getElem_toArray, List.getElem_cons_zero, List.getElem_cons_succ]
      obtain ⟨V2_c0, V2_c1, V2_l⟩ := V2.out
      obtain ⟨nv0, nv1, nf0, nf1, nl⟩ := NV.out
      refine wpAnyH_ready (rs := [6]) (by kernel_rfl) (by simp) ?_
      refine AllReadyH.cons rfl (fun K hK => ?_) AllReadyH.nil
      go_simp
      have hw := ((Within.refl gb (gb + 1) wx47).setCell (p := ⟨gb, 0, none⟩) (Nat.le_refl _) (Nat.lt_succ_self _) (.slice qa45 (putL (l0) ((x1, y1))).length qc46)).setCell (p := ⟨gb, 1, none⟩) (Nat.le_refl _) (Nat.lt_succ_self _) (.int .i64 (putC (l0) ((x1, y1))))
      have VV := NV.out.store (.slice qa45 (putL (l0) ((x1, y1))).length qc46) (.int .i64 (putC (l0) ((x1, y1))))
      replace H0 := Lib.hid (H0.out.within hw (by omega))
      replace V2 := Lib.hid (V2.out.within hw (by omega))
      replace D := Lib.hid (D.out.within hw (by omega))
      replace O41 := Lib.hid (O41.out.within hw (by omega))
      replace O48 := Lib.hid (O48.out.within hw (by omega))
      refine hK.out _ _ (by exact ⟨V2.out.c0, V2.out.c1⟩) (fun hHeld => ?_)
      refine wpAnyH_done (by kernel_rfl) ?_ _
      go_wp2_with fail
      go_meet
      exact ⟨gb, _, _, qa45, qc46, rfl, VV, O48.out, D.out, by omega, by omega, by omega, by omega⟩
    exact AllReadyH.nil
  case rest =>
    obtain ⟨gk3, lok3, hik3, qak3, qck3, rfl, hV, hO, hb, z1k3, z2k3, z3k3, z4k3⟩ := hcut
    obtain ⟨wk3, hwk⟩ : ∃ x, x = wc := ⟨_, rfl⟩
    subst hwk
    replace B := Lib.hid (B.out.below hb)
    replace H0 := Lib.hid (H0.out.below hb)
    replace V2 := Lib.hid (V2.out.below hb)
    have Vk3 := Lib.hid hV
    have Ok3 := Lib.hid hO
    have Zk3 := hb.size
    have Yk3 := hO.2
    have Xk3 := hV.lt
    clear hb hV hO
    obtain ⟨V2_c0, V2_c1, V2_l⟩ := V2.out
    obtain ⟨Vk3_c0, Vk3_c1, Vk3_l⟩ := Vk3.out
    go_wp2_with fail
    clear V2_c0 V2_c1 V2_l Vk3_c0 Vk3_c1 Vk3_l
    refine (toMarkS a0 cap0 (l0) _ (by omega) H0.out.at_).mono ?_
    rintro e wx52 ⟨qa50, qc51, rfl, ho, hb⟩
    replace B := Lib.hid (B.out.below hb)
    replace H0 := Lib.hid (H0.out.below hb)
    replace V2 := Lib.hid (V2.out.below hb)
    replace Vk3 := Lib.hid (Vk3.out.below hb)
    replace Ok3 := Lib.hid (Ok3.out.below hb)
    have O53 := Lib.hid (show OwnI wx52 wk3.heap.size wx52.heap.size qa50 (l0) from ⟨ho, Nat.le_refl _⟩)
    have Z54 := hb.size
    clear hb ho
    obtain ⟨V2_c0, V2_c1, V2_l⟩ := V2.out
    obtain ⟨Vk3_c0, Vk3_c1, Vk3_l⟩ := Vk3.out
    go_wp2_with fail
    clear V2_c0 V2_c1 V2_l Vk3_c0 Vk3_c1 Vk3_l
    refine (toMark ((x1, y1)) _).mono ?_
    rintro e wx55 ⟨rfl, hb⟩
    unfold mv
    replace B := Lib.hid (B.out.below hb)
    replace H0 := Lib.hid (H0.out.below hb)
    replace V2 := Lib.hid (V2.out.below hb)
    replace Vk3 := Lib.hid (Vk3.out.below hb)
    replace Ok3 := Lib.hid (Ok3.out.below hb)
    replace O53 := Lib.hid (O53.out.below hb)
    have Z56 := hb.size
    clear hb
    obtain ⟨V2_c0, V2_c1, V2_l⟩ := V2.out
    obtain ⟨Vk3_c0, Vk3_c1, Vk3_l⟩ := Vk3.out
    go_wp2_with fail
    clear V2_c0 V2_c1 V2_l Vk3_c0 Vk3_c1 Vk3_l
    refine (impl_seenPut qa50 qc51 (l0) ((x1, y1)) _ (by unfold maxLen; omega) O53.out.at_).mono ?_
    rintro e wx59 ⟨qa57, qc58, rfl, ho, hb⟩
    replace B := Lib.hid (B.out.below hb)
    replace H0 := Lib.hid (H0.out.below hb)
    replace V2 := Lib.hid (V2.out.below hb)
    replace Vk3 := Lib.hid (Vk3.out.below hb)
    replace Ok3 := Lib.hid (Ok3.out.below hb)
    replace O53 := Lib.hid (O53.out.below hb)
    have O60 := Lib.hid (show OwnI wx59 wx55.heap.size wx59.heap.size qa57 (putL (l0) ((x1, y1))) from ⟨ho, Nat.le_refl _⟩)
    have Z61 := hb.size
    clear hb ho
    have hb := step_alloc wx59 (.cells #[.slice qa57 (putL (l0) ((x1, y1))).length qc58, .int .i64 (putC (l0) ((x1, y1)))] 32)
    replace B := Lib.hid (B.out.below hb)
    replace H0 := Lib.hid (H0.out.below hb)
    replace V2 := Lib.hid (V2.out.below hb)
    replace Vk3 := Lib.hid (Vk3.out.below hb)
    replace Ok3 := Lib.hid (Ok3.out.below hb)
    replace O53 := Lib.hid (O53.out.below hb)
    replace O60 := Lib.hid (O60.out.below hb)
    clear hb
    have Z62 : wx59.heap.size < (wx59.alloc (.cells #[.slice qa57 (putL (l0) ((x1, y1))).length qc58, .int .i64 (putC (l0) ((x1, y1)))] 32)).heap.size := by simp
    have yZ62 : (wx59.alloc (.cells #[.slice qa57 (putL (l0) ((x1, y1))).length qc58, .int .i64 (putC (l0) ((x1, y1)))] 32)).heap.size ≤ wx59.heap.size + 1 := by simp
    have V63 := Lib.hid (Var2.new wx59 (.slice qa57 (putL (l0) ((x1, y1))).length qc58) (.int .i64 (putC (l0) ((x1, y1)))) 32)
    obtain ⟨V2_c0, V2_c1, V2_l⟩ := V2.out
    obtain ⟨Vk3_c0, Vk3_c1, Vk3_l⟩ := Vk3.out
    obtain ⟨V63_c0, V63_c1, V63_l⟩ := V63.out
    go_wp2_with fail
    clear V2_c0 V2_c1 V2_l Vk3_c0 Vk3_c1 Vk3_l V63_c0 V63_c1 V63_l
    refine (eqSeenOut qa57 qak3 qc58 qck3 (putL (l0) ((x1, y1))) (putC (l0) ((x1, y1))) _ (by unfold maxLen; omega) O60.out.at_ Ok3.out.at_).mono ?_
    rintro e wx64 ⟨rfl, hb⟩
    replace B := Lib.hid (B.out.below hb)
    replace H0 := Lib.hid (H0.out.below hb)
    replace V2 := Lib.hid (V2.out.below hb)
    replace Vk3 := Lib.hid (Vk3.out.below hb)
    replace Ok3 := Lib.hid (Ok3.out.below hb)
    replace O53 := Lib.hid (O53.out.below hb)
    replace O60 := Lib.hid (O60.out.below hb)
    replace V63 := Lib.hid (V63.out.below hb)
    have Z65 := hb.size
    clear hb
    simp at Z65
    obtain ⟨V2_c0, V2_c1, V2_l⟩ := V2.out
    obtain ⟨Vk3_c0, Vk3_c1, Vk3_l⟩ := Vk3.out
    obtain ⟨V63_c0, V63_c1, V63_l⟩ := V63.out
    go_wp2_with fail
    clear V2_c0 V2_c1 V2_l Vk3_c0 Vk3_c1 Vk3_l V63_c0 V63_c1 V63_l
    refine (toMarkS a0 cap0 (l0) _ (by omega) H0.out.at_).mono ?_
    rintro e wx68 ⟨qa66, qc67, rfl, ho, hb⟩
    replace B := Lib.hid (B.out.below hb)
    replace H0 := Lib.hid (H0.out.below hb)
    replace V2 := Lib.hid (V2.out.below hb)
    replace Vk3 := Lib.hid (Vk3.out.below hb)
    replace Ok3 := Lib.hid (Ok3.out.below hb)
    replace O53 := Lib.hid (O53.out.below hb)
    replace O60 := Lib.hid (O60.out.below hb)
    replace V63 := Lib.hid (V63.out.below hb)
    have O69 := Lib.hid (show OwnI wx68 wx64.heap.size wx68.heap.size qa66 (l0) from ⟨ho, Nat.le_refl _⟩)
    have Z70 := hb.size
    clear hb ho
    obtain ⟨V2_c0, V2_c1, V2_l⟩ := V2.out
    obtain ⟨Vk3_c0, Vk3_c1, Vk3_l⟩ := Vk3.out
    obtain ⟨V63_c0, V63_c1, V63_l⟩ := V63.out
    go_wp2_with fail
    clear V2_c0 V2_c1 V2_l Vk3_c0 Vk3_c1 Vk3_l V63_c0 V63_c1 V63_l
    refine (eqMarkS qa50 qa66 qc51 qc67 (l0) _ (by unfold maxLen; omega) O53.out.at_ O69.out.at_).mono ?_
    rintro e wx71 ⟨rfl, hb⟩
    replace B := Lib.hid (B.out.below hb)
    replace H0 := Lib.hid (H0.out.below hb)
    replace V2 := Lib.hid (V2.out.below hb)
    replace Vk3 := Lib.hid (Vk3.out.below hb)
    replace Ok3 := Lib.hid (Ok3.out.below hb)
    replace O53 := Lib.hid (O53.out.below hb)
    replace O60 := Lib.hid (O60.out.below hb)
    replace V63 := Lib.hid (V63.out.below hb)
    replace O69 := Lib.hid (O69.out.below hb)
    have Z72 := hb.size
    clear hb
    obtain ⟨V2_c0, V2_c1, V2_l⟩ := V2.out
    obtain ⟨Vk3_c0, Vk3_c1, Vk3_l⟩ := Vk3.out
    obtain ⟨V63_c0, V63_c1, V63_l⟩ := V63.out
    go_wp2_with fail
    clear V2_c0 V2_c1 V2_l Vk3_c0 Vk3_c1 Vk3_l V63_c0 V63_c1 V63_l
    refine (markMarkS wk3.heap.size wx52.heap.size qa50 qc51 (l0) (1) _ (by omega) (by omega) (by omega) O53.out.1).mono ?_
    rintro e wx73 ⟨rfl, ho, hw⟩
    replace B := Lib.hid (B.out.within hw (by omega))
    replace H0 := Lib.hid (H0.out.within hw (by omega))
    replace V2 := Lib.hid (V2.out.within hw (by omega))
    replace Vk3 := Lib.hid (Vk3.out.within hw (by omega))
    replace Ok3 := Lib.hid (Ok3.out.within hw (by omega))
    replace O60 := Lib.hid (O60.out.within hw (by omega))
    replace V63 := Lib.hid (V63.out.within hw (by omega))
    replace O69 := Lib.hid (O69.out.within hw (by omega))
    replace O53 := Lib.hid (show OwnI wx73 wk3.heap.size wx52.heap.size qa50 (markL (1) (l0).length) from ⟨ho, Nat.le_trans O53.out.2 hw.size⟩)
    have Z74 := hw.size
    clear hw ho
    obtain ⟨V2_c0, V2_c1, V2_l⟩ := V2.out
    obtain ⟨Vk3_c0, Vk3_c1, Vk3_l⟩ := Vk3.out
    obtain ⟨V63_c0, V63_c1, V63_l⟩ := V63.out
    go_wp2_with fail
    clear V2_c0 V2_c1 V2_l Vk3_c0 Vk3_c1 Vk3_l V63_c0 V63_c1 V63_l
    refine (eqSeenOut qa57 qak3 qc58 qck3 (putL (l0) ((x1, y1))) (putC (l0) ((x1, y1))) _ (by unfold maxLen; omega) O60.out.at_ Ok3.out.at_).mono ?_
    rintro e wx75 ⟨rfl, hb⟩
    replace B := Lib.hid (B.out.below hb)
    replace H0 := Lib.hid (H0.out.below hb)
    replace V2 := Lib.hid (V2.out.below hb)
    replace Vk3 := Lib.hid (Vk3.out.below hb)
    replace Ok3 := Lib.hid (Ok3.out.below hb)
    replace O53 := Lib.hid (O53.out.below hb)
    replace O60 := Lib.hid (O60.out.below hb)
    replace V63 := Lib.hid (V63.out.below hb)
    replace O69 := Lib.hid (O69.out.below hb)
    have Z76 := hb.size
    clear hb
    obtain ⟨V2_c0, V2_c1, V2_l⟩ := V2.out
    obtain ⟨Vk3_c0, Vk3_c1, Vk3_l⟩ := Vk3.out
    obtain ⟨V63_c0, V63_c1, V63_l⟩ := V63.out
    go_wp2_with fail
    clear V2_c0 V2_c1 V2_l Vk3_c0 Vk3_c1 Vk3_l V63_c0 V63_c1 V63_l
    refine (markSeenOut wx55.heap.size wx59.heap.size qa57 qc58 (putL (l0) ((x1, y1))) (putC (l0) ((x1, y1))) (1) _ (by omega) (by omega) (by omega) O60.out).mono ?_
    rintro e wx77 ⟨rfl, ho, hw⟩
    replace B := Lib.hid (B.out.within hw (by omega))
    replace H0 := Lib.hid (H0.out.within hw (by omega))
    replace V2 := Lib.hid (V2.out.within hw (by omega))
    replace Vk3 := Lib.hid (Vk3.out.within hw (by omega))
    replace Ok3 := Lib.hid (Ok3.out.within hw (by omega))
    replace O53 := Lib.hid (O53.out.within hw (by omega))
    replace V63 := Lib.hid (V63.out.within hw (by omega))
    replace O69 := Lib.hid (O69.out.within hw (by omega))
    replace O60 := Lib.hid (show OwnI wx77 wx55.heap.size wx59.heap.size qa57 (markL (1) (putL (l0) ((x1, y1))).length) from ⟨ho, Nat.le_trans O60.out.2 hw.size⟩)
    have Z78 := hw.size
    clear hw ho
    obtain ⟨V2_c0, V2_c1, V2_l⟩ := V2.out
    obtain ⟨Vk3_c0, Vk3_c1, Vk3_l⟩ := Vk3.out
    obtain ⟨V63_c0, V63_c1, V63_l⟩ := V63.out
    go_wp2_with fail
    clear V2_c0 V2_c1 V2_l Vk3_c0 Vk3_c1 Vk3_l V63_c0 V63_c1 V63_l
    refine (heldSeenOut qa57 qc58 (putL (l0) ((x1, y1))).length (putC (l0) ((x1, y1))) (1) _ (by omega) (by omega) (by omega) O60.out.at_).mono ?_
    rintro e wx79 ⟨rfl, hb⟩
    replace B := Lib.hid (B.out.below hb)
    replace H0 := Lib.hid (H0.out.below hb)
    replace V2 := Lib.hid (V2.out.below hb)
    replace Vk3 := Lib.hid (Vk3.out.below hb)
    replace Ok3 := Lib.hid (Ok3.out.below hb)
    replace O53 := Lib.hid (O53.out.below hb)
    replace O60 := Lib.hid (O60.out.below hb)
    replace V63 := Lib.hid (V63.out.below hb)
    replace O69 := Lib.hid (O69.out.below hb)
    have Z80 := hb.size
    clear hb
    obtain ⟨V2_c0, V2_c1, V2_l⟩ := V2.out
    obtain ⟨Vk3_c0, Vk3_c1, Vk3_l⟩ := Vk3.out
    obtain ⟨V63_c0, V63_c1, V63_l⟩ := V63.out
    go_upto_region 24 with fail
    clear V2_c0 V2_c1 V2_l Vk3_c0 Vk3_c1 Vk3_l V63_c0 V63_c1 V63_l
    go_cut [12] (fun s wx => ∃ (gg lo hi : Nat) (qa : Option Addr) (qc : Nat), s = .pointer (some ⟨gg, 0, none⟩) ∧ Var2 wx gg (.slice qa (putL (l0) ((x1, y1))).length qc) (.int .i64 (putC (l0) ((x1, y1)))) ∧ OwnI wx lo hi qa (putL (l0) ((x1, y1))) ∧ Base wx79 wx ∧ wx79.heap.size ≤ lo ∧ lo ≤ hi ∧ (gg < lo ∨ hi ≤ gg) ∧ wx79.heap.size ≤ gg)
    case first =>
      have D := Lib.hid (show Base wx79 wx79 from Below.refl _ _)
      have hb := step_drew wx79
      replace H0 := Lib.hid (H0.out.below hb)
      replace V2 := Lib.hid (V2.out.below hb)
      replace D := Lib.hid (D.out.below hb)
      clear hb
      refine wp_region_held_drew (S := (fun w' => w'.cell? ⟨w.heap.size, 0, none⟩ = some (.int .i64 x1) ∧ w'.cell? ⟨w.heap.size, 1, none⟩ = some (.int .i64 y1))) (by kernel_rfl) (by exact ⟨V2.out.c0, V2.out.c1⟩) (fun hHeld => ?_)
      have Z82 : wx79.heap.size ≤ wx79.drew.heap.size := Nat.le_refl _
      generalize wx79.drew = wd83 at Z82 hHeld H0 V2 D ⊢
      refine wpAnyH_take (i := 0) (v := ?_) rfl (by kernel_rfl) (by kernel_rfl) (by kernel_rfl) (fun _ _ _ h => h) (Or.inl ⟨by rfl, fun w hSw => by (try dsimp only at hSw); go_simp; (try with_reducible rfl)⟩) (by assumption) ?_
      try simp only [Act.put, List.setIfInBounds_toArray, List.set_cons_zero, List.set_cons_succ, List.getElem_toArray, List.getElem_cons_zero, List.getElem_cons_succ]
      refine wpAnyH_take (i := 2) (v := ?_) rfl (by kernel_rfl) (by kernel_rfl) (by kernel_rfl) (fun _ _ _ h => h) (Or.inl ⟨by rfl, fun w hSw => by (try dsimp only at hSw); go_simp; (try with_reducible rfl)⟩) (by assumption) ?_
      try simp only [Act.put, List.setIfInBounds_toArray, List.set_cons_zero, List.set_cons_succ, List.getElem_toArray, List.getElem_cons_zero, List.getElem_cons_succ]
      refine wpAnyH_ready (rs := [1, 5]) (by kernel_rfl) (by simp) ?_
      refine AllReadyH.cons rfl (fun K hK => ?_) ?_
      · go_simp
        refine (toMarkS a0 cap0 (l0) _ (by omega) H0.out.at_).mono ?_
        rintro e wx86 ⟨qa84, qc85, rfl, ho, hb⟩
        replace H0 := Lib.hid (H0.out.below hb)
        replace V2 := Lib.hid (V2.out.below hb)
        replace D := Lib.hid (D.out.below hb)
        have O87 := Lib.hid (show OwnI wx86 wd83.heap.size wx86.heap.size qa84 (l0) from ⟨ho, Nat.le_refl _⟩)
        have Z88 := hb.size
        clear hb ho
        go_wp2_with fail
        refine hK.out _ _ (by exact ⟨V2.out.c0, V2.out.c1⟩) (fun hHeld => ?_)
        clear hK K
        try simp only [Act.put, List.setIfInBounds_toArray, List.set_cons_zero, List.set_cons_succ, List.getElem_toArray, List.getElem_cons_zero, List.getElem_cons_succ]
        refine wpAnyH_ready (rs := [3, 5]) (by kernel_rfl) (by simp) ?_
        refine AllReadyH.cons rfl (fun K hK => ?_) ?_
        · go_simp
          refine (toMark ((x1, y1)) _).mono ?_
          rintro e wx89 ⟨rfl, hb⟩
          unfold mv
          replace H0 := Lib.hid (H0.out.below hb)
          replace V2 := Lib.hid (V2.out.below hb)
          replace D := Lib.hid (D.out.below hb)
          replace O87 := Lib.hid (O87.out.below hb)
          have Z90 := hb.size
          clear hb
          go_wp2_with fail
          refine hK.out _ _ (by exact ⟨V2.out.c0, V2.out.c1⟩) (fun hHeld => ?_)
          clear hK K
          try simp only [Act.put, List.setIfInBounds_toArray, List.set_cons_zero, List.set_cons_succ, List.getElem_toArray, List.getElem_cons_zero, List.getElem_cons_succ]
          refine wpAnyH_ready (rs := [4, 5]) (by kernel_rfl) (by simp) ?_
          refine AllReadyH.cons rfl (fun K hK => ?_) ?_
          · go_simp
            refine (impl_seenPut qa84 qc85 (l0) ((x1, y1)) _ (by unfold maxLen; omega) O87.out.at_).mono ?_
            rintro e wx93 ⟨qa91, qc92, rfl, ho, hb⟩
            replace H0 := Lib.hid (H0.out.below hb)
            replace V2 := Lib.hid (V2.out.below hb)
            replace D := Lib.hid (D.out.below hb)
            replace O87 := Lib.hid (O87.out.below hb)
            have O94 := Lib.hid (show OwnI wx93 wx89.heap.size wx93.heap.size qa91 (putL (l0) ((x1, y1))) from ⟨ho, Nat.le_refl _⟩)
            have Z95 := hb.size
            clear hb ho
            go_wp2_with fail
            refine hK.out _ _ (by exact ⟨V2.out.c0, V2.out.c1⟩) (fun hHeld => ?_)
            clear hK K
            try simp only [Act.put, List.setIfInBounds_toArray, List.set_cons_zero, List.set_cons_succ, List.getElem_toArray, List.getElem_cons_zero, List.getElem_cons_succ]
            refine wpAnyH_ready (rs := [5]) (by kernel_rfl) (by simp) ?_
            refine AllReadyH.cons rfl (fun K hK => ?_) AllReadyH.nil
            go_simp
            have hb := step_alloc wx93 (.cells #[.slice none 0 0, .int .i64 0] 32)
            replace H0 := Lib.hid (H0.out.below hb)
            replace V2 := Lib.hid (V2.out.below hb)
            replace D := Lib.hid (D.out.below hb)
            replace O87 := Lib.hid (O87.out.below hb)
            replace O94 := Lib.hid (O94.out.below hb)
            clear hb
            have NV := Lib.hid (New2.new wx93 (.slice none 0 0) (.int .i64 0) 32)
            have Z96 : wx93.heap.size < (wx93.alloc (.cells #[.slice none 0 0, .int .i64 0] 32)).heap.size := by simp
            obtain ⟨gb, hgb⟩ : ∃ gb, gb = wx93.heap.size := ⟨_, rfl⟩
            have QaZ96 : wx93.heap.size ≤ gb := by omega
            have QbZ96 : gb < (wx93.alloc (.cells #[.slice none 0 0, .int .i64 0] 32)).heap.size := by omega
            rw [← hgb] at NV ⊢
            clear hgb
            generalize wx93.alloc (.cells #[.slice none 0 0, .int .i64 0] 32) = wx97 at NV Z96 QbZ96 H0 V2 D O87 O94 ⊢
            refine hK.out _ _ (by exact ⟨V2.out.c0, V2.out.c1⟩) (fun hHeld => ?_)
            clear hK K
            try simp only [Act.put, List.setIfInBounds_toArray, List.set_cons_zero, List.set_cons_succ, List.getElem_toArray, List.getElem_cons_zero, List.getElem_cons_succ]
            obtain ⟨V2_c0, V2_c1, V2_l⟩ := V2.out
            obtain ⟨nv0, nv1, nf0, nf1, nl⟩ := NV.out
            refine wpAnyH_ready (rs := [6]) (by kernel_rfl) (by simp) ?_
            refine AllReadyH.cons rfl (fun K hK => ?_) AllReadyH.nil
            go_simp
            have hw := ((Within.refl gb (gb + 1) wx97).setCell (p := ⟨gb, 0, none⟩) (Nat.le_refl _) (Nat.lt_succ_self _) (.slice qa91 (putL (l0) ((x1, y1))).length qc92)).setCell (p := ⟨gb, 1, none⟩) (Nat.le_refl _) (Nat.lt_succ_self _) (.int .i64 (putC (l0) ((x1, y1))))
            have VV := NV.out.store (.slice qa91 (putL (l0) ((x1, y1))).length qc92) (.int .i64 (putC (l0) ((x1, y1))))
            replace H0 := Lib.hid (H0.out.within hw (by omega))
            replace V2 := Lib.hid (V2.out.within hw (by omega))
            replace D := Lib.hid (D.out.within hw (by omega))
            replace O87 := Lib.hid (O87.out.within hw (by omega))
            replace O94 := Lib.hid (O94.out.within hw (by omega))
            refine hK.out _ _ (by exact ⟨V2.out.c0, V2.out.c1⟩) (fun hHeld => ?_)
            refine wpAnyH_done (by kernel_rfl) ?_ _
            go_wp2_with fail
            go_meet
            exact ⟨gb, _, _, qa91, qc92, rfl, VV, O94.out, D.out, by omega, by omega, by omega, by omega⟩
          refine AllReadyH.cons rfl (fun K hK => ?_) ?_
          · go_simp
            have hb := step_alloc wx89 (.cells #[.slice none 0 0, .int .i64 0] 32)
            replace H0 := Lib.hid (H0.out.below hb)
            replace V2 := Lib.hid (V2.out.below hb)
            replace D := Lib.hid (D.out.below hb)
            replace O87 := Lib.hid (O87.out.below hb)
            clear hb
            have NV := Lib.hid (New2.new wx89 (.slice none 0 0) (.int .i64 0) 32)
            have Z98 : wx89.heap.size < (wx89.alloc (.cells #[.slice none 0 0, .int .i64 0] 32)).heap.size := by simp
            obtain ⟨gb, hgb⟩ : ∃ gb, gb = wx89.heap.size := ⟨_, rfl⟩
            have QaZ98 : wx89.heap.size ≤ gb := by omega
            have QbZ98 : gb < (wx89.alloc (.cells #[.slice none 0 0, .int .i64 0] 32)).heap.size := by omega
            rw [← hgb] at NV ⊢
            clear hgb
            generalize wx89.alloc (.cells #[.slice none 0 0, .int .i64 0] 32) = wx99 at NV Z98 QbZ98 H0 V2 D O87 ⊢
            refine hK.out _ _ (by exact ⟨V2.out.c0, V2.out.c1⟩) (fun hHeld => ?_)
            clear hK K
            try simp only [Act.put, List.setIfInBounds_toArray, List.set_cons_zero, List.set_cons_succ, List.getElem_toArray, List.getElem_cons_zero, List.getElem_cons_succ]
            refine wpAnyH_ready (rs := [4]) (by kernel_rfl) (by simp) ?_
            refine AllReadyH.cons rfl (fun K hK => ?_) AllReadyH.nil
            go_simp
            refine (impl_seenPut qa84 qc85 (l0) ((x1, y1)) _ (by unfold maxLen; omega) O87.out.at_).mono ?_
            rintro e wx102 ⟨qa100, qc101, rfl, ho, hb⟩
            replace H0 := Lib.hid (H0.out.below hb)
            replace V2 := Lib.hid (V2.out.below hb)
            replace D := Lib.hid (D.out.below hb)
            replace O87 := Lib.hid (O87.out.below hb)
            replace NV := Lib.hid (NV.out.below hb)
            have O103 := Lib.hid (show OwnI wx102 wx99.heap.size wx102.heap.size qa100 (putL (l0) ((x1, y1))) from ⟨ho, Nat.le_refl _⟩)
            have Z104 := hb.size
            clear hb ho
            go_wp2_with fail
            refine hK.out _ _ (by exact ⟨V2.out.c0, V2.out.c1⟩) (fun hHeld => ?_)
            clear hK K
            try simp only [Act.put, List.setIfInBounds_toArray, List.set_cons_zero, List.set_cons_succ, List.getElem_toArray, List.getElem_cons_zero, List.getElem_cons_succ]
            obtain ⟨V2_c0, V2_c1, V2_l⟩ := V2.out
            obtain ⟨nv0, nv1, nf0, nf1, nl⟩ := NV.out
            refine wpAnyH_ready (rs := [6]) (by kernel_rfl) (by simp) ?_
            refine AllReadyH.cons rfl (fun K hK => ?_) AllReadyH.nil
            go_simp
            have hw := ((Within.refl gb (gb + 1) wx102).setCell (p := ⟨gb, 0, none⟩) (Nat.le_refl _) (Nat.lt_succ_self _) (.slice qa100 (putL (l0) ((x1, y1))).length qc101)).setCell (p := ⟨gb, 1, none⟩) (Nat.le_refl _) (Nat.lt_succ_self _) (.int .i64 (putC (l0) ((x1, y1))))
            have VV := NV.out.store (.slice qa100 (putL (l0) ((x1, y1))).length qc101) (.int .i64 (putC (l0) ((x1, y1))))
            replace H0 := Lib.hid (H0.out.within hw (by omega))
            replace V2 := Lib.hid (V2.out.within hw (by omega))
            replace D := Lib.hid (D.out.within hw (by omega))
            replace O87 := Lib.hid (O87.out.within hw (by omega))
            replace O103 := Lib.hid (O103.out.within hw (by omega))
            refine hK.out _ _ (by exact ⟨V2.out.c0, V2.out.c1⟩) (fun hHeld => ?_)
            refine wpAnyH_done (by kernel_rfl) ?_ _
            go_wp2_with fail
            go_meet
            exact ⟨gb, _, _, qa100, qc101, rfl, VV, O103.out, D.out, by omega, by omega, by omega, by omega⟩
          exact AllReadyH.nil
        refine AllReadyH.cons rfl (fun K hK => ?_) ?_
        · go_simp
          have hb := step_alloc wx86 (.cells #[.slice none 0 0, .int .i64 0] 32)
          replace H0 := Lib.hid (H0.out.below hb)
          replace V2 := Lib.hid (V2.out.below hb)
          replace D := Lib.hid (D.out.below hb)
          replace O87 := Lib.hid (O87.out.below hb)
          clear hb
          have NV := Lib.hid (New2.new wx86 (.slice none 0 0) (.int .i64 0) 32)
          have Z105 : wx86.heap.size < (wx86.alloc (.cells #[.slice none 0 0, .int .i64 0] 32)).heap.size := by simp
          obtain ⟨gb, hgb⟩ : ∃ gb, gb = wx86.heap.size := ⟨_, rfl⟩
          have QaZ105 : wx86.heap.size ≤ gb := by omega
          have QbZ105 : gb < (wx86.alloc (.cells #[.slice none 0 0, .int .i64 0] 32)).heap.size := by omega
          rw [← hgb] at NV ⊢
          clear hgb
          generalize wx86.alloc (.cells #[.slice none 0 0, .int .i64 0] 32) = wx106 at NV Z105 QbZ105 H0 V2 D O87 ⊢
          refine hK.out _ _ (by exact ⟨V2.out.c0, V2.out.c1⟩) (fun hHeld => ?_)
          clear hK K
          try simp only [Act.put, List.setIfInBounds_toArray, List.set_cons_zero, List.set_cons_succ, List.getElem_toArray, List.getElem_cons_zero, List.getElem_cons_succ]
          refine wpAnyH_ready (rs := [3]) (by kernel_rfl) (by simp) ?_
          refine AllReadyH.cons rfl (fun K hK => ?_) AllReadyH.nil
          go_simp
          refine (toMark ((x1, y1)) _).mono ?_
          rintro e wx107 ⟨rfl, hb⟩
          unfold mv
          replace H0 := Lib.hid (H0.out.below hb)
          replace V2 := Lib.hid (V2.out.below hb)
          replace D := Lib.hid (D.out.below hb)
          replace O87 := Lib.hid (O87.out.below hb)
          replace NV := Lib.hid (NV.out.below hb)
          have Z108 := hb.size
          clear hb
          go_wp2_with fail
          refine hK.out _ _ (by exact ⟨V2.out.c0, V2.out.c1⟩) (fun hHeld => ?_)
          clear hK K
          try simp only [Act.put, List.setIfInBounds_toArray, List.set_cons_zero, List.set_cons_succ, List.getElem_toArray, List.getElem_cons_zero, List.getElem_cons_succ]
          refine wpAnyH_ready (rs := [4]) (by kernel_rfl) (by simp) ?_
          refine AllReadyH.cons rfl (fun K hK => ?_) AllReadyH.nil
          go_simp
          refine (impl_seenPut qa84 qc85 (l0) ((x1, y1)) _ (by unfold maxLen; omega) O87.out.at_).mono ?_
          rintro e wx111 ⟨qa109, qc110, rfl, ho, hb⟩
          replace H0 := Lib.hid (H0.out.below hb)
          replace V2 := Lib.hid (V2.out.below hb)
          replace D := Lib.hid (D.out.below hb)
          replace O87 := Lib.hid (O87.out.below hb)
          replace NV := Lib.hid (NV.out.below hb)
          have O112 := Lib.hid (show OwnI wx111 wx107.heap.size wx111.heap.size qa109 (putL (l0) ((x1, y1))) from ⟨ho, Nat.le_refl _⟩)
          have Z113 := hb.size
          clear hb ho
          go_wp2_with fail
          refine hK.out _ _ (by exact ⟨V2.out.c0, V2.out.c1⟩) (fun hHeld => ?_)
          clear hK K
          try simp only [Act.put, List.setIfInBounds_toArray, List.set_cons_zero, List.set_cons_succ, List.getElem_toArray, List.getElem_cons_zero, List.getElem_cons_succ]
          obtain ⟨V2_c0, V2_c1, V2_l⟩ := V2.out
          obtain ⟨nv0, nv1, nf0, nf1, nl⟩ := NV.out
          refine wpAnyH_ready (rs := [6]) (by kernel_rfl) (by simp) ?_
          refine AllReadyH.cons rfl (fun K hK => ?_) AllReadyH.nil
          go_simp
          have hw := ((Within.refl gb (gb + 1) wx111).setCell (p := ⟨gb, 0, none⟩) (Nat.le_refl _) (Nat.lt_succ_self _) (.slice qa109 (putL (l0) ((x1, y1))).length qc110)).setCell (p := ⟨gb, 1, none⟩) (Nat.le_refl _) (Nat.lt_succ_self _) (.int .i64 (putC (l0) ((x1, y1))))
          have VV := NV.out.store (.slice qa109 (putL (l0) ((x1, y1))).length qc110) (.int .i64 (putC (l0) ((x1, y1))))
          replace H0 := Lib.hid (H0.out.within hw (by omega))
          replace V2 := Lib.hid (V2.out.within hw (by omega))
          replace D := Lib.hid (D.out.within hw (by omega))
          replace O87 := Lib.hid (O87.out.within hw (by omega))
          replace O112 := Lib.hid (O112.out.within hw (by omega))
          refine hK.out _ _ (by exact ⟨V2.out.c0, V2.out.c1⟩) (fun hHeld => ?_)
          refine wpAnyH_done (by kernel_rfl) ?_ _
          go_wp2_with fail
          go_meet
          exact ⟨gb, _, _, qa109, qc110, rfl, VV, O112.out, D.out, by omega, by omega, by omega, by omega⟩
        exact AllReadyH.nil
      refine AllReadyH.cons rfl (fun K hK => ?_) ?_
      · go_simp
        have hb := step_alloc wd83 (.cells #[.slice none 0 0, .int .i64 0] 32)
        replace H0 := Lib.hid (H0.out.below hb)
        replace V2 := Lib.hid (V2.out.below hb)
        replace D := Lib.hid (D.out.below hb)
        clear hb
        have NV := Lib.hid (New2.new wd83 (.slice none 0 0) (.int .i64 0) 32)
        have Z114 : wd83.heap.size < (wd83.alloc (.cells #[.slice none 0 0, .int .i64 0] 32)).heap.size := by simp
        obtain ⟨gb, hgb⟩ : ∃ gb, gb = wd83.heap.size := ⟨_, rfl⟩
        have QaZ114 : wd83.heap.size ≤ gb := by omega
        have QbZ114 : gb < (wd83.alloc (.cells #[.slice none 0 0, .int .i64 0] 32)).heap.size := by omega
        rw [← hgb] at NV ⊢
        clear hgb
        generalize wd83.alloc (.cells #[.slice none 0 0, .int .i64 0] 32) = wx115 at NV Z114 QbZ114 H0 V2 D ⊢
        refine hK.out _ _ (by exact ⟨V2.out.c0, V2.out.c1⟩) (fun hHeld => ?_)
        clear hK K
        try simp only [Act.put, List.setIfInBounds_toArray, List.set_cons_zero, List.set_cons_succ, List.getElem_toArray, List.getElem_cons_zero, List.getElem_cons_succ]
        refine wpAnyH_ready (rs := [1]) (by kernel_rfl) (by simp) ?_
        refine AllReadyH.cons rfl (fun K hK => ?_) AllReadyH.nil
        go_simp
        refine (toMarkS a0 cap0 (l0) _ (by omega) H0.out.at_).mono ?_
        rintro e wx118 ⟨qa116, qc117, rfl, ho, hb⟩
        replace H0 := Lib.hid (H0.out.below hb)
        replace V2 := Lib.hid (V2.out.below hb)
        replace D := Lib.hid (D.out.below hb)
        replace NV := Lib.hid (NV.out.below hb)
        have O119 := Lib.hid (show OwnI wx118 wx115.heap.size wx118.heap.size qa116 (l0) from ⟨ho, Nat.le_refl _⟩)
        have Z120 := hb.size
        clear hb ho
        go_wp2_with fail
        refine hK.out _ _ (by exact ⟨V2.out.c0, V2.out.c1⟩) (fun hHeld => ?_)
        clear hK K
        try simp only [Act.put, List.setIfInBounds_toArray, List.set_cons_zero, List.set_cons_succ, List.getElem_toArray, List.getElem_cons_zero, List.getElem_cons_succ]
        refine wpAnyH_ready (rs := [3]) (by kernel_rfl) (by simp) ?_
        refine AllReadyH.cons rfl (fun K hK => ?_) AllReadyH.nil
        go_simp
        refine (toMark ((x1, y1)) _).mono ?_
        rintro e wx121 ⟨rfl, hb⟩
        unfold mv
        replace H0 := Lib.hid (H0.out.below hb)
        replace V2 := Lib.hid (V2.out.below hb)
        replace D := Lib.hid (D.out.below hb)
        replace NV := Lib.hid (NV.out.below hb)
        replace O119 := Lib.hid (O119.out.below hb)
        have Z122 := hb.size
        clear hb
        go_wp2_with fail
        refine hK.out _ _ (by exact ⟨V2.out.c0, V2.out.c1⟩) (fun hHeld => ?_)
        clear hK K
        try simp only [Act.put, List.setIfInBounds_toArray, List.set_cons_zero, List.set_cons_succ, List.getElem_toArray, List.getElem_cons_zero, List.getElem_cons_succ]
        refine wpAnyH_ready (rs := [4]) (by kernel_rfl) (by simp) ?_
        refine AllReadyH.cons rfl (fun K hK => ?_) AllReadyH.nil
        go_simp
        refine (impl_seenPut qa116 qc117 (l0) ((x1, y1)) _ (by unfold maxLen; omega) O119.out.at_).mono ?_
        rintro e wx125 ⟨qa123, qc124, rfl, ho, hb⟩
        replace H0 := Lib.hid (H0.out.below hb)
        replace V2 := Lib.hid (V2.out.below hb)
        replace D := Lib.hid (D.out.below hb)
        replace NV := Lib.hid (NV.out.below hb)
        replace O119 := Lib.hid (O119.out.below hb)
        have O126 := Lib.hid (show OwnI wx125 wx121.heap.size wx125.heap.size qa123 (putL (l0) ((x1, y1))) from ⟨ho, Nat.le_refl _⟩)
        have Z127 := hb.size
        clear hb ho
        go_wp2_with fail
        refine hK.out _ _ (by exact ⟨V2.out.c0, V2.out.c1⟩) (fun hHeld => ?_)
        clear hK K
        try simp only [Act.put, List.setIfInBounds_toArray, List.set_cons_zero, List.set_cons_succ, List.getElem_toArray, List.getElem_cons_zero, List.getElem_cons_succ]
        obtain ⟨V2_c0, V2_c1, V2_l⟩ := V2.out
        obtain ⟨nv0, nv1, nf0, nf1, nl⟩ := NV.out
        refine wpAnyH_ready (rs := [6]) (by kernel_rfl) (by simp) ?_
        refine AllReadyH.cons rfl (fun K hK => ?_) AllReadyH.nil
        go_simp
        have hw := ((Within.refl gb (gb + 1) wx125).setCell (p := ⟨gb, 0, none⟩) (Nat.le_refl _) (Nat.lt_succ_self _) (.slice qa123 (putL (l0) ((x1, y1))).length qc124)).setCell (p := ⟨gb, 1, none⟩) (Nat.le_refl _) (Nat.lt_succ_self _) (.int .i64 (putC (l0) ((x1, y1))))
        have VV := NV.out.store (.slice qa123 (putL (l0) ((x1, y1))).length qc124) (.int .i64 (putC (l0) ((x1, y1))))
        replace H0 := Lib.hid (H0.out.within hw (by omega))
        replace V2 := Lib.hid (V2.out.within hw (by omega))
        replace D := Lib.hid (D.out.within hw (by omega))
        replace O119 := Lib.hid (O119.out.within hw (by omega))
        replace O126 := Lib.hid (O126.out.within hw (by omega))
        refine hK.out _ _ (by exact ⟨V2.out.c0, V2.out.c1⟩) (fun hHeld => ?_)
        refine wpAnyH_done (by kernel_rfl) ?_ _
        go_wp2_with fail
        go_meet
        exact ⟨gb, _, _, qa123, qc124, rfl, VV, O126.out, D.out, by omega, by omega, by omega, by omega⟩
      exact AllReadyH.nil
    case rest =>
      obtain ⟨gk81, lok81, hik81, qak81, qck81, rfl, hV, hO, hb, z1k81, z2k81, z3k81, z4k81⟩ := hcut
      obtain ⟨wk81, hwk⟩ : ∃ x, x = wc := ⟨_, rfl⟩
      subst hwk
      replace B := Lib.hid (B.out.below hb)
      replace H0 := Lib.hid (H0.out.below hb)
      replace V2 := Lib.hid (V2.out.below hb)
      replace Vk3 := Lib.hid (Vk3.out.below hb)
      replace Ok3 := Lib.hid (Ok3.out.below hb)
      replace O53 := Lib.hid (O53.out.below hb)
      replace O60 := Lib.hid (O60.out.below hb)
      replace V63 := Lib.hid (V63.out.below hb)
      replace O69 := Lib.hid (O69.out.below hb)
      have Vk81 := Lib.hid hV
      have Ok81 := Lib.hid hO
      have Zk81 := hb.size
      have Yk81 := hO.2
      have Xk81 := hV.lt
      clear hb hV hO
      obtain ⟨V2_c0, V2_c1, V2_l⟩ := V2.out
      obtain ⟨Vk3_c0, Vk3_c1, Vk3_l⟩ := Vk3.out
      obtain ⟨V63_c0, V63_c1, V63_l⟩ := V63.out
      obtain ⟨Vk81_c0, Vk81_c1, Vk81_l⟩ := Vk81.out
      go_wp2_with fail
      clear V2_c0 V2_c1 V2_l Vk3_c0 Vk3_c1 Vk3_l V63_c0 V63_c1 V63_l Vk81_c0 Vk81_c1 Vk81_l
      refine (eqSeenOut qak81 qak3 qck81 qck3 (putL (l0) ((x1, y1))) (putC (l0) ((x1, y1))) _ (by unfold maxLen; omega) Ok81.out.at_ Ok3.out.at_).mono ?_
      rintro e wx128 ⟨rfl, hb⟩
      replace B := Lib.hid (B.out.below hb)
      replace H0 := Lib.hid (H0.out.below hb)
      replace V2 := Lib.hid (V2.out.below hb)
      replace Vk3 := Lib.hid (Vk3.out.below hb)
      replace Ok3 := Lib.hid (Ok3.out.below hb)
      replace O53 := Lib.hid (O53.out.below hb)
      replace O60 := Lib.hid (O60.out.below hb)
      replace V63 := Lib.hid (V63.out.below hb)
      replace O69 := Lib.hid (O69.out.below hb)
      replace Vk81 := Lib.hid (Vk81.out.below hb)
      replace Ok81 := Lib.hid (Ok81.out.below hb)
      have Z129 := hb.size
      clear hb
      obtain ⟨V2_c0, V2_c1, V2_l⟩ := V2.out
      obtain ⟨Vk3_c0, Vk3_c1, Vk3_l⟩ := Vk3.out
      obtain ⟨V63_c0, V63_c1, V63_l⟩ := V63.out
      obtain ⟨Vk81_c0, Vk81_c1, Vk81_l⟩ := Vk81.out
      go_wp2_with fail
      clear V2_c0 V2_c1 V2_l Vk3_c0 Vk3_c1 Vk3_l V63_c0 V63_c1 V63_l Vk81_c0 Vk81_c1 Vk81_l
      refine (heldSeenOut qa57 qc58 (putL (l0) ((x1, y1))).length (putC (l0) ((x1, y1))) (1) _ (by omega) (by omega) (by omega) O60.out.at_).mono ?_
      rintro e wx130 ⟨rfl, hb⟩
      replace B := Lib.hid (B.out.below hb)
      replace H0 := Lib.hid (H0.out.below hb)
      replace V2 := Lib.hid (V2.out.below hb)
      replace Vk3 := Lib.hid (Vk3.out.below hb)
      replace Ok3 := Lib.hid (Ok3.out.below hb)
      replace O53 := Lib.hid (O53.out.below hb)
      replace O60 := Lib.hid (O60.out.below hb)
      replace V63 := Lib.hid (V63.out.below hb)
      replace O69 := Lib.hid (O69.out.below hb)
      replace Vk81 := Lib.hid (Vk81.out.below hb)
      replace Ok81 := Lib.hid (Ok81.out.below hb)
      have Z131 := hb.size
      clear hb
      obtain ⟨V2_c0, V2_c1, V2_l⟩ := V2.out
      obtain ⟨Vk3_c0, Vk3_c1, Vk3_l⟩ := Vk3.out
      obtain ⟨V63_c0, V63_c1, V63_l⟩ := V63.out
      obtain ⟨Vk81_c0, Vk81_c1, Vk81_l⟩ := Vk81.out
      go_wp2
      go_ret
      exact ⟨rfl, B.out⟩
end Go.Proofs.Ytnlkejneinnbjaa.Mk
