/- Contracts of the model's reader: text; and num, many, text at any state. Condition: at most 8000 bytes. -/
import Derived.Test.YtgbcogncnhbmeaaSetReadMath
import Derived.Test.YtgbcogncnhbmeaaSeenReadS
import Derived.Test.YtgbcogncnhbmeaaGetTextS
import Derived.Deep.RegionHeld3
set_option linter.unusedSimpArgs false
set_option linter.unusedVariables false
namespace Go.Proofs.Ytgbcogncnhbmeaa.Sb
open Go.RowKit Go.Proofs.Ytgbcogncnhbmeaa.Mk Go.Proofs.Ytgbcogncnhbmeaa.Ge

set_option maxRecDepth 100000 in
set_option maxHeartbeats 2000000 in
theorem text_ok (g : Nat) (s : ByteArray) (a : Int) (d : ByteArray) (a1 : Int) (w : World) (hs : s.size ≤ 8000) (hn : cutT s (readN s a) = (d, a1, 0)) (h : Rd w g s a false) :
    Calls Try.prog 76 #[.pointer (some ⟨g, 0, none⟩)] w fun e w' => e = .returned (.string d) ∧ Rd w' g s a1 false ∧ Within g (g + 1) w w' := by
  have HN := Lib.hid (show cutT s (getN s a) = (d, a1, 0) by rw [getN_small hs]; exact hn)
  have R := Lib.hid h
  have hg := h.lt
  have D := Lib.hid (show Base w w from Below.refl _ _)
  clear h hn
  go_enter Try.func76, Try.ntmps76
  go_wp2_with fail
  have hb := step_drew w
  replace R := Lib.hid (R.out.below hb)
  replace D := Lib.hid (D.out.below hb)
  clear hb
  refine wp_region_held_drew (S := (fun w' => w'.cell? ⟨g, 0, none⟩ = some (.string s) ∧ w'.cell? ⟨g, 1, none⟩ = some (.int .i64 a))) (by kernel_rfl) (by exact ⟨R.out.c0, R.out.c1⟩) (fun hHeld => ?_)
  have Zd : w.heap.size ≤ w.drew.heap.size := Nat.le_refl _
  generalize w.drew = wd at Zd hHeld R D ⊢
  refine wpAnyH_take (i := 0) (v := ?_) rfl (by kernel_rfl) (by kernel_rfl) (by kernel_rfl) (fun _ _ _ h => h) (Or.inl ⟨by rfl, fun w hSw => by (try dsimp only at hSw); go_simp; (try with_reducible rfl)⟩) (by assumption) ?_
  try simp only [Act.put, List.setIfInBounds_toArray, List.set_cons_zero, List.set_cons_succ, List.getElem_toArray, List.getElem_cons_zero, List.getElem_cons_succ]
  refine wpAnyH_take (i := 1) (v := ?_) rfl (by kernel_rfl) (by kernel_rfl) (by kernel_rfl) (fun _ _ _ h => h) (Or.inl ⟨by rfl, fun w hSw => by (try dsimp only at hSw); go_simp; (try with_reducible rfl)⟩) (by assumption) ?_
  try simp only [Act.put, List.setIfInBounds_toArray, List.set_cons_zero, List.set_cons_succ, List.getElem_toArray, List.getElem_cons_zero, List.getElem_cons_succ]
  refine wpAnyH_take (i := 2) (v := ?_) rfl (by kernel_rfl) (by kernel_rfl) (by kernel_rfl) (fun _ _ _ h => h) (Or.inl ⟨by rfl, fun w hSw => by (try dsimp only at hSw); go_simp; (try with_reducible rfl)⟩) (by assumption) ?_
  try simp only [Act.put, List.setIfInBounds_toArray, List.set_cons_zero, List.set_cons_succ, List.getElem_toArray, List.getElem_cons_zero, List.getElem_cons_succ]
  refine wpAnyH_take (i := 3) (v := ?_) rfl (by kernel_rfl) (by kernel_rfl) (by kernel_rfl) (fun _ _ _ h => h) (Or.inl ⟨by rfl, fun w hSw => by (try dsimp only at hSw); go_simp; (try with_reducible rfl)⟩) (by assumption) ?_
  try simp only [Act.put, List.setIfInBounds_toArray, List.set_cons_zero, List.set_cons_succ, List.getElem_toArray, List.getElem_cons_zero, List.getElem_cons_succ]
  refine wpAnyH_take (i := 4) (v := ?_) rfl (by kernel_rfl) (by kernel_rfl) (by kernel_rfl) (fun _ _ _ h => h) (Or.inl ⟨by rfl, fun w hSw => by (try dsimp only at hSw); go_simp; (try with_reducible rfl)⟩) (by assumption) ?_
  try simp only [Act.put, List.setIfInBounds_toArray, List.set_cons_zero, List.set_cons_succ, List.getElem_toArray, List.getElem_cons_zero, List.getElem_cons_succ]
  refine wpAnyH_take (i := 5) (v := ?_) rfl (by kernel_rfl) (by kernel_rfl) (by kernel_rfl) (fun _ _ _ h => h) (Or.inl ⟨by rfl, fun w hSw => by (try dsimp only at hSw); go_simp; (try with_reducible rfl)⟩) (by assumption) ?_
  try simp only [Act.put, List.setIfInBounds_toArray, List.set_cons_zero, List.set_cons_succ, List.getElem_toArray, List.getElem_cons_zero, List.getElem_cons_succ]
  refine wpAnyH_take (i := 6) (v := ?_) rfl (by kernel_rfl) (by kernel_rfl) (by kernel_rfl) (fun _ _ _ h => h) (Or.inl ⟨by rfl, fun w hSw => by (try dsimp only at hSw); go_simp; (try with_reducible rfl)⟩) (by assumption) ?_
  try simp only [Act.put, List.setIfInBounds_toArray, List.set_cons_zero, List.set_cons_succ, List.getElem_toArray, List.getElem_cons_zero, List.getElem_cons_succ]
  refine wpAnyH_take (i := 7) (v := ?_) rfl (by kernel_rfl) (by kernel_rfl) (by kernel_rfl) (fun _ _ _ h => h) (Or.inl ⟨by rfl, fun w hSw => by (try dsimp only at hSw); go_simp; (try with_reducible rfl)⟩) (by assumption) ?_
  try simp only [Act.put, List.setIfInBounds_toArray, List.set_cons_zero, List.set_cons_succ, List.getElem_toArray, List.getElem_cons_zero, List.getElem_cons_succ]
  refine wpAnyH_ready (rs := [8, 9]) (by kernel_rfl) (by simp) ?_
  refine AllReadyH.cons rfl (fun K hK => ?_) ?_
  · go_simp
    go_at_call 112
    refine (spec_GetText s (by unfold maxLen; omega) a _).mono ?_
    rintro e wc8 ⟨rfl, hb⟩
    rw [HN.out]
    unfold tout
    simp only
    replace R := Lib.hid (R.out.below hb)
    replace D := Lib.hid (D.out.below hb)
    have Zc0 := hb.size
    clear hb
    go_wp2_with fail
    refine hK.out _ _ (by exact ⟨R.out.c0, R.out.c1⟩) (fun hHeld => ?_)
    clear hK K
    try simp only [Act.put, List.setIfInBounds_toArray, List.set_cons_zero, List.set_cons_succ, List.getElem_toArray, List.getElem_cons_zero, List.getElem_cons_succ]
    refine wpAnyH_ready (rs := [9]) (by kernel_rfl) (by simp) ?_
    refine AllReadyH.cons rfl (fun K hK => ?_) AllReadyH.nil
    go_simp
    have hb := step_alloc wc8 (.cells #[.string ⟨#[]⟩, .int .i64 0, .int .i64 0] 149)
    replace R := Lib.hid (R.out.below hb)
    replace D := Lib.hid (D.out.below hb)
    clear hb
    have NV := Lib.hid (New3.new wc8 (.string ⟨#[]⟩) (.int .i64 0) (.int .i64 0) 149)
    have Za : wc8.heap.size < (wc8.alloc (.cells #[.string ⟨#[]⟩, .int .i64 0, .int .i64 0] 149)).heap.size := by simp
    obtain ⟨gb, hgb⟩ : ∃ gb, gb = wc8.heap.size := ⟨_, rfl⟩
    have Qa : wc8.heap.size ≤ gb := by omega
    have Qb : gb < (wc8.alloc (.cells #[.string ⟨#[]⟩, .int .i64 0, .int .i64 0] 149)).heap.size := by omega
    rw [← hgb] at NV ⊢
    clear hgb
    generalize wc8.alloc (.cells #[.string ⟨#[]⟩, .int .i64 0, .int .i64 0] 149) = wa at NV Za Qb R D ⊢
    refine hK.out _ _ (by exact ⟨R.out.c0, R.out.c1⟩) (fun hHeld => ?_)
    clear hK K
    try simp only [Act.put, List.setIfInBounds_toArray, List.set_cons_zero, List.set_cons_succ, List.getElem_toArray, List.getElem_cons_zero, List.getElem_cons_succ]
    obtain ⟨nv0, nv1, nv2, nf0, nf1, nf2, nl⟩ := NV.out
    refine wpAnyH_ready (rs := [10]) (by kernel_rfl) (by simp) ?_
    refine AllReadyH.cons rfl (fun K hK => ?_) AllReadyH.nil
    go_simp
    have hw := (((Within.refl gb (gb + 1) wa).setCell (p := ⟨gb, 0, none⟩) (Nat.le_refl _) (Nat.lt_succ_self _) (.string d)).setCell (p := ⟨gb, 1, none⟩) (Nat.le_refl _) (Nat.lt_succ_self _) (.int .i64 a1)).setCell (p := ⟨gb, 2, none⟩) (Nat.le_refl _) (Nat.lt_succ_self _) (.int .i64 (0))
    have V := Lib.hid (NV.out.store (.string d) (.int .i64 a1) (.int .i64 (0)))
    replace R := Lib.hid (R.out.within hw (by omega))
    replace D := Lib.hid (D.out.within hw (by omega))
    have Zs : wa.heap.size ≤ (World.setCell (World.setCell (World.setCell wa ⟨gb, 0, none⟩ (.string d)) ⟨gb, 1, none⟩ (.int .i64 a1)) ⟨gb, 2, none⟩ (.int .i64 (0))).heap.size := hw.size
    clear hw NV nv0 nv1 nv2 nf0 nf1 nf2 nl
    generalize (World.setCell (World.setCell (World.setCell wa ⟨gb, 0, none⟩ (.string d)) ⟨gb, 1, none⟩ (.int .i64 a1)) ⟨gb, 2, none⟩ (.int .i64 (0))) = wz at V Zs R D ⊢
    refine hK.out _ _ (by exact ⟨R.out.c0, R.out.c1⟩) (fun hHeld => ?_)
    clear hK K
    try simp only [Act.put, List.setIfInBounds_toArray, List.set_cons_zero, List.set_cons_succ, List.getElem_toArray, List.getElem_cons_zero, List.getElem_cons_succ]
    refine wpAnyH_done (by kernel_rfl) ?_ _
    obtain ⟨v0, v1, v2, vl⟩ := V.out
    obtain ⟨r0, r1, r2, rf1, rf2, rl⟩ := R.out
    go_wp2
    go_ret
    exact ⟨rfl, R.out.setAt a1, (within_of D.out).setCell (p := ⟨g, 1, none⟩) (Nat.le_refl _) (Nat.lt_succ_self _) _⟩
  refine AllReadyH.cons rfl (fun K hK => ?_) AllReadyH.nil
  go_simp
  have hb := step_alloc wd (.cells #[.string ⟨#[]⟩, .int .i64 0, .int .i64 0] 149)
  replace R := Lib.hid (R.out.below hb)
  replace D := Lib.hid (D.out.below hb)
  clear hb
  have NV := Lib.hid (New3.new wd (.string ⟨#[]⟩) (.int .i64 0) (.int .i64 0) 149)
  have Za : wd.heap.size < (wd.alloc (.cells #[.string ⟨#[]⟩, .int .i64 0, .int .i64 0] 149)).heap.size := by simp
  obtain ⟨gb, hgb⟩ : ∃ gb, gb = wd.heap.size := ⟨_, rfl⟩
  have Qa : wd.heap.size ≤ gb := by omega
  have Qb : gb < (wd.alloc (.cells #[.string ⟨#[]⟩, .int .i64 0, .int .i64 0] 149)).heap.size := by omega
  rw [← hgb] at NV ⊢
  clear hgb
  generalize wd.alloc (.cells #[.string ⟨#[]⟩, .int .i64 0, .int .i64 0] 149) = wa at NV Za Qb R D ⊢
  refine hK.out _ _ (by exact ⟨R.out.c0, R.out.c1⟩) (fun hHeld => ?_)
  clear hK K
  try simp only [Act.put, List.setIfInBounds_toArray, List.set_cons_zero, List.set_cons_succ, List.getElem_toArray, List.getElem_cons_zero, List.getElem_cons_succ]
  refine wpAnyH_ready (rs := [8]) (by kernel_rfl) (by simp) ?_
  refine AllReadyH.cons rfl (fun K hK => ?_) AllReadyH.nil
  go_simp
  go_at_call 112
  refine (spec_GetText s (by unfold maxLen; omega) a _).mono ?_
  rintro e wc8 ⟨rfl, hb⟩
  rw [HN.out]
  unfold tout
  simp only
  replace R := Lib.hid (R.out.below hb)
  replace D := Lib.hid (D.out.below hb)
  replace NV := Lib.hid (NV.out.below hb)
  have Zc0 := hb.size
  clear hb
  go_wp2_with fail
  refine hK.out _ _ (by exact ⟨R.out.c0, R.out.c1⟩) (fun hHeld => ?_)
  clear hK K
  try simp only [Act.put, List.setIfInBounds_toArray, List.set_cons_zero, List.set_cons_succ, List.getElem_toArray, List.getElem_cons_zero, List.getElem_cons_succ]
  obtain ⟨nv0, nv1, nv2, nf0, nf1, nf2, nl⟩ := NV.out
  refine wpAnyH_ready (rs := [10]) (by kernel_rfl) (by simp) ?_
  refine AllReadyH.cons rfl (fun K hK => ?_) AllReadyH.nil
  go_simp
  have hw := (((Within.refl gb (gb + 1) wc8).setCell (p := ⟨gb, 0, none⟩) (Nat.le_refl _) (Nat.lt_succ_self _) (.string d)).setCell (p := ⟨gb, 1, none⟩) (Nat.le_refl _) (Nat.lt_succ_self _) (.int .i64 a1)).setCell (p := ⟨gb, 2, none⟩) (Nat.le_refl _) (Nat.lt_succ_self _) (.int .i64 (0))
  have V := Lib.hid (NV.out.store (.string d) (.int .i64 a1) (.int .i64 (0)))
  replace R := Lib.hid (R.out.within hw (by omega))
  replace D := Lib.hid (D.out.within hw (by omega))
  have Zs : wc8.heap.size ≤ (World.setCell (World.setCell (World.setCell wc8 ⟨gb, 0, none⟩ (.string d)) ⟨gb, 1, none⟩ (.int .i64 a1)) ⟨gb, 2, none⟩ (.int .i64 (0))).heap.size := hw.size
  clear hw NV nv0 nv1 nv2 nf0 nf1 nf2 nl
  generalize (World.setCell (World.setCell (World.setCell wc8 ⟨gb, 0, none⟩ (.string d)) ⟨gb, 1, none⟩ (.int .i64 a1)) ⟨gb, 2, none⟩ (.int .i64 (0))) = wz at V Zs R D ⊢
  refine hK.out _ _ (by exact ⟨R.out.c0, R.out.c1⟩) (fun hHeld => ?_)
  clear hK K
  try simp only [Act.put, List.setIfInBounds_toArray, List.set_cons_zero, List.set_cons_succ, List.getElem_toArray, List.getElem_cons_zero, List.getElem_cons_succ]
  refine wpAnyH_done (by kernel_rfl) ?_ _
  obtain ⟨v0, v1, v2, vl⟩ := V.out
  obtain ⟨r0, r1, r2, rf1, rf2, rl⟩ := R.out
  go_wp2
  go_ret
  exact ⟨rfl, R.out.setAt a1, (within_of D.out).setCell (p := ⟨g, 1, none⟩) (Nat.le_refl _) (Nat.lt_succ_self _) _⟩

set_option maxRecDepth 100000 in
set_option maxHeartbeats 2000000 in
theorem text_bad (g : Nat) (s : ByteArray) (a : Int) (d : ByteArray) (a1 c : Int) (w : World) (hs : s.size ≤ 8000) (hc : c ≠ 0) (hn : cutT s (readN s a) = (d, a1, c)) (h : Rd w g s a false) :
    Calls Try.prog 76 #[.pointer (some ⟨g, 0, none⟩)] w fun e w' => e = .returned (.string ⟨#[]⟩) ∧ Rd w' g s a true ∧ Within g (g + 1) w w' := by
  have HN := Lib.hid (show cutT s (getN s a) = (d, a1, c) by rw [getN_small hs]; exact hn)
  have R := Lib.hid h
  have hg := h.lt
  have D := Lib.hid (show Base w w from Below.refl _ _)
  clear h hn
  go_enter Try.func76, Try.ntmps76
  go_wp2_with fail
  have hb := step_drew w
  replace R := Lib.hid (R.out.below hb)
  replace D := Lib.hid (D.out.below hb)
  clear hb
  refine wp_region_held_drew (S := (fun w' => w'.cell? ⟨g, 0, none⟩ = some (.string s) ∧ w'.cell? ⟨g, 1, none⟩ = some (.int .i64 a))) (by kernel_rfl) (by exact ⟨R.out.c0, R.out.c1⟩) (fun hHeld => ?_)
  have Zd : w.heap.size ≤ w.drew.heap.size := Nat.le_refl _
  generalize w.drew = wd at Zd hHeld R D ⊢
  refine wpAnyH_take (i := 0) (v := ?_) rfl (by kernel_rfl) (by kernel_rfl) (by kernel_rfl) (fun _ _ _ h => h) (Or.inl ⟨by rfl, fun w hSw => by (try dsimp only at hSw); go_simp; (try with_reducible rfl)⟩) (by assumption) ?_
  try simp only [Act.put, List.setIfInBounds_toArray, List.set_cons_zero, List.set_cons_succ, List.getElem_toArray, List.getElem_cons_zero, List.getElem_cons_succ]
  refine wpAnyH_take (i := 1) (v := ?_) rfl (by kernel_rfl) (by kernel_rfl) (by kernel_rfl) (fun _ _ _ h => h) (Or.inl ⟨by rfl, fun w hSw => by (try dsimp only at hSw); go_simp; (try with_reducible rfl)⟩) (by assumption) ?_
  try simp only [Act.put, List.setIfInBounds_toArray, List.set_cons_zero, List.set_cons_succ, List.getElem_toArray, List.getElem_cons_zero, List.getElem_cons_succ]
  refine wpAnyH_take (i := 2) (v := ?_) rfl (by kernel_rfl) (by kernel_rfl) (by kernel_rfl) (fun _ _ _ h => h) (Or.inl ⟨by rfl, fun w hSw => by (try dsimp only at hSw); go_simp; (try with_reducible rfl)⟩) (by assumption) ?_
  try simp only [Act.put, List.setIfInBounds_toArray, List.set_cons_zero, List.set_cons_succ, List.getElem_toArray, List.getElem_cons_zero, List.getElem_cons_succ]
  refine wpAnyH_take (i := 3) (v := ?_) rfl (by kernel_rfl) (by kernel_rfl) (by kernel_rfl) (fun _ _ _ h => h) (Or.inl ⟨by rfl, fun w hSw => by (try dsimp only at hSw); go_simp; (try with_reducible rfl)⟩) (by assumption) ?_
  try simp only [Act.put, List.setIfInBounds_toArray, List.set_cons_zero, List.set_cons_succ, List.getElem_toArray, List.getElem_cons_zero, List.getElem_cons_succ]
  refine wpAnyH_take (i := 4) (v := ?_) rfl (by kernel_rfl) (by kernel_rfl) (by kernel_rfl) (fun _ _ _ h => h) (Or.inl ⟨by rfl, fun w hSw => by (try dsimp only at hSw); go_simp; (try with_reducible rfl)⟩) (by assumption) ?_
  try simp only [Act.put, List.setIfInBounds_toArray, List.set_cons_zero, List.set_cons_succ, List.getElem_toArray, List.getElem_cons_zero, List.getElem_cons_succ]
  refine wpAnyH_take (i := 5) (v := ?_) rfl (by kernel_rfl) (by kernel_rfl) (by kernel_rfl) (fun _ _ _ h => h) (Or.inl ⟨by rfl, fun w hSw => by (try dsimp only at hSw); go_simp; (try with_reducible rfl)⟩) (by assumption) ?_
  try simp only [Act.put, List.setIfInBounds_toArray, List.set_cons_zero, List.set_cons_succ, List.getElem_toArray, List.getElem_cons_zero, List.getElem_cons_succ]
  refine wpAnyH_take (i := 6) (v := ?_) rfl (by kernel_rfl) (by kernel_rfl) (by kernel_rfl) (fun _ _ _ h => h) (Or.inl ⟨by rfl, fun w hSw => by (try dsimp only at hSw); go_simp; (try with_reducible rfl)⟩) (by assumption) ?_
  try simp only [Act.put, List.setIfInBounds_toArray, List.set_cons_zero, List.set_cons_succ, List.getElem_toArray, List.getElem_cons_zero, List.getElem_cons_succ]
  refine wpAnyH_take (i := 7) (v := ?_) rfl (by kernel_rfl) (by kernel_rfl) (by kernel_rfl) (fun _ _ _ h => h) (Or.inl ⟨by rfl, fun w hSw => by (try dsimp only at hSw); go_simp; (try with_reducible rfl)⟩) (by assumption) ?_
  try simp only [Act.put, List.setIfInBounds_toArray, List.set_cons_zero, List.set_cons_succ, List.getElem_toArray, List.getElem_cons_zero, List.getElem_cons_succ]
  refine wpAnyH_ready (rs := [8, 9]) (by kernel_rfl) (by simp) ?_
  refine AllReadyH.cons rfl (fun K hK => ?_) ?_
  · go_simp
    go_at_call 112
    refine (spec_GetText s (by unfold maxLen; omega) a _).mono ?_
    rintro e wc8 ⟨rfl, hb⟩
    rw [HN.out]
    unfold tout
    simp only
    replace R := Lib.hid (R.out.below hb)
    replace D := Lib.hid (D.out.below hb)
    have Zc0 := hb.size
    clear hb
    go_wp2_with fail
    refine hK.out _ _ (by exact ⟨R.out.c0, R.out.c1⟩) (fun hHeld => ?_)
    clear hK K
    try simp only [Act.put, List.setIfInBounds_toArray, List.set_cons_zero, List.set_cons_succ, List.getElem_toArray, List.getElem_cons_zero, List.getElem_cons_succ]
    refine wpAnyH_ready (rs := [9]) (by kernel_rfl) (by simp) ?_
    refine AllReadyH.cons rfl (fun K hK => ?_) AllReadyH.nil
    go_simp
    have hb := step_alloc wc8 (.cells #[.string ⟨#[]⟩, .int .i64 0, .int .i64 0] 149)
    replace R := Lib.hid (R.out.below hb)
    replace D := Lib.hid (D.out.below hb)
    clear hb
    have NV := Lib.hid (New3.new wc8 (.string ⟨#[]⟩) (.int .i64 0) (.int .i64 0) 149)
    have Za : wc8.heap.size < (wc8.alloc (.cells #[.string ⟨#[]⟩, .int .i64 0, .int .i64 0] 149)).heap.size := by simp
    obtain ⟨gb, hgb⟩ : ∃ gb, gb = wc8.heap.size := ⟨_, rfl⟩
    have Qa : wc8.heap.size ≤ gb := by omega
    have Qb : gb < (wc8.alloc (.cells #[.string ⟨#[]⟩, .int .i64 0, .int .i64 0] 149)).heap.size := by omega
    rw [← hgb] at NV ⊢
    clear hgb
    generalize wc8.alloc (.cells #[.string ⟨#[]⟩, .int .i64 0, .int .i64 0] 149) = wa at NV Za Qb R D ⊢
    refine hK.out _ _ (by exact ⟨R.out.c0, R.out.c1⟩) (fun hHeld => ?_)
    clear hK K
    try simp only [Act.put, List.setIfInBounds_toArray, List.set_cons_zero, List.set_cons_succ, List.getElem_toArray, List.getElem_cons_zero, List.getElem_cons_succ]
    obtain ⟨nv0, nv1, nv2, nf0, nf1, nf2, nl⟩ := NV.out
    refine wpAnyH_ready (rs := [10]) (by kernel_rfl) (by simp) ?_
    refine AllReadyH.cons rfl (fun K hK => ?_) AllReadyH.nil
    go_simp
    have hw := (((Within.refl gb (gb + 1) wa).setCell (p := ⟨gb, 0, none⟩) (Nat.le_refl _) (Nat.lt_succ_self _) (.string d)).setCell (p := ⟨gb, 1, none⟩) (Nat.le_refl _) (Nat.lt_succ_self _) (.int .i64 a1)).setCell (p := ⟨gb, 2, none⟩) (Nat.le_refl _) (Nat.lt_succ_self _) (.int .i64 (c))
    have V := Lib.hid (NV.out.store (.string d) (.int .i64 a1) (.int .i64 (c)))
    replace R := Lib.hid (R.out.within hw (by omega))
    replace D := Lib.hid (D.out.within hw (by omega))
    have Zs : wa.heap.size ≤ (World.setCell (World.setCell (World.setCell wa ⟨gb, 0, none⟩ (.string d)) ⟨gb, 1, none⟩ (.int .i64 a1)) ⟨gb, 2, none⟩ (.int .i64 (c))).heap.size := hw.size
    clear hw NV nv0 nv1 nv2 nf0 nf1 nf2 nl
    generalize (World.setCell (World.setCell (World.setCell wa ⟨gb, 0, none⟩ (.string d)) ⟨gb, 1, none⟩ (.int .i64 a1)) ⟨gb, 2, none⟩ (.int .i64 (c))) = wz at V Zs R D ⊢
    refine hK.out _ _ (by exact ⟨R.out.c0, R.out.c1⟩) (fun hHeld => ?_)
    clear hK K
    try simp only [Act.put, List.setIfInBounds_toArray, List.set_cons_zero, List.set_cons_succ, List.getElem_toArray, List.getElem_cons_zero, List.getElem_cons_succ]
    refine wpAnyH_done (by kernel_rfl) ?_ _
    obtain ⟨v0, v1, v2, vl⟩ := V.out
    obtain ⟨r0, r1, r2, rf1, rf2, rl⟩ := R.out
    have hc1 : (c == 0) = false := by simpa using hc
    have hc2 : (c != 0) = true := by simpa using hc
    go_wp2
    go_ret
    exact ⟨rfl, R.out.setBad true, (within_of D.out).setCell (p := ⟨g, 2, none⟩) (Nat.le_refl _) (Nat.lt_succ_self _) _⟩
  refine AllReadyH.cons rfl (fun K hK => ?_) AllReadyH.nil
  go_simp
  have hb := step_alloc wd (.cells #[.string ⟨#[]⟩, .int .i64 0, .int .i64 0] 149)
  replace R := Lib.hid (R.out.below hb)
  replace D := Lib.hid (D.out.below hb)
  clear hb
  have NV := Lib.hid (New3.new wd (.string ⟨#[]⟩) (.int .i64 0) (.int .i64 0) 149)
  have Za : wd.heap.size < (wd.alloc (.cells #[.string ⟨#[]⟩, .int .i64 0, .int .i64 0] 149)).heap.size := by simp
  obtain ⟨gb, hgb⟩ : ∃ gb, gb = wd.heap.size := ⟨_, rfl⟩
  have Qa : wd.heap.size ≤ gb := by omega
  have Qb : gb < (wd.alloc (.cells #[.string ⟨#[]⟩, .int .i64 0, .int .i64 0] 149)).heap.size := by omega
  rw [← hgb] at NV ⊢
  clear hgb
  generalize wd.alloc (.cells #[.string ⟨#[]⟩, .int .i64 0, .int .i64 0] 149) = wa at NV Za Qb R D ⊢
  refine hK.out _ _ (by exact ⟨R.out.c0, R.out.c1⟩) (fun hHeld => ?_)
  clear hK K
  try simp only [Act.put, List.setIfInBounds_toArray, List.set_cons_zero, List.set_cons_succ, List.getElem_toArray, List.getElem_cons_zero, List.getElem_cons_succ]
  refine wpAnyH_ready (rs := [8]) (by kernel_rfl) (by simp) ?_
  refine AllReadyH.cons rfl (fun K hK => ?_) AllReadyH.nil
  go_simp
  go_at_call 112
  refine (spec_GetText s (by unfold maxLen; omega) a _).mono ?_
  rintro e wc8 ⟨rfl, hb⟩
  rw [HN.out]
  unfold tout
  simp only
  replace R := Lib.hid (R.out.below hb)
  replace D := Lib.hid (D.out.below hb)
  replace NV := Lib.hid (NV.out.below hb)
  have Zc0 := hb.size
  clear hb
  go_wp2_with fail
  refine hK.out _ _ (by exact ⟨R.out.c0, R.out.c1⟩) (fun hHeld => ?_)
  clear hK K
  try simp only [Act.put, List.setIfInBounds_toArray, List.set_cons_zero, List.set_cons_succ, List.getElem_toArray, List.getElem_cons_zero, List.getElem_cons_succ]
  obtain ⟨nv0, nv1, nv2, nf0, nf1, nf2, nl⟩ := NV.out
  refine wpAnyH_ready (rs := [10]) (by kernel_rfl) (by simp) ?_
  refine AllReadyH.cons rfl (fun K hK => ?_) AllReadyH.nil
  go_simp
  have hw := (((Within.refl gb (gb + 1) wc8).setCell (p := ⟨gb, 0, none⟩) (Nat.le_refl _) (Nat.lt_succ_self _) (.string d)).setCell (p := ⟨gb, 1, none⟩) (Nat.le_refl _) (Nat.lt_succ_self _) (.int .i64 a1)).setCell (p := ⟨gb, 2, none⟩) (Nat.le_refl _) (Nat.lt_succ_self _) (.int .i64 (c))
  have V := Lib.hid (NV.out.store (.string d) (.int .i64 a1) (.int .i64 (c)))
  replace R := Lib.hid (R.out.within hw (by omega))
  replace D := Lib.hid (D.out.within hw (by omega))
  have Zs : wc8.heap.size ≤ (World.setCell (World.setCell (World.setCell wc8 ⟨gb, 0, none⟩ (.string d)) ⟨gb, 1, none⟩ (.int .i64 a1)) ⟨gb, 2, none⟩ (.int .i64 (c))).heap.size := hw.size
  clear hw NV nv0 nv1 nv2 nf0 nf1 nf2 nl
  generalize (World.setCell (World.setCell (World.setCell wc8 ⟨gb, 0, none⟩ (.string d)) ⟨gb, 1, none⟩ (.int .i64 a1)) ⟨gb, 2, none⟩ (.int .i64 (c))) = wz at V Zs R D ⊢
  refine hK.out _ _ (by exact ⟨R.out.c0, R.out.c1⟩) (fun hHeld => ?_)
  clear hK K
  try simp only [Act.put, List.setIfInBounds_toArray, List.set_cons_zero, List.set_cons_succ, List.getElem_toArray, List.getElem_cons_zero, List.getElem_cons_succ]
  refine wpAnyH_done (by kernel_rfl) ?_ _
  obtain ⟨v0, v1, v2, vl⟩ := V.out
  obtain ⟨r0, r1, r2, rf1, rf2, rl⟩ := R.out
  have hc1 : (c == 0) = false := by simpa using hc
  have hc2 : (c != 0) = true := by simpa using hc
  go_wp2
  go_ret
  exact ⟨rfl, R.out.setBad true, (within_of D.out).setCell (p := ⟨g, 2, none⟩) (Nat.le_refl _) (Nat.lt_succ_self _) _⟩

set_option maxRecDepth 100000 in
set_option maxHeartbeats 2000000 in
theorem text_was (g : Nat) (s : ByteArray) (a : Int) (d : ByteArray) (a1 c : Int) (w : World) (hs : s.size ≤ 8000) (hn : cutT s (readN s a) = (d, a1, c)) (h : Rd w g s a true) :
    Calls Try.prog 76 #[.pointer (some ⟨g, 0, none⟩)] w fun e w' => e = .returned (.string ⟨#[]⟩) ∧ Rd w' g s a true ∧ Within g (g + 1) w w' := by
  have HN := Lib.hid (show cutT s (getN s a) = (d, a1, c) by rw [getN_small hs]; exact hn)
  have R := Lib.hid h
  have hg := h.lt
  have D := Lib.hid (show Base w w from Below.refl _ _)
  clear h hn
  go_enter Try.func76, Try.ntmps76
  go_wp2_with fail
  have hb := step_drew w
  replace R := Lib.hid (R.out.below hb)
  replace D := Lib.hid (D.out.below hb)
  clear hb
  refine wp_region_held_drew (S := (fun w' => w'.cell? ⟨g, 0, none⟩ = some (.string s) ∧ w'.cell? ⟨g, 1, none⟩ = some (.int .i64 a))) (by kernel_rfl) (by exact ⟨R.out.c0, R.out.c1⟩) (fun hHeld => ?_)
  have Zd : w.heap.size ≤ w.drew.heap.size := Nat.le_refl _
  generalize w.drew = wd at Zd hHeld R D ⊢
  refine wpAnyH_take (i := 0) (v := ?_) rfl (by kernel_rfl) (by kernel_rfl) (by kernel_rfl) (fun _ _ _ h => h) (Or.inl ⟨by rfl, fun w hSw => by (try dsimp only at hSw); go_simp; (try with_reducible rfl)⟩) (by assumption) ?_
  try simp only [Act.put, List.setIfInBounds_toArray, List.set_cons_zero, List.set_cons_succ, List.getElem_toArray, List.getElem_cons_zero, List.getElem_cons_succ]
  refine wpAnyH_take (i := 1) (v := ?_) rfl (by kernel_rfl) (by kernel_rfl) (by kernel_rfl) (fun _ _ _ h => h) (Or.inl ⟨by rfl, fun w hSw => by (try dsimp only at hSw); go_simp; (try with_reducible rfl)⟩) (by assumption) ?_
  try simp only [Act.put, List.setIfInBounds_toArray, List.set_cons_zero, List.set_cons_succ, List.getElem_toArray, List.getElem_cons_zero, List.getElem_cons_succ]
  refine wpAnyH_take (i := 2) (v := ?_) rfl (by kernel_rfl) (by kernel_rfl) (by kernel_rfl) (fun _ _ _ h => h) (Or.inl ⟨by rfl, fun w hSw => by (try dsimp only at hSw); go_simp; (try with_reducible rfl)⟩) (by assumption) ?_
  try simp only [Act.put, List.setIfInBounds_toArray, List.set_cons_zero, List.set_cons_succ, List.getElem_toArray, List.getElem_cons_zero, List.getElem_cons_succ]
  refine wpAnyH_take (i := 3) (v := ?_) rfl (by kernel_rfl) (by kernel_rfl) (by kernel_rfl) (fun _ _ _ h => h) (Or.inl ⟨by rfl, fun w hSw => by (try dsimp only at hSw); go_simp; (try with_reducible rfl)⟩) (by assumption) ?_
  try simp only [Act.put, List.setIfInBounds_toArray, List.set_cons_zero, List.set_cons_succ, List.getElem_toArray, List.getElem_cons_zero, List.getElem_cons_succ]
  refine wpAnyH_take (i := 4) (v := ?_) rfl (by kernel_rfl) (by kernel_rfl) (by kernel_rfl) (fun _ _ _ h => h) (Or.inl ⟨by rfl, fun w hSw => by (try dsimp only at hSw); go_simp; (try with_reducible rfl)⟩) (by assumption) ?_
  try simp only [Act.put, List.setIfInBounds_toArray, List.set_cons_zero, List.set_cons_succ, List.getElem_toArray, List.getElem_cons_zero, List.getElem_cons_succ]
  refine wpAnyH_take (i := 5) (v := ?_) rfl (by kernel_rfl) (by kernel_rfl) (by kernel_rfl) (fun _ _ _ h => h) (Or.inl ⟨by rfl, fun w hSw => by (try dsimp only at hSw); go_simp; (try with_reducible rfl)⟩) (by assumption) ?_
  try simp only [Act.put, List.setIfInBounds_toArray, List.set_cons_zero, List.set_cons_succ, List.getElem_toArray, List.getElem_cons_zero, List.getElem_cons_succ]
  refine wpAnyH_take (i := 6) (v := ?_) rfl (by kernel_rfl) (by kernel_rfl) (by kernel_rfl) (fun _ _ _ h => h) (Or.inl ⟨by rfl, fun w hSw => by (try dsimp only at hSw); go_simp; (try with_reducible rfl)⟩) (by assumption) ?_
  try simp only [Act.put, List.setIfInBounds_toArray, List.set_cons_zero, List.set_cons_succ, List.getElem_toArray, List.getElem_cons_zero, List.getElem_cons_succ]
  refine wpAnyH_take (i := 7) (v := ?_) rfl (by kernel_rfl) (by kernel_rfl) (by kernel_rfl) (fun _ _ _ h => h) (Or.inl ⟨by rfl, fun w hSw => by (try dsimp only at hSw); go_simp; (try with_reducible rfl)⟩) (by assumption) ?_
  try simp only [Act.put, List.setIfInBounds_toArray, List.set_cons_zero, List.set_cons_succ, List.getElem_toArray, List.getElem_cons_zero, List.getElem_cons_succ]
  refine wpAnyH_ready (rs := [8, 9]) (by kernel_rfl) (by simp) ?_
  refine AllReadyH.cons rfl (fun K hK => ?_) ?_
  · go_simp
    go_at_call 112
    refine (spec_GetText s (by unfold maxLen; omega) a _).mono ?_
    rintro e wc8 ⟨rfl, hb⟩
    rw [HN.out]
    unfold tout
    simp only
    replace R := Lib.hid (R.out.below hb)
    replace D := Lib.hid (D.out.below hb)
    have Zc0 := hb.size
    clear hb
    go_wp2_with fail
    refine hK.out _ _ (by exact ⟨R.out.c0, R.out.c1⟩) (fun hHeld => ?_)
    clear hK K
    try simp only [Act.put, List.setIfInBounds_toArray, List.set_cons_zero, List.set_cons_succ, List.getElem_toArray, List.getElem_cons_zero, List.getElem_cons_succ]
    refine wpAnyH_ready (rs := [9]) (by kernel_rfl) (by simp) ?_
    refine AllReadyH.cons rfl (fun K hK => ?_) AllReadyH.nil
    go_simp
    have hb := step_alloc wc8 (.cells #[.string ⟨#[]⟩, .int .i64 0, .int .i64 0] 149)
    replace R := Lib.hid (R.out.below hb)
    replace D := Lib.hid (D.out.below hb)
    clear hb
    have NV := Lib.hid (New3.new wc8 (.string ⟨#[]⟩) (.int .i64 0) (.int .i64 0) 149)
    have Za : wc8.heap.size < (wc8.alloc (.cells #[.string ⟨#[]⟩, .int .i64 0, .int .i64 0] 149)).heap.size := by simp
    obtain ⟨gb, hgb⟩ : ∃ gb, gb = wc8.heap.size := ⟨_, rfl⟩
    have Qa : wc8.heap.size ≤ gb := by omega
    have Qb : gb < (wc8.alloc (.cells #[.string ⟨#[]⟩, .int .i64 0, .int .i64 0] 149)).heap.size := by omega
    rw [← hgb] at NV ⊢
    clear hgb
    generalize wc8.alloc (.cells #[.string ⟨#[]⟩, .int .i64 0, .int .i64 0] 149) = wa at NV Za Qb R D ⊢
    refine hK.out _ _ (by exact ⟨R.out.c0, R.out.c1⟩) (fun hHeld => ?_)
    clear hK K
    try simp only [Act.put, List.setIfInBounds_toArray, List.set_cons_zero, List.set_cons_succ, List.getElem_toArray, List.getElem_cons_zero, List.getElem_cons_succ]
    obtain ⟨nv0, nv1, nv2, nf0, nf1, nf2, nl⟩ := NV.out
    refine wpAnyH_ready (rs := [10]) (by kernel_rfl) (by simp) ?_
    refine AllReadyH.cons rfl (fun K hK => ?_) AllReadyH.nil
    go_simp
    have hw := (((Within.refl gb (gb + 1) wa).setCell (p := ⟨gb, 0, none⟩) (Nat.le_refl _) (Nat.lt_succ_self _) (.string d)).setCell (p := ⟨gb, 1, none⟩) (Nat.le_refl _) (Nat.lt_succ_self _) (.int .i64 a1)).setCell (p := ⟨gb, 2, none⟩) (Nat.le_refl _) (Nat.lt_succ_self _) (.int .i64 (c))
    have V := Lib.hid (NV.out.store (.string d) (.int .i64 a1) (.int .i64 (c)))
    replace R := Lib.hid (R.out.within hw (by omega))
    replace D := Lib.hid (D.out.within hw (by omega))
    have Zs : wa.heap.size ≤ (World.setCell (World.setCell (World.setCell wa ⟨gb, 0, none⟩ (.string d)) ⟨gb, 1, none⟩ (.int .i64 a1)) ⟨gb, 2, none⟩ (.int .i64 (c))).heap.size := hw.size
    clear hw NV nv0 nv1 nv2 nf0 nf1 nf2 nl
    generalize (World.setCell (World.setCell (World.setCell wa ⟨gb, 0, none⟩ (.string d)) ⟨gb, 1, none⟩ (.int .i64 a1)) ⟨gb, 2, none⟩ (.int .i64 (c))) = wz at V Zs R D ⊢
    refine hK.out _ _ (by exact ⟨R.out.c0, R.out.c1⟩) (fun hHeld => ?_)
    clear hK K
    try simp only [Act.put, List.setIfInBounds_toArray, List.set_cons_zero, List.set_cons_succ, List.getElem_toArray, List.getElem_cons_zero, List.getElem_cons_succ]
    refine wpAnyH_done (by kernel_rfl) ?_ _
    obtain ⟨v0, v1, v2, vl⟩ := V.out
    obtain ⟨r0, r1, r2, rf1, rf2, rl⟩ := R.out
    go_wp2
    go_ret
    exact ⟨rfl, R.out.setBad true, (within_of D.out).setCell (p := ⟨g, 2, none⟩) (Nat.le_refl _) (Nat.lt_succ_self _) _⟩
  refine AllReadyH.cons rfl (fun K hK => ?_) AllReadyH.nil
  go_simp
  have hb := step_alloc wd (.cells #[.string ⟨#[]⟩, .int .i64 0, .int .i64 0] 149)
  replace R := Lib.hid (R.out.below hb)
  replace D := Lib.hid (D.out.below hb)
  clear hb
  have NV := Lib.hid (New3.new wd (.string ⟨#[]⟩) (.int .i64 0) (.int .i64 0) 149)
  have Za : wd.heap.size < (wd.alloc (.cells #[.string ⟨#[]⟩, .int .i64 0, .int .i64 0] 149)).heap.size := by simp
  obtain ⟨gb, hgb⟩ : ∃ gb, gb = wd.heap.size := ⟨_, rfl⟩
  have Qa : wd.heap.size ≤ gb := by omega
  have Qb : gb < (wd.alloc (.cells #[.string ⟨#[]⟩, .int .i64 0, .int .i64 0] 149)).heap.size := by omega
  rw [← hgb] at NV ⊢
  clear hgb
  generalize wd.alloc (.cells #[.string ⟨#[]⟩, .int .i64 0, .int .i64 0] 149) = wa at NV Za Qb R D ⊢
  refine hK.out _ _ (by exact ⟨R.out.c0, R.out.c1⟩) (fun hHeld => ?_)
  clear hK K
  try simp only [Act.put, List.setIfInBounds_toArray, List.set_cons_zero, List.set_cons_succ, List.getElem_toArray, List.getElem_cons_zero, List.getElem_cons_succ]
  refine wpAnyH_ready (rs := [8]) (by kernel_rfl) (by simp) ?_
  refine AllReadyH.cons rfl (fun K hK => ?_) AllReadyH.nil
  go_simp
  go_at_call 112
  refine (spec_GetText s (by unfold maxLen; omega) a _).mono ?_
  rintro e wc8 ⟨rfl, hb⟩
  rw [HN.out]
  unfold tout
  simp only
  replace R := Lib.hid (R.out.below hb)
  replace D := Lib.hid (D.out.below hb)
  replace NV := Lib.hid (NV.out.below hb)
  have Zc0 := hb.size
  clear hb
  go_wp2_with fail
  refine hK.out _ _ (by exact ⟨R.out.c0, R.out.c1⟩) (fun hHeld => ?_)
  clear hK K
  try simp only [Act.put, List.setIfInBounds_toArray, List.set_cons_zero, List.set_cons_succ, List.getElem_toArray, List.getElem_cons_zero, List.getElem_cons_succ]
  obtain ⟨nv0, nv1, nv2, nf0, nf1, nf2, nl⟩ := NV.out
  refine wpAnyH_ready (rs := [10]) (by kernel_rfl) (by simp) ?_
  refine AllReadyH.cons rfl (fun K hK => ?_) AllReadyH.nil
  go_simp
  have hw := (((Within.refl gb (gb + 1) wc8).setCell (p := ⟨gb, 0, none⟩) (Nat.le_refl _) (Nat.lt_succ_self _) (.string d)).setCell (p := ⟨gb, 1, none⟩) (Nat.le_refl _) (Nat.lt_succ_self _) (.int .i64 a1)).setCell (p := ⟨gb, 2, none⟩) (Nat.le_refl _) (Nat.lt_succ_self _) (.int .i64 (c))
  have V := Lib.hid (NV.out.store (.string d) (.int .i64 a1) (.int .i64 (c)))
  replace R := Lib.hid (R.out.within hw (by omega))
  replace D := Lib.hid (D.out.within hw (by omega))
  have Zs : wc8.heap.size ≤ (World.setCell (World.setCell (World.setCell wc8 ⟨gb, 0, none⟩ (.string d)) ⟨gb, 1, none⟩ (.int .i64 a1)) ⟨gb, 2, none⟩ (.int .i64 (c))).heap.size := hw.size
  clear hw NV nv0 nv1 nv2 nf0 nf1 nf2 nl
  generalize (World.setCell (World.setCell (World.setCell wc8 ⟨gb, 0, none⟩ (.string d)) ⟨gb, 1, none⟩ (.int .i64 a1)) ⟨gb, 2, none⟩ (.int .i64 (c))) = wz at V Zs R D ⊢
  refine hK.out _ _ (by exact ⟨R.out.c0, R.out.c1⟩) (fun hHeld => ?_)
  clear hK K
  try simp only [Act.put, List.setIfInBounds_toArray, List.set_cons_zero, List.set_cons_succ, List.getElem_toArray, List.getElem_cons_zero, List.getElem_cons_succ]
  refine wpAnyH_done (by kernel_rfl) ?_ _
  obtain ⟨v0, v1, v2, vl⟩ := V.out
  obtain ⟨r0, r1, r2, rf1, rf2, rl⟩ := R.out
  go_wp2
  go_ret
  exact ⟨rfl, R.out.setBad true, (within_of D.out).setCell (p := ⟨g, 2, none⟩) (Nat.le_refl _) (Nat.lt_succ_self _) _⟩

theorem num_any (g : Nat) (s : ByteArray) (st : Int × Bool) (w : World) (hs : s.size ≤ 8000) (h : Rd w g s st.1 st.2) :
    Calls Try.prog 75 #[.pointer (some ⟨g, 0, none⟩)] w fun e w' => e = .returned (.int .i64 (numR s st).1) ∧ Rd w' g s (numR s st).2.1 (numR s st).2.2 ∧ Within g (g + 1) w w' := by
  obtain ⟨a, b⟩ := st
  cases b
  · rcases readN_cases s a with h1 | ⟨x, b, h1⟩
    · obtain ⟨c, hc, hr⟩ := readN_bad s a h1
      have e : numR s (a, false) = (0, (a, true)) := by unfold numR; simp [h1]
      rw [e]
      exact num_bad g s a c w hs hc hr h
    · rw [numR_ok h1]
      exact num_ok g s a x b w hs h1 h
  · have e : numR s (a, true) = (0, (a, true)) := if_pos rfl
    rw [e]
    exact num_was g s a _ _ _ w hs rfl h
theorem text_any (g : Nat) (s : ByteArray) (st : Int × Bool) (w : World) (hs : s.size ≤ 8000) (h : Rd w g s st.1 st.2) :
    Calls Try.prog 76 #[.pointer (some ⟨g, 0, none⟩)] w fun e w' => e = .returned (.string (textR s st).1) ∧ Rd w' g s (textR s st).2.1 (textR s st).2.2 ∧ Within g (g + 1) w w' := by
  obtain ⟨a, b⟩ := st
  cases b
  · rcases cutT_cases s (readN s a) with h1 | ⟨x, b, h1⟩
    · have e : textR s (a, false) = (⟨#[]⟩, (a, true)) := by unfold textR; simp [h1]
      rw [e]
      exact text_bad g s a _ _ _ w hs h1 rfl h
    · rw [textR_ok h1]
      exact text_ok g s a x b w hs h1 h
  · have e : textR s (a, true) = (⟨#[]⟩, (a, true)) := if_pos rfl
    rw [e]
    exact text_was g s a _ _ _ w hs rfl h
set_option maxRecDepth 100000 in
theorem many_was (g : Nat) (s : ByteArray) (a most : Int) (w : World) (hs : s.size ≤ 8000) (hm : 0 ≤ most) (h : Rd w g s a true) :
    Calls Try.prog 74 #[.pointer (some ⟨g, 0, none⟩), .int .i64 most] w (Reads w g s 0 a true) := by
  have HC := Lib.hid (num_was g s a _ _ _ w hs rfl h)
  have hi : isB 0 0 most = true := by unfold isB; simp; omega
  clear h
  go_enter Try.func74, Try.ntmps74
  go_wp2_with fail
  refine HC.out.mono ?_
  rintro e w1 ⟨rfl, hR, hW⟩
  go_wp2_with (go_at_call 106; refine (spec_is _ _ _ _).mono ?_; rintro e w' ⟨rfl, rfl⟩)
  go_ret
  exact ⟨rfl, hR, hW⟩
end Go.Proofs.Ytgbcogncnhbmeaa.Sb
