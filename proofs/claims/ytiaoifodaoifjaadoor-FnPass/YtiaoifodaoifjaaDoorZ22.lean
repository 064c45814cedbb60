/- Parts of a law: SetText. Conditions: on sizes, as each says. -/
import Derived.Test.YtiaoifodaoifjaaDoorZ1
import Derived.Deep.RegionHeld3
import Derived.Test.YtiaoifodaoifjaaDoorZ11
import Derived.Test.YtiaoifodaoifjaaDoorZ19
import Derived.Test.YtiaoifodaoifjaaDoorZ20
set_option linter.unusedSimpArgs false
set_option linter.unusedVariables false
namespace Go.Proofs.YtiaoifodaoifjaaDoor.Sb
open Go.RowKit Go.Proofs.YtiaoifodaoifjaaDoor.Mk Go.Proofs.YtiaoifodaoifjaaDoor.Ge
set_option maxRecDepth 100000 in
set_option maxHeartbeats 2000000 in
theorem text_ok (g : Nat) (s : ByteArray) (a : Int) (d : ByteArray) (a1 : Int) (w : World) (hs : s.size ≤ 8000) (hn : cutT s (readN s a) = (d, a1, 0)) (h : Rd w g s a false) :
    Calls Tryd.prog 34 #[.pointer (some ⟨g, 0, none⟩)] w fun e w' => e = .returned (.string d) ∧ Rd w' g s a1 false ∧ Within g (g + 1) w w' := by
  have HN := jj (show cutT s (getN s a) = (d, a1, 0) by rw [getN_small hs]; exact hn)
  have R := jj h
  have hg := h.lt
  have D := jj (show Base w w from Below.refl _ _)
  clear h hn
  go_enter Tryd.func34, Tryd.ntmps34
  go_wp2_with fail
  have hb := step_drew w
  replace R := jj (R.out.below hb)
  replace D := jj (D.out.below hb)
  clear hb
  refine wp_region_held_drew (S := (fun w' => w'.cell? ⟨g, 0, none⟩ = some (.string s) ∧ w'.cell? ⟨g, 1, none⟩ = some (.int .i64 a))) (by kernel_rfl) (by exact ⟨R.out.c0, R.out.c1⟩) (fun hHeld => ?_)
  have Zd : w.heap.size ≤ w.drew.heap.size := Nat.le_refl _
  generalize w.drew = wd at Zd hHeld R D ⊢
  refine tk 0 (v := ?_) ?_
  try walk_nrm
  refine tk 1 (v := ?_) ?_
  try walk_nrm
  refine tk 2 (v := ?_) ?_
  try walk_nrm
  refine tk 3 (v := ?_) ?_
  try walk_nrm
  refine tk 4 (v := ?_) ?_
  try walk_nrm
  refine tk 5 (v := ?_) ?_
  try walk_nrm
  refine tk 6 (v := ?_) ?_
  try walk_nrm
  refine tk 7 (v := ?_) ?_
  try walk_nrm
  refine wpAnyH_ready (rs := [8, 9]) (by kernel_rfl) (by simp) ?_
  refine AllReadyH.cons rfl (fun K hK => ?_) ?_
  · go_simp
    go_at_call 58
    refine (spec_GetText s (by unfold maxLen; omega) a _).mono ?_
    rintro e wc8 ⟨rfl, hb⟩
    rw [HN.out]
    unfold tout
    simp only
    replace R := jj (R.out.below hb)
    replace D := jj (D.out.below hb)
    have Zc0 := hb.size
    clear hb
    go_wp2_with fail
    refine hK.out _ _ (by exact ⟨R.out.c0, R.out.c1⟩) (fun hHeld => ?_)
    clear hK K
    try walk_nrm
    refine rd 9 (fun K hK => ?_)
    go_simp
    have hb := step_alloc wc8 (.cells #[.string ⟨#[]⟩, .int .i64 0, .int .i64 0] 49)
    replace R := jj (R.out.below hb)
    replace D := jj (D.out.below hb)
    clear hb
    have NV := jj (New3.new wc8 (.string ⟨#[]⟩) (.int .i64 0) (.int .i64 0) 49)
    have Za : wc8.heap.size < (wc8.alloc (.cells #[.string ⟨#[]⟩, .int .i64 0, .int .i64 0] 49)).heap.size := by simp
    obtain ⟨gb, hgb⟩ : ∃ gb, gb = wc8.heap.size := ⟨_, rfl⟩
    have Qa : wc8.heap.size ≤ gb := by omega
    have Qb : gb < (wc8.alloc (.cells #[.string ⟨#[]⟩, .int .i64 0, .int .i64 0] 49)).heap.size := by omega
    rw [← hgb] at NV ⊢
    clear hgb
    generalize wc8.alloc (.cells #[.string ⟨#[]⟩, .int .i64 0, .int .i64 0] 49) = wa at NV Za Qb R D ⊢
    refine hK.out _ _ (by exact ⟨R.out.c0, R.out.c1⟩) (fun hHeld => ?_)
    clear hK K
    try walk_nrm
    obtain ⟨nv0, nv1, nv2, nf0, nf1, nf2, nl⟩ := NV.out
    refine rd 10 (fun K hK => ?_)
    go_simp
    have hw := (((Within.refl gb (gb + 1) wa).setCell (p := ⟨gb, 0, none⟩) (Nat.le_refl _) (Nat.lt_succ_self _) (.string d)).setCell (p := ⟨gb, 1, none⟩) (Nat.le_refl _) (Nat.lt_succ_self _) (.int .i64 a1)).setCell (p := ⟨gb, 2, none⟩) (Nat.le_refl _) (Nat.lt_succ_self _) (.int .i64 (0))
    have V := jj (NV.out.store (.string d) (.int .i64 a1) (.int .i64 (0)))
    replace R := jj (R.out.within hw (by omega))
    replace D := jj (D.out.within hw (by omega))
    have Zs : wa.heap.size ≤ (World.setCell (World.setCell (World.setCell wa ⟨gb, 0, none⟩ (.string d)) ⟨gb, 1, none⟩ (.int .i64 a1)) ⟨gb, 2, none⟩ (.int .i64 (0))).heap.size := hw.size
    clear hw NV nv0 nv1 nv2 nf0 nf1 nf2 nl
    generalize (World.setCell (World.setCell (World.setCell wa ⟨gb, 0, none⟩ (.string d)) ⟨gb, 1, none⟩ (.int .i64 a1)) ⟨gb, 2, none⟩ (.int .i64 (0))) = wz at V Zs R D ⊢
    refine hK.out _ _ (by exact ⟨R.out.c0, R.out.c1⟩) (fun hHeld => ?_)
    clear hK K
    try walk_nrm
    refine rx ?_
    obtain ⟨v0, v1, v2, vl⟩ := V.out
    obtain ⟨r0, r1, r2, rf1, rf2, rl⟩ := R.out
    go_wp2
    go_ret
    exact ⟨rfl, R.out.setAt a1, (within_of D.out).setCell (p := ⟨g, 1, none⟩) (Nat.le_refl _) (Nat.lt_succ_self _) _⟩
  refine AllReadyH.cons rfl (fun K hK => ?_) AllReadyH.nil
  go_simp
  have hb := step_alloc wd (.cells #[.string ⟨#[]⟩, .int .i64 0, .int .i64 0] 49)
  replace R := jj (R.out.below hb)
  replace D := jj (D.out.below hb)
  clear hb
  have NV := jj (New3.new wd (.string ⟨#[]⟩) (.int .i64 0) (.int .i64 0) 49)
  have Za : wd.heap.size < (wd.alloc (.cells #[.string ⟨#[]⟩, .int .i64 0, .int .i64 0] 49)).heap.size := by simp
  obtain ⟨gb, hgb⟩ : ∃ gb, gb = wd.heap.size := ⟨_, rfl⟩
  have Qa : wd.heap.size ≤ gb := by omega
  have Qb : gb < (wd.alloc (.cells #[.string ⟨#[]⟩, .int .i64 0, .int .i64 0] 49)).heap.size := by omega
  rw [← hgb] at NV ⊢
  clear hgb
  generalize wd.alloc (.cells #[.string ⟨#[]⟩, .int .i64 0, .int .i64 0] 49) = wa at NV Za Qb R D ⊢
  refine hK.out _ _ (by exact ⟨R.out.c0, R.out.c1⟩) (fun hHeld => ?_)
  clear hK K
  try walk_nrm
  refine rd 8 (fun K hK => ?_)
  go_simp
  go_at_call 58
  refine (spec_GetText s (by unfold maxLen; omega) a _).mono ?_
  rintro e wc8 ⟨rfl, hb⟩
  rw [HN.out]
  unfold tout
  simp only
  replace R := jj (R.out.below hb)
  replace D := jj (D.out.below hb)
  replace NV := jj (NV.out.below hb)
  have Zc0 := hb.size
  clear hb
  go_wp2_with fail
  refine hK.out _ _ (by exact ⟨R.out.c0, R.out.c1⟩) (fun hHeld => ?_)
  clear hK K
  try walk_nrm
  obtain ⟨nv0, nv1, nv2, nf0, nf1, nf2, nl⟩ := NV.out
  refine rd 10 (fun K hK => ?_)
  go_simp
  have hw := (((Within.refl gb (gb + 1) wc8).setCell (p := ⟨gb, 0, none⟩) (Nat.le_refl _) (Nat.lt_succ_self _) (.string d)).setCell (p := ⟨gb, 1, none⟩) (Nat.le_refl _) (Nat.lt_succ_self _) (.int .i64 a1)).setCell (p := ⟨gb, 2, none⟩) (Nat.le_refl _) (Nat.lt_succ_self _) (.int .i64 (0))
  have V := jj (NV.out.store (.string d) (.int .i64 a1) (.int .i64 (0)))
  replace R := jj (R.out.within hw (by omega))
  replace D := jj (D.out.within hw (by omega))
  have Zs : wc8.heap.size ≤ (World.setCell (World.setCell (World.setCell wc8 ⟨gb, 0, none⟩ (.string d)) ⟨gb, 1, none⟩ (.int .i64 a1)) ⟨gb, 2, none⟩ (.int .i64 (0))).heap.size := hw.size
  clear hw NV nv0 nv1 nv2 nf0 nf1 nf2 nl
  generalize (World.setCell (World.setCell (World.setCell wc8 ⟨gb, 0, none⟩ (.string d)) ⟨gb, 1, none⟩ (.int .i64 a1)) ⟨gb, 2, none⟩ (.int .i64 (0))) = wz at V Zs R D ⊢
  refine hK.out _ _ (by exact ⟨R.out.c0, R.out.c1⟩) (fun hHeld => ?_)
  clear hK K
  try walk_nrm
  refine rx ?_
  obtain ⟨v0, v1, v2, vl⟩ := V.out
  obtain ⟨r0, r1, r2, rf1, rf2, rl⟩ := R.out
  go_wp2
  go_ret
  exact ⟨rfl, R.out.setAt a1, (within_of D.out).setCell (p := ⟨g, 1, none⟩) (Nat.le_refl _) (Nat.lt_succ_self _) _⟩
set_option maxRecDepth 100000 in
set_option maxHeartbeats 2000000 in
theorem text_bad (g : Nat) (s : ByteArray) (a : Int) (d : ByteArray) (a1 c : Int) (w : World) (hs : s.size ≤ 8000) (hc : c ≠ 0) (hn : cutT s (readN s a) = (d, a1, c)) (h : Rd w g s a false) :
    Calls Tryd.prog 34 #[.pointer (some ⟨g, 0, none⟩)] w fun e w' => e = .returned (.string ⟨#[]⟩) ∧ Rd w' g s a true ∧ Within g (g + 1) w w' := by
  have HN := jj (show cutT s (getN s a) = (d, a1, c) by rw [getN_small hs]; exact hn)
  have R := jj h
  have hg := h.lt
  have D := jj (show Base w w from Below.refl _ _)
  clear h hn
  go_enter Tryd.func34, Tryd.ntmps34
  go_wp2_with fail
  have hb := step_drew w
  replace R := jj (R.out.below hb)
  replace D := jj (D.out.below hb)
  clear hb
  refine wp_region_held_drew (S := (fun w' => w'.cell? ⟨g, 0, none⟩ = some (.string s) ∧ w'.cell? ⟨g, 1, none⟩ = some (.int .i64 a))) (by kernel_rfl) (by exact ⟨R.out.c0, R.out.c1⟩) (fun hHeld => ?_)
  have Zd : w.heap.size ≤ w.drew.heap.size := Nat.le_refl _
  generalize w.drew = wd at Zd hHeld R D ⊢
  refine tk 0 (v := ?_) ?_
  try walk_nrm
  refine tk 1 (v := ?_) ?_
  try walk_nrm
  refine tk 2 (v := ?_) ?_
  try walk_nrm
  refine tk 3 (v := ?_) ?_
  try walk_nrm
  refine tk 4 (v := ?_) ?_
  try walk_nrm
  refine tk 5 (v := ?_) ?_
  try walk_nrm
  refine tk 6 (v := ?_) ?_
  try walk_nrm
  refine tk 7 (v := ?_) ?_
  try walk_nrm
  refine wpAnyH_ready (rs := [8, 9]) (by kernel_rfl) (by simp) ?_
  refine AllReadyH.cons rfl (fun K hK => ?_) ?_
  · go_simp
    go_at_call 58
    refine (spec_GetText s (by unfold maxLen; omega) a _).mono ?_
    rintro e wc8 ⟨rfl, hb⟩
    rw [HN.out]
    unfold tout
    simp only
    replace R := jj (R.out.below hb)
    replace D := jj (D.out.below hb)
    have Zc0 := hb.size
    clear hb
    go_wp2_with fail
    refine hK.out _ _ (by exact ⟨R.out.c0, R.out.c1⟩) (fun hHeld => ?_)
    clear hK K
    try walk_nrm
    refine rd 9 (fun K hK => ?_)
    go_simp
    have hb := step_alloc wc8 (.cells #[.string ⟨#[]⟩, .int .i64 0, .int .i64 0] 49)
    replace R := jj (R.out.below hb)
    replace D := jj (D.out.below hb)
    clear hb
    have NV := jj (New3.new wc8 (.string ⟨#[]⟩) (.int .i64 0) (.int .i64 0) 49)
    have Za : wc8.heap.size < (wc8.alloc (.cells #[.string ⟨#[]⟩, .int .i64 0, .int .i64 0] 49)).heap.size := by simp
    obtain ⟨gb, hgb⟩ : ∃ gb, gb = wc8.heap.size := ⟨_, rfl⟩
    have Qa : wc8.heap.size ≤ gb := by omega
    have Qb : gb < (wc8.alloc (.cells #[.string ⟨#[]⟩, .int .i64 0, .int .i64 0] 49)).heap.size := by omega
    rw [← hgb] at NV ⊢
    clear hgb
    generalize wc8.alloc (.cells #[.string ⟨#[]⟩, .int .i64 0, .int .i64 0] 49) = wa at NV Za Qb R D ⊢
    refine hK.out _ _ (by exact ⟨R.out.c0, R.out.c1⟩) (fun hHeld => ?_)
    clear hK K
    try walk_nrm
    obtain ⟨nv0, nv1, nv2, nf0, nf1, nf2, nl⟩ := NV.out
    refine rd 10 (fun K hK => ?_)
    go_simp
    have hw := (((Within.refl gb (gb + 1) wa).setCell (p := ⟨gb, 0, none⟩) (Nat.le_refl _) (Nat.lt_succ_self _) (.string d)).setCell (p := ⟨gb, 1, none⟩) (Nat.le_refl _) (Nat.lt_succ_self _) (.int .i64 a1)).setCell (p := ⟨gb, 2, none⟩) (Nat.le_refl _) (Nat.lt_succ_self _) (.int .i64 (c))
    have V := jj (NV.out.store (.string d) (.int .i64 a1) (.int .i64 (c)))
    replace R := jj (R.out.within hw (by omega))
    replace D := jj (D.out.within hw (by omega))
    have Zs : wa.heap.size ≤ (World.setCell (World.setCell (World.setCell wa ⟨gb, 0, none⟩ (.string d)) ⟨gb, 1, none⟩ (.int .i64 a1)) ⟨gb, 2, none⟩ (.int .i64 (c))).heap.size := hw.size
    clear hw NV nv0 nv1 nv2 nf0 nf1 nf2 nl
    generalize (World.setCell (World.setCell (World.setCell wa ⟨gb, 0, none⟩ (.string d)) ⟨gb, 1, none⟩ (.int .i64 a1)) ⟨gb, 2, none⟩ (.int .i64 (c))) = wz at V Zs R D ⊢
    refine hK.out _ _ (by exact ⟨R.out.c0, R.out.c1⟩) (fun hHeld => ?_)
    clear hK K
    try walk_nrm
    refine rx ?_
    obtain ⟨v0, v1, v2, vl⟩ := V.out
    obtain ⟨r0, r1, r2, rf1, rf2, rl⟩ := R.out
    have hc1 : (c == 0) = false := by simpa using hc
    have hc2 : (c != 0) = true := by simpa using hc
    go_wp2
    go_ret
    exact ⟨rfl, R.out.setBad true, (within_of D.out).setCell (p := ⟨g, 2, none⟩) (Nat.le_refl _) (Nat.lt_succ_self _) _⟩
  refine AllReadyH.cons rfl (fun K hK => ?_) AllReadyH.nil
  go_simp
  have hb := step_alloc wd (.cells #[.string ⟨#[]⟩, .int .i64 0, .int .i64 0] 49)
  replace R := jj (R.out.below hb)
  replace D := jj (D.out.below hb)
  clear hb
  have NV := jj (New3.new wd (.string ⟨#[]⟩) (.int .i64 0) (.int .i64 0) 49)
  have Za : wd.heap.size < (wd.alloc (.cells #[.string ⟨#[]⟩, .int .i64 0, .int .i64 0] 49)).heap.size := by simp
  obtain ⟨gb, hgb⟩ : ∃ gb, gb = wd.heap.size := ⟨_, rfl⟩
  have Qa : wd.heap.size ≤ gb := by omega
  have Qb : gb < (wd.alloc (.cells #[.string ⟨#[]⟩, .int .i64 0, .int .i64 0] 49)).heap.size := by omega
  rw [← hgb] at NV ⊢
  clear hgb
  generalize wd.alloc (.cells #[.string ⟨#[]⟩, .int .i64 0, .int .i64 0] 49) = wa at NV Za Qb R D ⊢
  refine hK.out _ _ (by exact ⟨R.out.c0, R.out.c1⟩) (fun hHeld => ?_)
  clear hK K
  try walk_nrm
  refine rd 8 (fun K hK => ?_)
  go_simp
  go_at_call 58
  refine (spec_GetText s (by unfold maxLen; omega) a _).mono ?_
  rintro e wc8 ⟨rfl, hb⟩
  rw [HN.out]
  unfold tout
  simp only
  replace R := jj (R.out.below hb)
  replace D := jj (D.out.below hb)
  replace NV := jj (NV.out.below hb)
  have Zc0 := hb.size
  clear hb
  go_wp2_with fail
  refine hK.out _ _ (by exact ⟨R.out.c0, R.out.c1⟩) (fun hHeld => ?_)
  clear hK K
  try walk_nrm
  obtain ⟨nv0, nv1, nv2, nf0, nf1, nf2, nl⟩ := NV.out
  refine rd 10 (fun K hK => ?_)
  go_simp
  have hw := (((Within.refl gb (gb + 1) wc8).setCell (p := ⟨gb, 0, none⟩) (Nat.le_refl _) (Nat.lt_succ_self _) (.string d)).setCell (p := ⟨gb, 1, none⟩) (Nat.le_refl _) (Nat.lt_succ_self _) (.int .i64 a1)).setCell (p := ⟨gb, 2, none⟩) (Nat.le_refl _) (Nat.lt_succ_self _) (.int .i64 (c))
  have V := jj (NV.out.store (.string d) (.int .i64 a1) (.int .i64 (c)))
  replace R := jj (R.out.within hw (by omega))
  replace D := jj (D.out.within hw (by omega))
  have Zs : wc8.heap.size ≤ (World.setCell (World.setCell (World.setCell wc8 ⟨gb, 0, none⟩ (.string d)) ⟨gb, 1, none⟩ (.int .i64 a1)) ⟨gb, 2, none⟩ (.int .i64 (c))).heap.size := hw.size
  clear hw NV nv0 nv1 nv2 nf0 nf1 nf2 nl
  generalize (World.setCell (World.setCell (World.setCell wc8 ⟨gb, 0, none⟩ (.string d)) ⟨gb, 1, none⟩ (.int .i64 a1)) ⟨gb, 2, none⟩ (.int .i64 (c))) = wz at V Zs R D ⊢
  refine hK.out _ _ (by exact ⟨R.out.c0, R.out.c1⟩) (fun hHeld => ?_)
  clear hK K
  try walk_nrm
  refine rx ?_
  obtain ⟨v0, v1, v2, vl⟩ := V.out
  obtain ⟨r0, r1, r2, rf1, rf2, rl⟩ := R.out
  have hc1 : (c == 0) = false := by simpa using hc
  have hc2 : (c != 0) = true := by simpa using hc
  go_wp2
  go_ret
  exact ⟨rfl, R.out.setBad true, (within_of D.out).setCell (p := ⟨g, 2, none⟩) (Nat.le_refl _) (Nat.lt_succ_self _) _⟩
set_option maxRecDepth 100000 in
set_option maxHeartbeats 2000000 in
theorem text_was (g : Nat) (s : ByteArray) (a : Int) (d : ByteArray) (a1 c : Int) (w : World) (hs : s.size ≤ 8000) (hn : cutT s (readN s a) = (d, a1, c)) (h : Rd w g s a true) :
    Calls Tryd.prog 34 #[.pointer (some ⟨g, 0, none⟩)] w fun e w' => e = .returned (.string ⟨#[]⟩) ∧ Rd w' g s a true ∧ Within g (g + 1) w w' := by
  have HN := jj (show cutT s (getN s a) = (d, a1, c) by rw [getN_small hs]; exact hn)
  have R := jj h
  have hg := h.lt
  have D := jj (show Base w w from Below.refl _ _)
  clear h hn
  go_enter Tryd.func34, Tryd.ntmps34
  go_wp2_with fail
  have hb := step_drew w
  replace R := jj (R.out.below hb)
  replace D := jj (D.out.below hb)
  clear hb
  refine wp_region_held_drew (S := (fun w' => w'.cell? ⟨g, 0, none⟩ = some (.string s) ∧ w'.cell? ⟨g, 1, none⟩ = some (.int .i64 a))) (by kernel_rfl) (by exact ⟨R.out.c0, R.out.c1⟩) (fun hHeld => ?_)
  have Zd : w.heap.size ≤ w.drew.heap.size := Nat.le_refl _
  generalize w.drew = wd at Zd hHeld R D ⊢
  refine tk 0 (v := ?_) ?_
  try walk_nrm
  refine tk 1 (v := ?_) ?_
  try walk_nrm
  refine tk 2 (v := ?_) ?_
  try walk_nrm
  refine tk 3 (v := ?_) ?_
  try walk_nrm
  refine tk 4 (v := ?_) ?_
  try walk_nrm
  refine tk 5 (v := ?_) ?_
  try walk_nrm
  refine tk 6 (v := ?_) ?_
  try walk_nrm
  refine tk 7 (v := ?_) ?_
  try walk_nrm
  refine wpAnyH_ready (rs := [8, 9]) (by kernel_rfl) (by simp) ?_
  refine AllReadyH.cons rfl (fun K hK => ?_) ?_
  · go_simp
    go_at_call 58
    refine (spec_GetText s (by unfold maxLen; omega) a _).mono ?_
    rintro e wc8 ⟨rfl, hb⟩
    rw [HN.out]
    unfold tout
    simp only
    replace R := jj (R.out.below hb)
    replace D := jj (D.out.below hb)
    have Zc0 := hb.size
    clear hb
    go_wp2_with fail
    refine hK.out _ _ (by exact ⟨R.out.c0, R.out.c1⟩) (fun hHeld => ?_)
    clear hK K
    try walk_nrm
    refine rd 9 (fun K hK => ?_)
    go_simp
    have hb := step_alloc wc8 (.cells #[.string ⟨#[]⟩, .int .i64 0, .int .i64 0] 49)
    replace R := jj (R.out.below hb)
    replace D := jj (D.out.below hb)
    clear hb
    have NV := jj (New3.new wc8 (.string ⟨#[]⟩) (.int .i64 0) (.int .i64 0) 49)
    have Za : wc8.heap.size < (wc8.alloc (.cells #[.string ⟨#[]⟩, .int .i64 0, .int .i64 0] 49)).heap.size := by simp
    obtain ⟨gb, hgb⟩ : ∃ gb, gb = wc8.heap.size := ⟨_, rfl⟩
    have Qa : wc8.heap.size ≤ gb := by omega
    have Qb : gb < (wc8.alloc (.cells #[.string ⟨#[]⟩, .int .i64 0, .int .i64 0] 49)).heap.size := by omega
    rw [← hgb] at NV ⊢
    clear hgb
    generalize wc8.alloc (.cells #[.string ⟨#[]⟩, .int .i64 0, .int .i64 0] 49) = wa at NV Za Qb R D ⊢
    refine hK.out _ _ (by exact ⟨R.out.c0, R.out.c1⟩) (fun hHeld => ?_)
    clear hK K
    try walk_nrm
    obtain ⟨nv0, nv1, nv2, nf0, nf1, nf2, nl⟩ := NV.out
    refine rd 10 (fun K hK => ?_)
    go_simp
    have hw := (((Within.refl gb (gb + 1) wa).setCell (p := ⟨gb, 0, none⟩) (Nat.le_refl _) (Nat.lt_succ_self _) (.string d)).setCell (p := ⟨gb, 1, none⟩) (Nat.le_refl _) (Nat.lt_succ_self _) (.int .i64 a1)).setCell (p := ⟨gb, 2, none⟩) (Nat.le_refl _) (Nat.lt_succ_self _) (.int .i64 (c))
    have V := jj (NV.out.store (.string d) (.int .i64 a1) (.int .i64 (c)))
    replace R := jj (R.out.within hw (by omega))
    replace D := jj (D.out.within hw (by omega))
    have Zs : wa.heap.size ≤ (World.setCell (World.setCell (World.setCell wa ⟨gb, 0, none⟩ (.string d)) ⟨gb, 1, none⟩ (.int .i64 a1)) ⟨gb, 2, none⟩ (.int .i64 (c))).heap.size := hw.size
    clear hw NV nv0 nv1 nv2 nf0 nf1 nf2 nl
    generalize (World.setCell (World.setCell (World.setCell wa ⟨gb, 0, none⟩ (.string d)) ⟨gb, 1, none⟩ (.int .i64 a1)) ⟨gb, 2, none⟩ (.int .i64 (c))) = wz at V Zs R D ⊢
    refine hK.out _ _ (by exact ⟨R.out.c0, R.out.c1⟩) (fun hHeld => ?_)
    clear hK K
    try walk_nrm
    refine rx ?_
    obtain ⟨v0, v1, v2, vl⟩ := V.out
    obtain ⟨r0, r1, r2, rf1, rf2, rl⟩ := R.out
    go_wp2
    go_ret
    exact ⟨rfl, R.out.setBad true, (within_of D.out).setCell (p := ⟨g, 2, none⟩) (Nat.le_refl _) (Nat.lt_succ_self _) _⟩
  refine AllReadyH.cons rfl (fun K hK => ?_) AllReadyH.nil
  go_simp
  have hb := step_alloc wd (.cells #[.string ⟨#[]⟩, .int .i64 0, .int .i64 0] 49)
  replace R := jj (R.out.below hb)
  replace D := jj (D.out.below hb)
  clear hb
  have NV := jj (New3.new wd (.string ⟨#[]⟩) (.int .i64 0) (.int .i64 0) 49)
  have Za : wd.heap.size < (wd.alloc (.cells #[.string ⟨#[]⟩, .int .i64 0, .int .i64 0] 49)).heap.size := by simp
  obtain ⟨gb, hgb⟩ : ∃ gb, gb = wd.heap.size := ⟨_, rfl⟩
  have Qa : wd.heap.size ≤ gb := by omega
  have Qb : gb < (wd.alloc (.cells #[.string ⟨#[]⟩, .int .i64 0, .int .i64 0] 49)).heap.size := by omega
  rw [← hgb] at NV ⊢
  clear hgb
  generalize wd.alloc (.cells #[.string ⟨#[]⟩, .int .i64 0, .int .i64 0] 49) = wa at NV Za Qb R D ⊢
  refine hK.out _ _ (by exact ⟨R.out.c0, R.out.c1⟩) (fun hHeld => ?_)
  clear hK K
  try walk_nrm
  refine rd 8 (fun K hK => ?_)
  go_simp
  go_at_call 58
  refine (spec_GetText s (by unfold maxLen; omega) a _).mono ?_
  rintro e wc8 ⟨rfl, hb⟩
  rw [HN.out]
  unfold tout
  simp only
  replace R := jj (R.out.below hb)
  replace D := jj (D.out.below hb)
  replace NV := jj (NV.out.below hb)
  have Zc0 := hb.size
  clear hb
  go_wp2_with fail
  refine hK.out _ _ (by exact ⟨R.out.c0, R.out.c1⟩) (fun hHeld => ?_)
  clear hK K
  try walk_nrm
  obtain ⟨nv0, nv1, nv2, nf0, nf1, nf2, nl⟩ := NV.out
  refine rd 10 (fun K hK => ?_)
  go_simp
  have hw := (((Within.refl gb (gb + 1) wc8).setCell (p := ⟨gb, 0, none⟩) (Nat.le_refl _) (Nat.lt_succ_self _) (.string d)).setCell (p := ⟨gb, 1, none⟩) (Nat.le_refl _) (Nat.lt_succ_self _) (.int .i64 a1)).setCell (p := ⟨gb, 2, none⟩) (Nat.le_refl _) (Nat.lt_succ_self _) (.int .i64 (c))
  have V := jj (NV.out.store (.string d) (.int .i64 a1) (.int .i64 (c)))
  replace R := jj (R.out.within hw (by omega))
  replace D := jj (D.out.within hw (by omega))
  have Zs : wc8.heap.size ≤ (World.setCell (World.setCell (World.setCell wc8 ⟨gb, 0, none⟩ (.string d)) ⟨gb, 1, none⟩ (.int .i64 a1)) ⟨gb, 2, none⟩ (.int .i64 (c))).heap.size := hw.size
  clear hw NV nv0 nv1 nv2 nf0 nf1 nf2 nl
  generalize (World.setCell (World.setCell (World.setCell wc8 ⟨gb, 0, none⟩ (.string d)) ⟨gb, 1, none⟩ (.int .i64 a1)) ⟨gb, 2, none⟩ (.int .i64 (c))) = wz at V Zs R D ⊢
  refine hK.out _ _ (by exact ⟨R.out.c0, R.out.c1⟩) (fun hHeld => ?_)
  clear hK K
  try walk_nrm
  refine rx ?_
  obtain ⟨v0, v1, v2, vl⟩ := V.out
  obtain ⟨r0, r1, r2, rf1, rf2, rl⟩ := R.out
  go_wp2
  go_ret
  exact ⟨rfl, R.out.setBad true, (within_of D.out).setCell (p := ⟨g, 2, none⟩) (Nat.le_refl _) (Nat.lt_succ_self _) _⟩
theorem text_any (g : Nat) (s : ByteArray) (st : Int × Bool) (w : World) (hs : s.size ≤ 8000) (h : Rd w g s st.1 st.2) :
    Calls Tryd.prog 34 #[.pointer (some ⟨g, 0, none⟩)] w fun e w' => e = .returned (.string (textR s st).1) ∧ Rd w' g s (textR s st).2.1 (textR s st).2.2 ∧ Within g (g + 1) w w' := by
  obtain ⟨a, b⟩ := st
  cases b
  · rcases cutT_cases s (readN s a) with h1 | ⟨x, b, h1⟩
    · have e : textR s (a, false) = (⟨#[]⟩, (a, true)) := by unfold textR; simp [h1]
      rw [e]
      exact text_bad g s a _ _ _ w hs h1 rfl h
    · rw [textR_ok h1]
      exact text_ok g s a x b w hs h1 h
  · have e : textR s (a, true) = (⟨#[]⟩, (a, true)) := if_pos rfl
    rw [e]
    exact text_was g s a _ _ _ w hs rfl h
end Go.Proofs.YtiaoifodaoifjaaDoor.Sb
