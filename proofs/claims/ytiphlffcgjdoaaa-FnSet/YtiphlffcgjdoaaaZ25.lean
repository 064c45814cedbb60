/- Parts of a law: SetText, SetReadS, Values. Conditions: on sizes, as each says. -/
import Derived.Test.YtiphlffcgjdoaaaZ1
import Derived.Deep.RegionHeld3
import Derived.Test.YtiphlffcgjdoaaaZ22
import Derived.Test.YtiphlffcgjdoaaaZ24
import Derived.Test.YtiphlffcgjdoaaaZ10
import Derived.Test.YtiphlffcgjdoaaaZ7
import Derived.Test.YtiphlffcgjdoaaaZ3
import Derived.Test.YtiphlffcgjdoaaaZ19
import Derived.Test.YtiphlffcgjdoaaaZ21
set_option linter.unusedSimpArgs false
set_option linter.unusedVariables false
namespace Go.Proofs.Ytiphlffcgjdoaaa.Sb
open Go.RowKit Go.Proofs.Ytiphlffcgjdoaaa.Mk Go.Proofs.Ytiphlffcgjdoaaa.Ge

set_option maxRecDepth 100000 in
set_option maxHeartbeats 2000000 in
theorem text_ok (g : Nat) (s : ByteArray) (a : Int) (d : ByteArray) (a1 : Int) (w : World) (hs : s.size ≤ 8000) (hn : cutT s (readN s a) = (d, a1, 0)) (h : Rd w g s a false) :
    Calls Try.prog 63 #[.pointer (some ⟨g, 0, none⟩)] w fun e w' => e = .returned (.string d) ∧ Rd w' g s a1 false ∧ Within g (g + 1) w w' := by
  have HN := Lib.hid (show cutT s (getN s a) = (d, a1, 0) by rw [getN_small hs]; exact hn)
  have R := Lib.hid h
  have hg := h.lt
  have D := Lib.hid (show Base w w from Below.refl _ _)
  clear h hn
  go_enter Try.func63, Try.ntmps63
  go_wp2_with fail
  have hb := step_drew w
  replace R := Lib.hid (R.out.below hb)
  replace D := Lib.hid (D.out.below hb)
  clear hb
  refine wp_region_held_drew (S := (fun w' => w'.cell? ⟨g, 0, none⟩ = some (.string s) ∧ w'.cell? ⟨g, 1, none⟩ = some (.int .i64 a))) (by kernel_rfl) (by exact ⟨R.out.c0, R.out.c1⟩) (fun hHeld => ?_)
  have Zd : w.heap.size ≤ w.drew.heap.size := Nat.le_refl _
  generalize w.drew = wd at Zd hHeld R D ⊢
  refine tk 0 (v := ?_) ?_
  try simp only [Act.put, n1, n2, n3, n4, n5, n6]
  refine tk 1 (v := ?_) ?_
  try simp only [Act.put, n1, n2, n3, n4, n5, n6]
  refine tk 2 (v := ?_) ?_
  try simp only [Act.put, n1, n2, n3, n4, n5, n6]
  refine tk 3 (v := ?_) ?_
  try simp only [Act.put, n1, n2, n3, n4, n5, n6]
  refine tk 4 (v := ?_) ?_
  try simp only [Act.put, n1, n2, n3, n4, n5, n6]
  refine tk 5 (v := ?_) ?_
  try simp only [Act.put, n1, n2, n3, n4, n5, n6]
  refine tk 6 (v := ?_) ?_
  try simp only [Act.put, n1, n2, n3, n4, n5, n6]
  refine tk 7 (v := ?_) ?_
  try simp only [Act.put, n1, n2, n3, n4, n5, n6]
  refine wpAnyH_ready (rs := [8, 9]) (by kernel_rfl) (by simp) ?_
  refine AllReadyH.cons rfl (fun K hK => ?_) ?_
  · go_simp
    go_at_call 92
    refine (spec_GetText s (by unfold maxLen; omega) a _).mono ?_
    rintro e wc8 ⟨rfl, hb⟩
    rw [HN.out]
    unfold tout
    simp only
    replace R := Lib.hid (R.out.below hb)
    replace D := Lib.hid (D.out.below hb)
    have Zc0 := hb.size
    clear hb
    go_wp2_with fail
    refine hK.out _ _ (by exact ⟨R.out.c0, R.out.c1⟩) (fun hHeld => ?_)
    clear hK K
    try simp only [Act.put, n1, n2, n3, n4, n5, n6]
    refine wpAnyH_ready (rs := [9]) (by kernel_rfl) (by simp) ?_
    refine AllReadyH.cons rfl (fun K hK => ?_) AllReadyH.nil
    go_simp
    have hb := step_alloc wc8 (.cells #[.string ⟨#[]⟩, .int .i64 0, .int .i64 0] 130)
    replace R := Lib.hid (R.out.below hb)
    replace D := Lib.hid (D.out.below hb)
    clear hb
    have NV := Lib.hid (New3.new wc8 (.string ⟨#[]⟩) (.int .i64 0) (.int .i64 0) 130)
    have Za : wc8.heap.size < (wc8.alloc (.cells #[.string ⟨#[]⟩, .int .i64 0, .int .i64 0] 130)).heap.size := by simp
    obtain ⟨gb, hgb⟩ : ∃ gb, gb = wc8.heap.size := ⟨_, rfl⟩
    have Qa : wc8.heap.size ≤ gb := by omega
    have Qb : gb < (wc8.alloc (.cells #[.string ⟨#[]⟩, .int .i64 0, .int .i64 0] 130)).heap.size := by omega
    rw [← hgb] at NV ⊢
    clear hgb
    generalize wc8.alloc (.cells #[.string ⟨#[]⟩, .int .i64 0, .int .i64 0] 130) = wa at NV Za Qb R D ⊢
    refine hK.out _ _ (by exact ⟨R.out.c0, R.out.c1⟩) (fun hHeld => ?_)
    clear hK K
    try simp only [Act.put, n1, n2, n3, n4, n5, n6]
    obtain ⟨nv0, nv1, nv2, nf0, nf1, nf2, nl⟩ := NV.out
    refine wpAnyH_ready (rs := [10]) (by kernel_rfl) (by simp) ?_
    refine AllReadyH.cons rfl (fun K hK => ?_) AllReadyH.nil
    go_simp
    have hw := (((Within.refl gb (gb + 1) wa).setCell (p := ⟨gb, 0, none⟩) (Nat.le_refl _) (Nat.lt_succ_self _) (.string d)).setCell (p := ⟨gb, 1, none⟩) (Nat.le_refl _) (Nat.lt_succ_self _) (.int .i64 a1)).setCell (p := ⟨gb, 2, none⟩) (Nat.le_refl _) (Nat.lt_succ_self _) (.int .i64 (0))
    have V := Lib.hid (NV.out.store (.string d) (.int .i64 a1) (.int .i64 (0)))
    replace R := Lib.hid (R.out.within hw (by omega))
    replace D := Lib.hid (D.out.within hw (by omega))
    have Zs : wa.heap.size ≤ (World.setCell (World.setCell (World.setCell wa ⟨gb, 0, none⟩ (.string d)) ⟨gb, 1, none⟩ (.int .i64 a1)) ⟨gb, 2, none⟩ (.int .i64 (0))).heap.size := hw.size
    clear hw NV nv0 nv1 nv2 nf0 nf1 nf2 nl
    generalize (World.setCell (World.setCell (World.setCell wa ⟨gb, 0, none⟩ (.string d)) ⟨gb, 1, none⟩ (.int .i64 a1)) ⟨gb, 2, none⟩ (.int .i64 (0))) = wz at V Zs R D ⊢
    refine hK.out _ _ (by exact ⟨R.out.c0, R.out.c1⟩) (fun hHeld => ?_)
    clear hK K
    try simp only [Act.put, n1, n2, n3, n4, n5, n6]
    refine wpAnyH_done (by kernel_rfl) ?_ _
    obtain ⟨v0, v1, v2, vl⟩ := V.out
    obtain ⟨r0, r1, r2, rf1, rf2, rl⟩ := R.out
    go_wp2
    go_ret
    exact ⟨rfl, R.out.setAt a1, (within_of D.out).setCell (p := ⟨g, 1, none⟩) (Nat.le_refl _) (Nat.lt_succ_self _) _⟩
  refine AllReadyH.cons rfl (fun K hK => ?_) AllReadyH.nil
  go_simp
  have hb := step_alloc wd (.cells #[.string ⟨#[]⟩, .int .i64 0, .int .i64 0] 130)
  replace R := Lib.hid (R.out.below hb)
  replace D := Lib.hid (D.out.below hb)
  clear hb
  have NV := Lib.hid (New3.new wd (.string ⟨#[]⟩) (.int .i64 0) (.int .i64 0) 130)
  have Za : wd.heap.size < (wd.alloc (.cells #[.string ⟨#[]⟩, .int .i64 0, .int .i64 0] 130)).heap.size := by simp
  obtain ⟨gb, hgb⟩ : ∃ gb, gb = wd.heap.size := ⟨_, rfl⟩
  have Qa : wd.heap.size ≤ gb := by omega
  have Qb : gb < (wd.alloc (.cells #[.string ⟨#[]⟩, .int .i64 0, .int .i64 0] 130)).heap.size := by omega
  rw [← hgb] at NV ⊢
  clear hgb
  generalize wd.alloc (.cells #[.string ⟨#[]⟩, .int .i64 0, .int .i64 0] 130) = wa at NV Za Qb R D ⊢
  refine hK.out _ _ (by exact ⟨R.out.c0, R.out.c1⟩) (fun hHeld => ?_)
  clear hK K
  try simp only [Act.put, n1, n2, n3, n4, n5, n6]
  refine wpAnyH_ready (rs := [8]) (by kernel_rfl) (by simp) ?_
  refine AllReadyH.cons rfl (fun K hK => ?_) AllReadyH.nil
  go_simp
  go_at_call 92
  refine (spec_GetText s (by unfold maxLen; omega) a _).mono ?_
  rintro e wc8 ⟨rfl, hb⟩
  rw [HN.out]
  unfold tout
  simp only
  replace R := Lib.hid (R.out.below hb)
  replace D := Lib.hid (D.out.below hb)
  replace NV := Lib.hid (NV.out.below hb)
  have Zc0 := hb.size
  clear hb
  go_wp2_with fail
  refine hK.out _ _ (by exact ⟨R.out.c0, R.out.c1⟩) (fun hHeld => ?_)
  clear hK K
  try simp only [Act.put, n1, n2, n3, n4, n5, n6]
  obtain ⟨nv0, nv1, nv2, nf0, nf1, nf2, nl⟩ := NV.out
  refine wpAnyH_ready (rs := [10]) (by kernel_rfl) (by simp) ?_
  refine AllReadyH.cons rfl (fun K hK => ?_) AllReadyH.nil
  go_simp
  have hw := (((Within.refl gb (gb + 1) wc8).setCell (p := ⟨gb, 0, none⟩) (Nat.le_refl _) (Nat.lt_succ_self _) (.string d)).setCell (p := ⟨gb, 1, none⟩) (Nat.le_refl _) (Nat.lt_succ_self _) (.int .i64 a1)).setCell (p := ⟨gb, 2, none⟩) (Nat.le_refl _) (Nat.lt_succ_self _) (.int .i64 (0))
  have V := Lib.hid (NV.out.store (.string d) (.int .i64 a1) (.int .i64 (0)))
  replace R := Lib.hid (R.out.within hw (by omega))
  replace D := Lib.hid (D.out.within hw (by omega))
  have Zs : wc8.heap.size ≤ (World.setCell (World.setCell (World.setCell wc8 ⟨gb, 0, none⟩ (.string d)) ⟨gb, 1, none⟩ (.int .i64 a1)) ⟨gb, 2, none⟩ (.int .i64 (0))).heap.size := hw.size
  clear hw NV nv0 nv1 nv2 nf0 nf1 nf2 nl
  generalize (World.setCell (World.setCell (World.setCell wc8 ⟨gb, 0, none⟩ (.string d)) ⟨gb, 1, none⟩ (.int .i64 a1)) ⟨gb, 2, none⟩ (.int .i64 (0))) = wz at V Zs R D ⊢
  refine hK.out _ _ (by exact ⟨R.out.c0, R.out.c1⟩) (fun hHeld => ?_)
  clear hK K
  try simp only [Act.put, n1, n2, n3, n4, n5, n6]
  refine wpAnyH_done (by kernel_rfl) ?_ _
  obtain ⟨v0, v1, v2, vl⟩ := V.out
  obtain ⟨r0, r1, r2, rf1, rf2, rl⟩ := R.out
  go_wp2
  go_ret
  exact ⟨rfl, R.out.setAt a1, (within_of D.out).setCell (p := ⟨g, 1, none⟩) (Nat.le_refl _) (Nat.lt_succ_self _) _⟩

set_option maxRecDepth 100000 in
set_option maxHeartbeats 2000000 in
theorem text_bad (g : Nat) (s : ByteArray) (a : Int) (d : ByteArray) (a1 c : Int) (w : World) (hs : s.size ≤ 8000) (hc : c ≠ 0) (hn : cutT s (readN s a) = (d, a1, c)) (h : Rd w g s a false) :
    Calls Try.prog 63 #[.pointer (some ⟨g, 0, none⟩)] w fun e w' => e = .returned (.string ⟨#[]⟩) ∧ Rd w' g s a true ∧ Within g (g + 1) w w' := by
  have HN := Lib.hid (show cutT s (getN s a) = (d, a1, c) by rw [getN_small hs]; exact hn)
  have R := Lib.hid h
  have hg := h.lt
  have D := Lib.hid (show Base w w from Below.refl _ _)
  clear h hn
  go_enter Try.func63, Try.ntmps63
  go_wp2_with fail
  have hb := step_drew w
  replace R := Lib.hid (R.out.below hb)
  replace D := Lib.hid (D.out.below hb)
  clear hb
  refine wp_region_held_drew (S := (fun w' => w'.cell? ⟨g, 0, none⟩ = some (.string s) ∧ w'.cell? ⟨g, 1, none⟩ = some (.int .i64 a))) (by kernel_rfl) (by exact ⟨R.out.c0, R.out.c1⟩) (fun hHeld => ?_)
  have Zd : w.heap.size ≤ w.drew.heap.size := Nat.le_refl _
  generalize w.drew = wd at Zd hHeld R D ⊢
  refine tk 0 (v := ?_) ?_
  try simp only [Act.put, n1, n2, n3, n4, n5, n6]
  refine tk 1 (v := ?_) ?_
  try simp only [Act.put, n1, n2, n3, n4, n5, n6]
  refine tk 2 (v := ?_) ?_
  try simp only [Act.put, n1, n2, n3, n4, n5, n6]
  refine tk 3 (v := ?_) ?_
  try simp only [Act.put, n1, n2, n3, n4, n5, n6]
  refine tk 4 (v := ?_) ?_
  try simp only [Act.put, n1, n2, n3, n4, n5, n6]
  refine tk 5 (v := ?_) ?_
  try simp only [Act.put, n1, n2, n3, n4, n5, n6]
  refine tk 6 (v := ?_) ?_
  try simp only [Act.put, n1, n2, n3, n4, n5, n6]
  refine tk 7 (v := ?_) ?_
  try simp only [Act.put, n1, n2, n3, n4, n5, n6]
  refine wpAnyH_ready (rs := [8, 9]) (by kernel_rfl) (by simp) ?_
  refine AllReadyH.cons rfl (fun K hK => ?_) ?_
  · go_simp
    go_at_call 92
    refine (spec_GetText s (by unfold maxLen; omega) a _).mono ?_
    rintro e wc8 ⟨rfl, hb⟩
    rw [HN.out]
    unfold tout
    simp only
    replace R := Lib.hid (R.out.below hb)
    replace D := Lib.hid (D.out.below hb)
    have Zc0 := hb.size
    clear hb
    go_wp2_with fail
    refine hK.out _ _ (by exact ⟨R.out.c0, R.out.c1⟩) (fun hHeld => ?_)
    clear hK K
    try simp only [Act.put, n1, n2, n3, n4, n5, n6]
    refine wpAnyH_ready (rs := [9]) (by kernel_rfl) (by simp) ?_
    refine AllReadyH.cons rfl (fun K hK => ?_) AllReadyH.nil
    go_simp
    have hb := step_alloc wc8 (.cells #[.string ⟨#[]⟩, .int .i64 0, .int .i64 0] 130)
    replace R := Lib.hid (R.out.below hb)
    replace D := Lib.hid (D.out.below hb)
    clear hb
    have NV := Lib.hid (New3.new wc8 (.string ⟨#[]⟩) (.int .i64 0) (.int .i64 0) 130)
    have Za : wc8.heap.size < (wc8.alloc (.cells #[.string ⟨#[]⟩, .int .i64 0, .int .i64 0] 130)).heap.size := by simp
    obtain ⟨gb, hgb⟩ : ∃ gb, gb = wc8.heap.size := ⟨_, rfl⟩
    have Qa : wc8.heap.size ≤ gb := by omega
    have Qb : gb < (wc8.alloc (.cells #[.string ⟨#[]⟩, .int .i64 0, .int .i64 0] 130)).heap.size := by omega
    rw [← hgb] at NV ⊢
    clear hgb
    generalize wc8.alloc (.cells #[.string ⟨#[]⟩, .int .i64 0, .int .i64 0] 130) = wa at NV Za Qb R D ⊢
    refine hK.out _ _ (by exact ⟨R.out.c0, R.out.c1⟩) (fun hHeld => ?_)
    clear hK K
    try simp only [Act.put, n1, n2, n3, n4, n5, n6]
    obtain ⟨nv0, nv1, nv2, nf0, nf1, nf2, nl⟩ := NV.out
    refine wpAnyH_ready (rs := [10]) (by kernel_rfl) (by simp) ?_
    refine AllReadyH.cons rfl (fun K hK => ?_) AllReadyH.nil
    go_simp
    have hw := (((Within.refl gb (gb + 1) wa).setCell (p := ⟨gb, 0, none⟩) (Nat.le_refl _) (Nat.lt_succ_self _) (.string d)).setCell (p := ⟨gb, 1, none⟩) (Nat.le_refl _) (Nat.lt_succ_self _) (.int .i64 a1)).setCell (p := ⟨gb, 2, none⟩) (Nat.le_refl _) (Nat.lt_succ_self _) (.int .i64 (c))
    have V := Lib.hid (NV.out.store (.string d) (.int .i64 a1) (.int .i64 (c)))
    replace R := Lib.hid (R.out.within hw (by omega))
    replace D := Lib.hid (D.out.within hw (by omega))
    have Zs : wa.heap.size ≤ (World.setCell (World.setCell (World.setCell wa ⟨gb, 0, none⟩ (.string d)) ⟨gb, 1, none⟩ (.int .i64 a1)) ⟨gb, 2, none⟩ (.int .i64 (c))).heap.size := hw.size
    clear hw NV nv0 nv1 nv2 nf0 nf1 nf2 nl
    generalize (World.setCell (World.setCell (World.setCell wa ⟨gb, 0, none⟩ (.string d)) ⟨gb, 1, none⟩ (.int .i64 a1)) ⟨gb, 2, none⟩ (.int .i64 (c))) = wz at V Zs R D ⊢
    refine hK.out _ _ (by exact ⟨R.out.c0, R.out.c1⟩) (fun hHeld => ?_)
    clear hK K
    try simp only [Act.put, n1, n2, n3, n4, n5, n6]
    refine wpAnyH_done (by kernel_rfl) ?_ _
    obtain ⟨v0, v1, v2, vl⟩ := V.out
    obtain ⟨r0, r1, r2, rf1, rf2, rl⟩ := R.out
    have hc1 : (c == 0) = false := by simpa using hc
    have hc2 : (c != 0) = true := by simpa using hc
    go_wp2
    go_ret
    exact ⟨rfl, R.out.setBad true, (within_of D.out).setCell (p := ⟨g, 2, none⟩) (Nat.le_refl _) (Nat.lt_succ_self _) _⟩
  refine AllReadyH.cons rfl (fun K hK => ?_) AllReadyH.nil
  go_simp
  have hb := step_alloc wd (.cells #[.string ⟨#[]⟩, .int .i64 0, .int .i64 0] 130)
  replace R := Lib.hid (R.out.below hb)
  replace D := Lib.hid (D.out.below hb)
  clear hb
  have NV := Lib.hid (New3.new wd (.string ⟨#[]⟩) (.int .i64 0) (.int .i64 0) 130)
  have Za : wd.heap.size < (wd.alloc (.cells #[.string ⟨#[]⟩, .int .i64 0, .int .i64 0] 130)).heap.size := by simp
  obtain ⟨gb, hgb⟩ : ∃ gb, gb = wd.heap.size := ⟨_, rfl⟩
  have Qa : wd.heap.size ≤ gb := by omega
  have Qb : gb < (wd.alloc (.cells #[.string ⟨#[]⟩, .int .i64 0, .int .i64 0] 130)).heap.size := by omega
  rw [← hgb] at NV ⊢
  clear hgb
  generalize wd.alloc (.cells #[.string ⟨#[]⟩, .int .i64 0, .int .i64 0] 130) = wa at NV Za Qb R D ⊢
  refine hK.out _ _ (by exact ⟨R.out.c0, R.out.c1⟩) (fun hHeld => ?_)
  clear hK K
  try simp only [Act.put, n1, n2, n3, n4, n5, n6]
  refine wpAnyH_ready (rs := [8]) (by kernel_rfl) (by simp) ?_
  refine AllReadyH.cons rfl (fun K hK => ?_) AllReadyH.nil
  go_simp
  go_at_call 92
  refine (spec_GetText s (by unfold maxLen; omega) a _).mono ?_
  rintro e wc8 ⟨rfl, hb⟩
  rw [HN.out]
  unfold tout
  simp only
  replace R := Lib.hid (R.out.below hb)
  replace D := Lib.hid (D.out.below hb)
  replace NV := Lib.hid (NV.out.below hb)
  have Zc0 := hb.size
  clear hb
  go_wp2_with fail
  refine hK.out _ _ (by exact ⟨R.out.c0, R.out.c1⟩) (fun hHeld => ?_)
  clear hK K
  try simp only [Act.put, n1, n2, n3, n4, n5, n6]
  obtain ⟨nv0, nv1, nv2, nf0, nf1, nf2, nl⟩ := NV.out
  refine wpAnyH_ready (rs := [10]) (by kernel_rfl) (by simp) ?_
  refine AllReadyH.cons rfl (fun K hK => ?_) AllReadyH.nil
  go_simp
  have hw := (((Within.refl gb (gb + 1) wc8).setCell (p := ⟨gb, 0, none⟩) (Nat.le_refl _) (Nat.lt_succ_self _) (.string d)).setCell (p := ⟨gb, 1, none⟩) (Nat.le_refl _) (Nat.lt_succ_self _) (.int .i64 a1)).setCell (p := ⟨gb, 2, none⟩) (Nat.le_refl _) (Nat.lt_succ_self _) (.int .i64 (c))
  have V := Lib.hid (NV.out.store (.string d) (.int .i64 a1) (.int .i64 (c)))
  replace R := Lib.hid (R.out.within hw (by omega))
  replace D := Lib.hid (D.out.within hw (by omega))
  have Zs : wc8.heap.size ≤ (World.setCell (World.setCell (World.setCell wc8 ⟨gb, 0, none⟩ (.string d)) ⟨gb, 1, none⟩ (.int .i64 a1)) ⟨gb, 2, none⟩ (.int .i64 (c))).heap.size := hw.size
  clear hw NV nv0 nv1 nv2 nf0 nf1 nf2 nl
  generalize (World.setCell (World.setCell (World.setCell wc8 ⟨gb, 0, none⟩ (.string d)) ⟨gb, 1, none⟩ (.int .i64 a1)) ⟨gb, 2, none⟩ (.int .i64 (c))) = wz at V Zs R D ⊢
  refine hK.out _ _ (by exact ⟨R.out.c0, R.out.c1⟩) (fun hHeld => ?_)
  clear hK K
  try simp only [Act.put, n1, n2, n3, n4, n5, n6]
  refine wpAnyH_done (by kernel_rfl) ?_ _
  obtain ⟨v0, v1, v2, vl⟩ := V.out
  obtain ⟨r0, r1, r2, rf1, rf2, rl⟩ := R.out
  have hc1 : (c == 0) = false := by simpa using hc
  have hc2 : (c != 0) = true := by simpa using hc
  go_wp2
  go_ret
  exact ⟨rfl, R.out.setBad true, (within_of D.out).setCell (p := ⟨g, 2, none⟩) (Nat.le_refl _) (Nat.lt_succ_self _) _⟩

set_option maxRecDepth 100000 in
set_option maxHeartbeats 2000000 in
theorem text_was (g : Nat) (s : ByteArray) (a : Int) (d : ByteArray) (a1 c : Int) (w : World) (hs : s.size ≤ 8000) (hn : cutT s (readN s a) = (d, a1, c)) (h : Rd w g s a true) :
    Calls Try.prog 63 #[.pointer (some ⟨g, 0, none⟩)] w fun e w' => e = .returned (.string ⟨#[]⟩) ∧ Rd w' g s a true ∧ Within g (g + 1) w w' := by
  have HN := Lib.hid (show cutT s (getN s a) = (d, a1, c) by rw [getN_small hs]; exact hn)
  have R := Lib.hid h
  have hg := h.lt
  have D := Lib.hid (show Base w w from Below.refl _ _)
  clear h hn
  go_enter Try.func63, Try.ntmps63
  go_wp2_with fail
  have hb := step_drew w
  replace R := Lib.hid (R.out.below hb)
  replace D := Lib.hid (D.out.below hb)
  clear hb
  refine wp_region_held_drew (S := (fun w' => w'.cell? ⟨g, 0, none⟩ = some (.string s) ∧ w'.cell? ⟨g, 1, none⟩ = some (.int .i64 a))) (by kernel_rfl) (by exact ⟨R.out.c0, R.out.c1⟩) (fun hHeld => ?_)
  have Zd : w.heap.size ≤ w.drew.heap.size := Nat.le_refl _
  generalize w.drew = wd at Zd hHeld R D ⊢
  refine tk 0 (v := ?_) ?_
  try simp only [Act.put, n1, n2, n3, n4, n5, n6]
  refine tk 1 (v := ?_) ?_
  try simp only [Act.put, n1, n2, n3, n4, n5, n6]
  refine tk 2 (v := ?_) ?_
  try simp only [Act.put, n1, n2, n3, n4, n5, n6]
  refine tk 3 (v := ?_) ?_
  try simp only [Act.put, n1, n2, n3, n4, n5, n6]
  refine tk 4 (v := ?_) ?_
  try simp only [Act.put, n1, n2, n3, n4, n5, n6]
  refine tk 5 (v := ?_) ?_
  try simp only [Act.put, n1, n2, n3, n4, n5, n6]
  refine tk 6 (v := ?_) ?_
  try simp only [Act.put, n1, n2, n3, n4, n5, n6]
  refine tk 7 (v := ?_) ?_
  try simp only [Act.put, n1, n2, n3, n4, n5, n6]
  refine wpAnyH_ready (rs := [8, 9]) (by kernel_rfl) (by simp) ?_
  refine AllReadyH.cons rfl (fun K hK => ?_) ?_
  · go_simp
    go_at_call 92
    refine (spec_GetText s (by unfold maxLen; omega) a _).mono ?_
    rintro e wc8 ⟨rfl, hb⟩
    rw [HN.out]
    unfold tout
    simp only
    replace R := Lib.hid (R.out.below hb)
    replace D := Lib.hid (D.out.below hb)
    have Zc0 := hb.size
    clear hb
    go_wp2_with fail
    refine hK.out _ _ (by exact ⟨R.out.c0, R.out.c1⟩) (fun hHeld => ?_)
    clear hK K
    try simp only [Act.put, n1, n2, n3, n4, n5, n6]
    refine wpAnyH_ready (rs := [9]) (by kernel_rfl) (by simp) ?_
    refine AllReadyH.cons rfl (fun K hK => ?_) AllReadyH.nil
    go_simp
    have hb := step_alloc wc8 (.cells #[.string ⟨#[]⟩, .int .i64 0, .int .i64 0] 130)
    replace R := Lib.hid (R.out.below hb)
    replace D := Lib.hid (D.out.below hb)
    clear hb
    have NV := Lib.hid (New3.new wc8 (.string ⟨#[]⟩) (.int .i64 0) (.int .i64 0) 130)
    have Za : wc8.heap.size < (wc8.alloc (.cells #[.string ⟨#[]⟩, .int .i64 0, .int .i64 0] 130)).heap.size := by simp
    obtain ⟨gb, hgb⟩ : ∃ gb, gb = wc8.heap.size := ⟨_, rfl⟩
    have Qa : wc8.heap.size ≤ gb := by omega
    have Qb : gb < (wc8.alloc (.cells #[.string ⟨#[]⟩, .int .i64 0, .int .i64 0] 130)).heap.size := by omega
    rw [← hgb] at NV ⊢
    clear hgb
    generalize wc8.alloc (.cells #[.string ⟨#[]⟩, .int .i64 0, .int .i64 0] 130) = wa at NV Za Qb R D ⊢
    refine hK.out _ _ (by exact ⟨R.out.c0, R.out.c1⟩) (fun hHeld => ?_)
    clear hK K
    try simp only [Act.put, n1, n2, n3, n4, n5, n6]
    obtain ⟨nv0, nv1, nv2, nf0, nf1, nf2, nl⟩ := NV.out
    refine wpAnyH_ready (rs := [10]) (by kernel_rfl) (by simp) ?_
    refine AllReadyH.cons rfl (fun K hK => ?_) AllReadyH.nil
    go_simp
    have hw := (((Within.refl gb (gb + 1) wa).setCell (p := ⟨gb, 0, none⟩) (Nat.le_refl _) (Nat.lt_succ_self _) (.string d)).setCell (p := ⟨gb, 1, none⟩) (Nat.le_refl _) (Nat.lt_succ_self _) (.int .i64 a1)).setCell (p := ⟨gb, 2, none⟩) (Nat.le_refl _) (Nat.lt_succ_self _) (.int .i64 (c))
    have V := Lib.hid (NV.out.store (.string d) (.int .i64 a1) (.int .i64 (c)))
    replace R := Lib.hid (R.out.within hw (by omega))
    replace D := Lib.hid (D.out.within hw (by omega))
    have Zs : wa.heap.size ≤ (World.setCell (World.setCell (World.setCell wa ⟨gb, 0, none⟩ (.string d)) ⟨gb, 1, none⟩ (.int .i64 a1)) ⟨gb, 2, none⟩ (.int .i64 (c))).heap.size := hw.size
    clear hw NV nv0 nv1 nv2 nf0 nf1 nf2 nl
    generalize (World.setCell (World.setCell (World.setCell wa ⟨gb, 0, none⟩ (.string d)) ⟨gb, 1, none⟩ (.int .i64 a1)) ⟨gb, 2, none⟩ (.int .i64 (c))) = wz at V Zs R D ⊢
    refine hK.out _ _ (by exact ⟨R.out.c0, R.out.c1⟩) (fun hHeld => ?_)
    clear hK K
    try simp only [Act.put, n1, n2, n3, n4, n5, n6]
    refine wpAnyH_done (by kernel_rfl) ?_ _
    obtain ⟨v0, v1, v2, vl⟩ := V.out
    obtain ⟨r0, r1, r2, rf1, rf2, rl⟩ := R.out
    go_wp2
    go_ret
    exact ⟨rfl, R.out.setBad true, (within_of D.out).setCell (p := ⟨g, 2, none⟩) (Nat.le_refl _) (Nat.lt_succ_self _) _⟩
  refine AllReadyH.cons rfl (fun K hK => ?_) AllReadyH.nil
  go_simp
  have hb := step_alloc wd (.cells #[.string ⟨#[]⟩, .int .i64 0, .int .i64 0] 130)
  replace R := Lib.hid (R.out.below hb)
  replace D := Lib.hid (D.out.below hb)
  clear hb
  have NV := Lib.hid (New3.new wd (.string ⟨#[]⟩) (.int .i64 0) (.int .i64 0) 130)
  have Za : wd.heap.size < (wd.alloc (.cells #[.string ⟨#[]⟩, .int .i64 0, .int .i64 0] 130)).heap.size := by simp
  obtain ⟨gb, hgb⟩ : ∃ gb, gb = wd.heap.size := ⟨_, rfl⟩
  have Qa : wd.heap.size ≤ gb := by omega
  have Qb : gb < (wd.alloc (.cells #[.string ⟨#[]⟩, .int .i64 0, .int .i64 0] 130)).heap.size := by omega
  rw [← hgb] at NV ⊢
  clear hgb
  generalize wd.alloc (.cells #[.string ⟨#[]⟩, .int .i64 0, .int .i64 0] 130) = wa at NV Za Qb R D ⊢
  refine hK.out _ _ (by exact ⟨R.out.c0, R.out.c1⟩) (fun hHeld => ?_)
  clear hK K
  try simp only [Act.put, n1, n2, n3, n4, n5, n6]
  refine wpAnyH_ready (rs := [8]) (by kernel_rfl) (by simp) ?_
  refine AllReadyH.cons rfl (fun K hK => ?_) AllReadyH.nil
  go_simp
  go_at_call 92
  refine (spec_GetText s (by unfold maxLen; omega) a _).mono ?_
  rintro e wc8 ⟨rfl, hb⟩
  rw [HN.out]
  unfold tout
  simp only
  replace R := Lib.hid (R.out.below hb)
  replace D := Lib.hid (D.out.below hb)
  replace NV := Lib.hid (NV.out.below hb)
  have Zc0 := hb.size
  clear hb
  go_wp2_with fail
  refine hK.out _ _ (by exact ⟨R.out.c0, R.out.c1⟩) (fun hHeld => ?_)
  clear hK K
  try simp only [Act.put, n1, n2, n3, n4, n5, n6]
  obtain ⟨nv0, nv1, nv2, nf0, nf1, nf2, nl⟩ := NV.out
  refine wpAnyH_ready (rs := [10]) (by kernel_rfl) (by simp) ?_
  refine AllReadyH.cons rfl (fun K hK => ?_) AllReadyH.nil
  go_simp
  have hw := (((Within.refl gb (gb + 1) wc8).setCell (p := ⟨gb, 0, none⟩) (Nat.le_refl _) (Nat.lt_succ_self _) (.string d)).setCell (p := ⟨gb, 1, none⟩) (Nat.le_refl _) (Nat.lt_succ_self _) (.int .i64 a1)).setCell (p := ⟨gb, 2, none⟩) (Nat.le_refl _) (Nat.lt_succ_self _) (.int .i64 (c))
  have V := Lib.hid (NV.out.store (.string d) (.int .i64 a1) (.int .i64 (c)))
  replace R := Lib.hid (R.out.within hw (by omega))
  replace D := Lib.hid (D.out.within hw (by omega))
  have Zs : wc8.heap.size ≤ (World.setCell (World.setCell (World.setCell wc8 ⟨gb, 0, none⟩ (.string d)) ⟨gb, 1, none⟩ (.int .i64 a1)) ⟨gb, 2, none⟩ (.int .i64 (c))).heap.size := hw.size
  clear hw NV nv0 nv1 nv2 nf0 nf1 nf2 nl
  generalize (World.setCell (World.setCell (World.setCell wc8 ⟨gb, 0, none⟩ (.string d)) ⟨gb, 1, none⟩ (.int .i64 a1)) ⟨gb, 2, none⟩ (.int .i64 (c))) = wz at V Zs R D ⊢
  refine hK.out _ _ (by exact ⟨R.out.c0, R.out.c1⟩) (fun hHeld => ?_)
  clear hK K
  try simp only [Act.put, n1, n2, n3, n4, n5, n6]
  refine wpAnyH_done (by kernel_rfl) ?_ _
  obtain ⟨v0, v1, v2, vl⟩ := V.out
  obtain ⟨r0, r1, r2, rf1, rf2, rl⟩ := R.out
  go_wp2
  go_ret
  exact ⟨rfl, R.out.setBad true, (within_of D.out).setCell (p := ⟨g, 2, none⟩) (Nat.le_refl _) (Nat.lt_succ_self _) _⟩

theorem num_any (g : Nat) (s : ByteArray) (st : Int × Bool) (w : World) (hs : s.size ≤ 8000) (h : Rd w g s st.1 st.2) :
    Calls Try.prog 62 #[.pointer (some ⟨g, 0, none⟩)] w fun e w' => e = .returned (.int .i64 (numR s st).1) ∧ Rd w' g s (numR s st).2.1 (numR s st).2.2 ∧ Within g (g + 1) w w' := by
  obtain ⟨a, b⟩ := st
  cases b
  · rcases readN_cases s a with h1 | ⟨x, b, h1⟩
    · obtain ⟨c, hc, hr⟩ := readN_bad s a h1
      have e : numR s (a, false) = (0, (a, true)) := by unfold numR; simp [h1]
      rw [e]
      exact num_bad g s a c w hs hc hr h
    · rw [numR_ok h1]
      exact num_ok g s a x b w hs h1 h
  · have e : numR s (a, true) = (0, (a, true)) := if_pos rfl
    rw [e]
    exact num_was g s a _ _ _ w hs rfl h
theorem text_any (g : Nat) (s : ByteArray) (st : Int × Bool) (w : World) (hs : s.size ≤ 8000) (h : Rd w g s st.1 st.2) :
    Calls Try.prog 63 #[.pointer (some ⟨g, 0, none⟩)] w fun e w' => e = .returned (.string (textR s st).1) ∧ Rd w' g s (textR s st).2.1 (textR s st).2.2 ∧ Within g (g + 1) w w' := by
  obtain ⟨a, b⟩ := st
  cases b
  · rcases cutT_cases s (readN s a) with h1 | ⟨x, b, h1⟩
    · have e : textR s (a, false) = (⟨#[]⟩, (a, true)) := by unfold textR; simp [h1]
      rw [e]
      exact text_bad g s a _ _ _ w hs h1 rfl h
    · rw [textR_ok h1]
      exact text_ok g s a x b w hs h1 h
  · have e : textR s (a, true) = (⟨#[]⟩, (a, true)) := if_pos rfl
    rw [e]
    exact text_was g s a _ _ _ w hs rfl h
set_option maxRecDepth 100000 in
theorem many_was (g : Nat) (s : ByteArray) (a most : Int) (w : World) (hs : s.size ≤ 8000) (hm : 0 ≤ most) (h : Rd w g s a true) :
    Calls Try.prog 61 #[.pointer (some ⟨g, 0, none⟩), .int .i64 most] w (Reads w g s 0 a true) := by
  have HC := Lib.hid (num_was g s a _ _ _ w hs rfl h)
  have hi : isB 0 0 most = true := by unfold isB; simp; omega
  clear h
  go_enter Try.func61, Try.ntmps61
  go_wp2_with fail
  refine HC.out.mono ?_
  rintro e w1 ⟨rfl, hR, hW⟩
  go_wp2_with (go_at_call 86; refine (spec_is _ _ _ _).mono ?_; rintro e w' ⟨rfl, rfl⟩)
  go_ret
  exact ⟨rfl, hR, hW⟩
end Go.Proofs.Ytiphlffcgjdoaaa.Sb

namespace Go.Proofs.Ytiphlffcgjdoaaa.Sb
open Go.RowKit Go.Proofs.Ytiphlffcgjdoaaa.Mk Go.Proofs.Ytiphlffcgjdoaaa.Rw Go.Proofs.Ytiphlffcgjdoaaa.Ge Go.Proofs.Ytiphlffcgjdoaaa.Pn

theorem parse_len5 {s : ByteArray} {a : Int} {l : List (Int × Int)} {e : Int} (h : parse s a = some (l, e)) : l.length ≤ 5 := by
  have key : ∀ (n : Nat) (b : Int) (l : List (Int × Int)) (e : Int), readMarks s n b = some (l, e) → l.length = n := by
    intro n
    induction n with
    | zero => intro b l e h; simp [readMarks] at h; simp [← h.1]
    | succ n ih =>
      intro b l e h
      rw [readMarks_succ] at h
      split at h
      · obtain ⟨p, hp, he⟩ := Option.map_eq_some_iff.1 h
        simp only [Prod.mk.injEq] at he
        rw [← he.1]; simp [ih _ _ _ hp]
      · cases h
  unfold parse at h
  split at h
  · rename_i hc
    have := key _ _ _ _ h
    omega
  · cases h
theorem cutT_le {s : ByteArray} {R : Int × Int × Int} : (cutT s R).1.size ≤ s.size := by
  unfold cutT
  split
  · exact Nat.zero_le _
  split
  · exact Nat.zero_le _
  split
  · exact Nat.zero_le _
  · simp only [ByteArray.size_extract]; omega
theorem textR_size (s : ByteArray) (st : Int × Bool) : (textR s st).1.size ≤ s.size := by
  unfold textR
  split
  · exact Nat.zero_le _
  split
  · exact cutT_le
  · exact Nat.zero_le _
/-- what stands while spec.SetRead reads the Sibs -/
structure Rt (w wr : World) (s : ByteArray) (st : Int × Bool) (O : Nat) (ja : Option Addr) (jc : Nat) (J : List (Int × Int)) (x v : Value) (S : List Sib) : Prop where
  xr : Cells wr w.heap.size [.slice none 0 0, .slice none 0 0, .int .i64 0, .int .i64 0, .int .i64 0]
  rd : Rd wr (w.heap.size + 1) s st.1 st.2
  xo : Cells wr O [.slice ja J.length jc, x]
  jo : OwnIn wr (w.heap.size + 2) O ja J
  so : wr.ownsRow (O + 1) 48 4 v S.length (flatE 4 senc S)
  d : Base w wr
  ol : w.heap.size + 2 ≤ O
section
variable {w wr w' : World} {s : ByteArray} {st st' : Int × Bool} {O : Nat} {ja : Option Addr} {jc : Nat} {J : List (Int × Int)} {x v v' : Value} {S S' : List Sib}
theorem Rt.below (h : Rt w wr s st O ja jc J x v S) (hb : Below wr.heap.size wr w') : Rt w w' s st O ja jc J x v S :=
  ⟨h.xr.below hb, h.rd.below hb, h.xo.below hb, h.jo.same (Same.of_below hb (by have := h.xo.lt; omega)), own_below h.so hb, h.d.below hb, h.ol⟩
theorem Rt.read (h : Rt w wr s st O ja jc J x v S) (hr : Rd w' (w.heap.size + 1) s st'.1 st'.2) (hw : Within (w.heap.size + 1) (w.heap.size + 1 + 1) wr w') : Rt w w' s st' O ja jc J x v S := by
  have ho := h.ol
  have hO := h.xo.lt
  exact ⟨h.xr.within hw (by omega), hr, h.xo.within hw (by omega), h.jo.same (fun b h3 h4 => hw.block b (by omega) (.inr (by omega))), own_within h.so hw (by omega), h.d.within hw (by omega), ho⟩
theorem Rt.far {M : Nat} (h : Rt w wr s st O ja jc J x v S) (hw : Within M (M + 1) wr w') (hM : O < M) (hq : ∀ q, v.ownBlock = some q → q < M) : Rt w w' s st O ja jc J x v S := by
  have ho := h.ol
  have hO := h.xo.lt
  exact ⟨h.xr.within hw (by omega), h.rd.within hw (by omega), h.xo.within hw (by omega), h.jo.same (fun b h3 h4 => hw.block b (by omega) (.inl (by omega))),
    own_same h.so (fun q h5 => hw.block q (by have := h.so.lt q h5; omega) (.inl (hq q h5))), h.d.within hw (by omega), ho⟩
theorem Rt.grew (h : Rt w wr s st O ja jc J x v S) (hb : Below (O + 1) wr w') (hs : w'.ownsRow (O + 1) 48 4 v' S'.length (flatE 4 senc S')) : Rt w w' s st O ja jc J x v' S' := by
  have ho := h.ol
  have hO := h.xo.lt
  exact ⟨h.xr.same (hb.block _ (by omega)) hb.size, h.rd.same (hb.block _ (by omega)) hb.size, h.xo.same (hb.block _ (by omega)) hb.size, h.jo.same (Same.of_below hb (by omega)), hs, Below.trans h.d (hb.mono (by omega)), ho⟩
theorem Rt.put (h : Rt w wr s st O ja jc J x v S) : Rt w (wr.setCell ⟨O, 1, none⟩ v) s st O ja jc J v v S := by
  have hw := one_store wr O 1 v
  have ho := h.ol
  have hO := h.xo.lt
  exact ⟨h.xr.within hw (by omega), h.rd.within hw (by omega), h.xo.set 1 (by simp) v, h.jo.same (fun b h3 h4 => hw.block b (by omega) (.inl (by omega))), own_within h.so hw (Nat.le_refl _), h.d.within hw (by omega), ho⟩
end
set_option maxRecDepth 100000 in
set_option maxHeartbeats 8000000 in
theorem spec_setRead (s : ByteArray) (w : World) (hs : s.size ≤ maxLen) : Calls Try.prog 16 #[.string s] w (GivesSO w (srL s) (srS s) 0 0 (srC s)) := by
  have XR := Lib.hid (Cells.new w #[.slice none 0 0, .slice none 0 0, .int .i64 0, .int .i64 0, .int .i64 0] 32)
  have D := Lib.hid (show Base w (w.alloc (.cells #[.slice none 0 0, .slice none 0 0, .int .i64 0, .int .i64 0, .int .i64 0] 32)) from step_alloc w (.cells #[.slice none 0 0, .slice none 0 0, .int .i64 0, .int .i64 0, .int .i64 0] 32))
  simp only [List.toList_toArray] at XR
  by_cases h8 : 8000 < s.size
  · have hno := Lib.hid (sr_size h8)
    unfold maxLen at hs
    obtain ⟨r0, r1, r2, r3, r4, f0, f1, f2, f3, f4⟩ := XR.out.c5
    go_enter Try.func16, Try.ntmps16
    go_wp2_with (go_at_call 53; refine (spec_ill 2 _).mono ?_; rintro e w9 ⟨rfl, hb⟩; replace XR := Lib.hid (XR.out.below hb); replace D := Lib.hid (D.out.below hb); clear hb r0 r1 r2 r3 r4 f0 f1 f2 f3 f4; obtain ⟨r0, r1, r2, r3, r4, f0, f1, f2, f3, f4⟩ := XR.out.c5)
    have XF := cells_set5 XR.out (.slice none 0 0) (.slice none 0 0) (.int .i64 0) (.int .i64 0) (.int .i64 2)
    obtain ⟨q0, q1, q2, q3, q4, -⟩ := XF.c5
    refine bodyPost_ret (v := .agg #[.slice none 0 0, .slice none 0 0, .int .i64 0, .int .i64 0, .int .i64 2]) (by simp [results, Try.results16, go_sem, q0, q1, q2, q3, q4]) rfl ?_
    rw [hno.out.1, hno.out.2.1, hno.out.2.2]
    exact givesSO_no 2 (D.out.within (within_set5 _ _ _ _ _ _ _) (Nat.le_refl _))
  have d1 : decide (8000 < (s.size : Int)) = false := by simp; omega
  have h8' : s.size ≤ 8000 := by omega
  have hb1 := step_alloc (w.alloc (.cells #[.slice none 0 0, .slice none 0 0, .int .i64 0, .int .i64 0, .int .i64 0] 32)) (.cells #[.string s, .int .i64 0, .bool false] 91)
  have R0 := Lib.hid (Rd.new (w.alloc (.cells #[.slice none 0 0, .slice none 0 0, .int .i64 0, .int .i64 0, .int .i64 0] 32)) s 91)
  have hz1 : ((w.alloc (.cells #[.slice none 0 0, .slice none 0 0, .int .i64 0, .int .i64 0, .int .i64 0] 32)).alloc (.cells #[.string s, .int .i64 0, .bool false] 91)).heap.size = w.heap.size + 2 := by simp
  simp only [World.size_alloc] at R0
  replace XR := Lib.hid (XR.out.below hb1)
  replace D := Lib.hid (D.out.below hb1)
  clear hb1
  go_enter Try.func16, Try.ntmps16
  go_wp2_with fail
  generalize (w.alloc (.cells #[.slice none 0 0, .slice none 0 0, .int .i64 0, .int .i64 0, .int .i64 0] 32)).alloc (.cells #[.string s, .int .i64 0, .bool false] 91) = w0 at XR D R0 hz1 ⊢
  refine (spec_seen (w.heap.size + 1) s 0 _ h8' R0.out).mono ?_
  rintro e w1 ⟨hW, h⟩
  replace XR := Lib.hid (XR.out.within hW (by omega))
  replace D := Lib.hid (D.out.within hW (by omega))
  have hzw := hW.size
  clear hW R0
  rcases h with ⟨l, b, ja, jc, hsome, rfl, ho, hR⟩ | ⟨hnone, v, a', rfl, hR, qa, qn, qc, rfl⟩
  rotate_left
  · have HN := Lib.hid (spec_none h8 hnone)
    have R := Lib.hid hR
    have hb := step_alloc w1 (.cells #[.slice qa qn qc, .slice none 0 0] 26)
    clear hR hnone
    go_upto_region 5 with fail
    replace XR := Lib.hid (XR.out.below hb)
    replace D := Lib.hid (D.out.below hb)
    replace R := Lib.hid (R.out.below hb)
    clear hb
    generalize w1.alloc (.cells #[.slice qa qn qc, .slice none 0 0] 26) = w2 at XR D R ⊢
    go_wp2_with fail
    refine (many_was (w.heap.size + 1) s a' 8 _ h8' (by decide) R.out).mono ?_
    rintro e w3 ⟨rfl, hR, hW⟩
    replace XR := Lib.hid (XR.out.within hW (by omega))
    replace D := Lib.hid (D.out.within hW (by omega))
    have R3 := Lib.hid hR
    clear hW hR R
    go_wp2
    go_loopw [5] (fun i wr => i = .int .i64 0 ∧ Cells wr w.heap.size [.slice none 0 0, .slice none 0 0, .int .i64 0, .int .i64 0, .int .i64 0] ∧ Rd wr (w.heap.size + 1) s a' true ∧ Base w wr) (fun _ _ => 0)
    case atStart => exact ⟨rfl, XR.out, R3.out, D.out⟩
    case round =>
      obtain ⟨rfl, hx, hR, hd⟩ := hrel
      clear XR D R3
      have XR := Lib.hid hx
      have D := Lib.hid hd
      obtain ⟨e0, e1, e2, _, _, _⟩ := hR
      clear hx hd
      obtain ⟨r0, r1, r2, r3, r4, f0, f1, f2, f3, f4⟩ := XR.out.c5
      go_wp2_with (go_at_call 53; refine (spec_ill 3 _).mono ?_; rintro e w9 ⟨rfl, hb⟩; replace XR := Lib.hid (XR.out.below hb); replace D := Lib.hid (D.out.below hb); clear hb r0 r1 r2 r3 r4 f0 f1 f2 f3 f4; obtain ⟨r0, r1, r2, r3, r4, f0, f1, f2, f3, f4⟩ := XR.out.c5)
      have XF := cells_set5 XR.out (.slice none 0 0) (.slice none 0 0) (.int .i64 0) (.int .i64 0) (.int .i64 3)
      obtain ⟨q0, q1, q2, q3, q4, -⟩ := XF.c5
      refine bodyPost_ret (v := .agg #[.slice none 0 0, .slice none 0 0, .int .i64 0, .int .i64 0, .int .i64 3]) (by simp [results, Try.results16, go_sem, q0, q1, q2, q3, q4]) rfl ?_
      have hno := HN.out
      rw [hno.1, hno.2.1, hno.2.2]
      exact givesSO_no 3 (D.out.within (within_set5 _ _ _ _ _ _ _) (Nat.le_refl _))
  have hpos := parse_pos hsome
  have hl5 := parse_len5 hsome
  have HP := Lib.hid hsome
  have hb := step_alloc w1 (.cells #[.slice ja l.length jc, .slice none 0 0] 26)
  have XO := Lib.hid (Cells.new w1 #[.slice ja l.length jc, .slice none 0 0] 26)
  have JO := Lib.hid (show OwnIn w1 (w.heap.size + 2) w1.heap.size ja l from ho.wide (by omega) (Nat.le_refl _))
  have R := Lib.hid hR
  simp only [List.toList_toArray] at XO
  clear hsome ho hR
  go_upto_region 5 with fail
  have Y := Lib.hid (show Rt w (w1.alloc (.cells #[.slice ja l.length jc, .slice none 0 0] 26)) s (b, false) w1.heap.size ja jc l (.slice none 0 0) (.slice none 0 0) [] from
    ⟨XR.out.below hb, R.out.below hb, XO.out, JO.out.same (Same.of_below hb (Nat.le_refl _)), World.ownsRow_nil _ _ _ _, D.out.below hb, by omega⟩)
  obtain ⟨O, hO⟩ : ∃ O, w1.heap.size = O := ⟨_, rfl⟩
  rw [hO] at Y ⊢
  clear hb XO JO R XR D hO hzw hz1
  generalize w1.alloc (.cells #[.slice ja l.length jc, .slice none 0 0] 26) = w2 at Y ⊢
  have start : ∃ (n : Nat) (st0 : Int × Bool), n ≤ 8 ∧ Calls Try.prog 61 #[.pointer (some ⟨w.heap.size + 1, 0, none⟩), .int .i64 8] w2 (Reads w2 (w.heap.size + 1) s n st0.1 st0.2) ∧
      ∀ U e bad, sibsR s n st0 = (U, (e, bad)) → ∀ l' ss', setAt s 0 = some ((l', ss'), (s.size : Int)) → bad = false ∧ l = l' ∧ U = ss' ∧ setBytes l U = s := by
    by_cases hc : (readN s b).2.2 ≠ 0
    · obtain ⟨c, hc0, hr⟩ := readN_bad s b hc
      refine ⟨0, (b, true), by omega, many_bad (w.heap.size + 1) s b c 8 _ h8' (by decide) hc0 hr Y.out.rd, fun U e bad _ l' ss' h => ?_⟩
      rw [count_none HP.out (fun n b1 h => absurd (by rw [h]) hc)] at h; cases h
    obtain ⟨c, b1, z, hr⟩ : ∃ c b1 z, readN s b = (c, b1, z) := ⟨_, _, _, rfl⟩
    obtain rfl : z = 0 := by rw [hr] at hc; simpa using hc
    by_cases hrange : 0 ≤ c ∧ c ≤ 8
    · obtain ⟨n, rfl⟩ : ∃ n : Nat, c = n := ⟨c.toNat, by omega⟩
      exact ⟨n, (b1, false), by omega, many_ok (w.heap.size + 1) s b n b1 8 _ h8' hr (by omega) (by omega) Y.out.rd, fun U e bad h => spec_iff HP.out hr (by omega) h⟩
    · refine ⟨0, (b1, true), by omega, many_range (w.heap.size + 1) s b c b1 8 _ h8' hr hrange Y.out.rd, fun U e bad _ l' ss' h => ?_⟩
      rw [count_none HP.out (fun n b1' h => by rw [hr] at h; simp only [Prod.mk.injEq] at h; omega)] at h; cases h
  obtain ⟨n, st0, hn, hcall, hfin⟩ := start
  have HC := Lib.hid hcall
  have HFIN := Lib.hid hfin
  clear hcall hfin
  go_wp2_with fail
  refine HC.out.mono ?_
  rintro e w3 ⟨rfl, hR, hW⟩
  have Y0 := Lib.hid (Y.out.read (st' := st0) hR hW)
  clear hR hW Y HC
  go_wp2
  go_loopw [5] (fun i wr => ∃ (k : Nat) (st : Int × Bool) (vq : Value) (U : List Sib), k ≤ 8 ∧ i = .int .i64 k ∧ Rt w wr s st O ja jc l vq vq U ∧ sibsR s n st0 = (U ++ (sibsR s k st).1, (sibsR s k st).2) ∧ U.length + k ≤ 8 ∧ SmallData U) (fun i _ => (intOf i).toNat)
  case atStart => exact ⟨n, st0, _, [], hn, rfl, Y0.out, by simp, by simpa using hn, fun x hx => by simp at hx⟩
  case round =>
    obtain ⟨k, st, vq, U, hk, rfl, hy, hs9, hlen, hsd⟩ := hrel
    have Y := Lib.hid hy
    have HS := Lib.hid hs9
    have HD := Lib.hid hsd
    clear hy hs9 hsd Y0
    obtain ⟨a, bad⟩ := st
    cases bad
    rotate_left
    · have HN := Lib.hid (sr_no h8 (fun l' ss' h => by
        have h5 := HS.out
        rw [sibsR_bad s k (a, true) rfl] at h5
        have h6 := (HFIN.out _ _ _ h5 l' ss' h).1
        cases h6))
      have XR := Lib.hid Y.out.xr
      have D := Lib.hid Y.out.d
      obtain ⟨e0, e1, e2, _, _, _⟩ := Y.out.rd
      obtain ⟨r0, r1, r2, r3, r4, f0, f1, f2, f3, f4⟩ := XR.out.c5
      have hk2 : k = 0 ∨ (0 : Int) < (k : Int) := by omega
      rcases hk2 with rfl | hk2
      · go_wp2_with (go_at_call 53; refine (spec_ill 3 _).mono ?_; rintro e w9 ⟨rfl, hb⟩; replace XR := Lib.hid (XR.out.below hb); replace D := Lib.hid (D.out.below hb); clear hb r0 r1 r2 r3 r4 f0 f1 f2 f3 f4; obtain ⟨r0, r1, r2, r3, r4, f0, f1, f2, f3, f4⟩ := XR.out.c5)
        have XF := cells_set5 XR.out (.slice none 0 0) (.slice none 0 0) (.int .i64 0) (.int .i64 0) (.int .i64 3)
        obtain ⟨q0, q1, q2, q3, q4, -⟩ := XF.c5
        refine bodyPost_ret (v := .agg #[.slice none 0 0, .slice none 0 0, .int .i64 0, .int .i64 0, .int .i64 3]) (by simp [results, Try.results16, go_sem, q0, q1, q2, q3, q4]) rfl ?_
        have hno := HN.out
        rw [hno.1, hno.2.1, hno.2.2]
        exact givesSO_no 3 (D.out.within (within_set5 _ _ _ _ _ _ _) (Nat.le_refl _))
      · go_wp2_with (go_at_call 53; refine (spec_ill 3 _).mono ?_; rintro e w9 ⟨rfl, hb⟩; replace XR := Lib.hid (XR.out.below hb); replace D := Lib.hid (D.out.below hb); clear hb r0 r1 r2 r3 r4 f0 f1 f2 f3 f4; obtain ⟨r0, r1, r2, r3, r4, f0, f1, f2, f3, f4⟩ := XR.out.c5)
        have XF := cells_set5 XR.out (.slice none 0 0) (.slice none 0 0) (.int .i64 0) (.int .i64 0) (.int .i64 3)
        obtain ⟨q0, q1, q2, q3, q4, -⟩ := XF.c5
        refine bodyPost_ret (v := .agg #[.slice none 0 0, .slice none 0 0, .int .i64 0, .int .i64 0, .int .i64 3]) (by simp [results, Try.results16, go_sem, q0, q1, q2, q3, q4]) rfl ?_
        have hno := HN.out
        rw [hno.1, hno.2.1, hno.2.2]
        exact givesSO_no 3 (D.out.within (within_set5 _ _ _ _ _ _ _) (Nat.le_refl _))
    cases k with
    | zero =>
      have h5 := HS.out
      have HF : Hid (sibsR s n st0 = (U, (a, false))) := Lib.hid (by rw [h5]; simp [sibsR])
      clear h5
      obtain ⟨qa, qc, rfl, hh, hso⟩ := own_head Y.out.so
      have HH := Lib.hid hh
      have SO := Lib.hid (show ROwnI 4 senc wr (O + 1) wr.heap.size qa U from ⟨hso, Nat.le_refl _⟩)
      have JO := Lib.hid (show OwnI wr (w.heap.size + 2) O ja l from ⟨Y.out.jo, Nat.le_of_lt Y.out.xo.lt⟩)
      have XR := Lib.hid Y.out.xr
      have XO := Lib.hid Y.out.xo
      have D := Lib.hid Y.out.d
      have R := Lib.hid Y.out.rd
      have hol := Y.out.ol
      have hO1 := Y.out.xo.lt
      clear hh hso Y
      have hne2 : ¬ s.toList = [] := toList_ne hpos
      have hne3 : s.toList.isEmpty = false := by simpa using hne2
      obtain ⟨r0, r1, r2, r3, r4, f0, f1, f2, f3, f4⟩ := XR.out.c5
      obtain ⟨o0, o1, _⟩ := XO.out.c2
      obtain ⟨e0, e1, e2, _, _, _⟩ := R.out
      by_cases he : setBytes l U = s
      · have HX := Lib.hid (sr_yes h8 (setBytes_at he hpos) rfl)
        have he2 : ((setBytes l U).toList == s.toList) = true := by rw [he]; simp
        have he3 : ((setBytes l U).toList != s.toList) = false := by rw [he]; simp
        go_wp2_with (go_at_call 15; refine (spec_setBytes ja qa jc qc l U _ (by unfold maxLen; omega) (by unfold maxLen; omega) HD.out JO.out.1.at_ SO.out.1.at_).mono ?_; rintro e w4 ⟨rfl, hb⟩; rw [he]; replace XR := Lib.hid (XR.out.below hb); replace XO := Lib.hid (XO.out.below hb); replace JO := Lib.hid (JO.out.below hb); replace SO := Lib.hid (SO.out.below hb); replace D := Lib.hid (D.out.below hb); clear hb r0 r1 r2 r3 r4 f0 f1 f2 f3 f4 o0 o1 e0 e1 e2; obtain ⟨r0, r1, r2, r3, r4, f0, f1, f2, f3, f4⟩ := XR.out.c5; obtain ⟨o0, o1, _⟩ := XO.out.c2)
        have XF := cells_set5 XR.out (.slice ja l.length jc) (.slice qa U.length qc) (.int .i64 0) (.int .i64 0) (.int .i64 0)
        have HW := within_set5 w4 w.heap.size (.slice ja l.length jc) (.slice qa U.length qc) (.int .i64 0) (.int .i64 0) (.int .i64 0)
        obtain ⟨q0, q1, q2, q3, q4, -⟩ := XF.c5
        refine bodyPost_ret (v := .agg #[.slice ja l.length jc, .slice qa U.length qc, .int .i64 0, .int .i64 0, .int .i64 0]) (by simp [results, Try.results16, go_sem, q0, q1, q2, q3, q4]) rfl ?_
        rw [HX.out.1, HX.out.2.1, HX.out.2.2]
        have JO6 := JO.out.within HW (by omega)
        have SO6 := SO.out.within HW (by omega)
        exact ⟨ja, jc, qa, qc, _, _, _, _, rfl, JO6.1, SO6.1, by omega, by omega, JO6.2, SO6.2, .inl (by omega), HH.out, D.out.within HW (Nat.le_refl _)⟩
      · have HN := Lib.hid (sr_no h8 (fun l' ss' h => he (HFIN.out _ _ _ HF.out l' ss' h).2.2.2))
        have he2 := list_ne' he
        have he3 : ((setBytes l U).toList != s.toList) = true := by simp [bne, he2]
        clear he
        go_wp2_with (first | (go_at_call 15; refine (spec_setBytes ja qa jc qc l U _ (by unfold maxLen; omega) (by unfold maxLen; omega) HD.out JO.out.1.at_ SO.out.1.at_).mono ?_; rintro e w4 ⟨rfl, hb⟩; replace XR := Lib.hid (XR.out.below hb); replace D := Lib.hid (D.out.below hb); clear hb r0 r1 r2 r3 r4 f0 f1 f2 f3 f4 o0 o1 e0 e1 e2; obtain ⟨r0, r1, r2, r3, r4, f0, f1, f2, f3, f4⟩ := XR.out.c5) | (go_at_call 53; refine (spec_ill 3 _).mono ?_; rintro e w9 ⟨rfl, hb⟩; replace XR := Lib.hid (XR.out.below hb); replace D := Lib.hid (D.out.below hb); clear hb r0 r1 r2 r3 r4 f0 f1 f2 f3 f4; obtain ⟨r0, r1, r2, r3, r4, f0, f1, f2, f3, f4⟩ := XR.out.c5))
        have XF := cells_set5 XR.out (.slice none 0 0) (.slice none 0 0) (.int .i64 0) (.int .i64 0) (.int .i64 3)
        obtain ⟨q0, q1, q2, q3, q4, -⟩ := XF.c5
        refine bodyPost_ret (v := .agg #[.slice none 0 0, .slice none 0 0, .int .i64 0, .int .i64 0, .int .i64 3]) (by simp [results, Try.results16, go_sem, q0, q1, q2, q3, q4]) rfl ?_
        have hno := HN.out
        rw [hno.1, hno.2.1, hno.2.2]
        exact givesSO_no 3 (D.out.within (within_set5 _ _ _ _ _ _ _) (Nat.le_refl _))
    | succ k =>
      have hk1 : (0 : Int) < ((k + 1 : Nat) : Int) := by omega
      obtain ⟨x1, s1, E1⟩ : ∃ x1 s1, numR s (a, false) = (x1, s1) := ⟨_, _, rfl⟩
      obtain ⟨x2, s2, E2⟩ : ∃ x2 s2, numR s s1 = (x2, s2) := ⟨_, _, rfl⟩
      obtain ⟨z, s3, E3⟩ : ∃ z s3, numR s s2 = (z, s3) := ⟨_, _, rfl⟩
      obtain ⟨dd, s4, E4⟩ : ∃ dd s4, textR s s3 = (dd, s4) := ⟨_, _, rfl⟩
      have hsib : sibR s (a, false) = (((x1, x2), decide (z = 1), dd), s4) := by
        unfold sibR; rw [E1]; simp only; rw [E2]; simp only; rw [E3]; simp only; rw [E4]
      have HT := Lib.hid (show sibsR s n st0 = ((U ++ [((x1, x2), decide (z = 1), dd)]) ++ (sibsR s k s4).1, (sibsR s k s4).2) by
        rw [HS.out, sibsR_step s k (a, false) rfl, hsib]; simp)
      have hdd : dd.size ≤ maxLen := by have := textR_size s s3; rw [E4] at this; exact Nat.le_trans this hs
      have HD2 : Hid (SmallData (U ++ [((x1, x2), decide (z = 1), dd)])) := Lib.hid (fun y hy => by
        rcases List.mem_append.1 hy with h | h
        · exact HD.out y h
        · rw [List.mem_singleton] at h; subst h; exact hdd)
      have C1 := Lib.hid (fun W h => (show Calls _ _ _ _ _ from num_any (w.heap.size + 1) s (a, false) W h8' h))
      have C2 := Lib.hid (fun W h => (show Calls _ _ _ _ _ from num_any (w.heap.size + 1) s s1 W h8' h))
      have C3 := Lib.hid (fun W h => (show Calls _ _ _ _ _ from num_any (w.heap.size + 1) s s2 W h8' h))
      have C4 := Lib.hid (fun W h => (show Calls _ _ _ _ _ from text_any (w.heap.size + 1) s s3 W h8' h))
      rw [E1] at C1
      rw [E2] at C2
      rw [E3] at C3
      rw [E4] at C4
      simp only at C1 C2 C3 C4
      obtain ⟨zb, hzb⟩ : ∃ zb, decide (z = 1) = zb := ⟨_, rfl⟩
      rw [hzb] at HT HD2
      have hz1 : (z == 1) = zb := hzb
      clear E1 E2 E3 E4 hsib HS hdd
      obtain ⟨e0, e1, e2, _, _, _⟩ := Y.out.rd
      have HQ := Lib.hid (fun q (hq : _ = some q) => (Y.out.so.lt q hq).2)
      go_wp2_with fail
      refine (C1.out _ Y.out.rd).mono ?_
      rintro e w4 ⟨rfl, hR, hW⟩
      replace Y := Lib.hid (Y.out.read (st' := s1) hR hW)
      have HQ2 := Lib.hid (fun q hq => Nat.lt_of_lt_of_le (HQ.out q hq) hW.size)
      clear hR hW e0 e1 e2 HQ
      have XM := Lib.hid (Cells.new w4 #[.int .i64 x1, .int .i64 0, .bool false, .string ⟨#[]⟩] 48)
      have hb := step_alloc w4 (.cells #[.int .i64 x1, .int .i64 0, .bool false, .string ⟨#[]⟩] 48)
      have hO := Y.out.xo.lt
      have hol := Y.out.ol
      simp only [List.toList_toArray] at XM
      go_upto_region 9 with fail
      replace Y := Lib.hid (Y.out.below hb)
      obtain ⟨M, hM⟩ : ∃ M, w4.heap.size = M := ⟨_, rfl⟩
      rw [hM] at XM HQ2 hO ⊢
      clear hb hM
      generalize w4.alloc (.cells #[.int .i64 x1, .int .i64 0, .bool false, .string ⟨#[]⟩] 48) = w5 at XM Y ⊢
      go_wp2_with fail
      refine (C2.out _ Y.out.rd).mono ?_
      rintro e w6 ⟨rfl, hR, hW⟩
      replace Y := Lib.hid (Y.out.read (st' := s2) hR hW)
      replace XM := Lib.hid (XM.out.within hW (by omega))
      clear hR hW
      obtain ⟨m0, m1, m2, m3, g0, g1, g2, g3⟩ := XM.out.c4
      go_upto_region 10 with fail
      clear m0 m1 m2 m3 g0 g1 g2 g3
      replace Y := Lib.hid (Y.out.far (one_store w6 M 1 (.int .i64 x2)) hO HQ2.out)
      replace XM := Lib.hid (XM.out.set 1 (by simp) (.int .i64 x2))
      simp only [List.set_cons_zero, List.set_cons_succ] at XM
      generalize w6.setCell ⟨M, 1, none⟩ (.int .i64 x2) = w7 at XM Y ⊢
      go_wp2_with fail
      refine (C3.out _ Y.out.rd).mono ?_
      rintro e w8 ⟨rfl, hR, hW⟩
      replace Y := Lib.hid (Y.out.read (st' := s3) hR hW)
      replace XM := Lib.hid (XM.out.within hW (by omega))
      clear hR hW
      obtain ⟨m0, m1, m2, m3, g0, g1, g2, g3⟩ := XM.out.c4
      go_upto_region 11 with fail
      clear m0 m1 m2 m3 g0 g1 g2 g3
      replace Y := Lib.hid (Y.out.far (one_store w8 M 2 (.bool zb)) hO HQ2.out)
      replace XM := Lib.hid (XM.out.set 2 (by simp) (.bool zb))
      simp only [List.set_cons_zero, List.set_cons_succ] at XM
      generalize w8.setCell ⟨M, 2, none⟩ (.bool zb) = w9 at XM Y ⊢
      go_wp2_with fail
      refine (C4.out _ Y.out.rd).mono ?_
      rintro e w10 ⟨rfl, hR, hW⟩
      replace Y := Lib.hid (Y.out.read (st' := s4) hR hW)
      replace XM := Lib.hid (XM.out.within hW (by omega))
      clear hR hW
      obtain ⟨m0, m1, m2, m3, g0, g1, g2, g3⟩ := XM.out.c4
      go_upto_region 12 with fail
      clear m0 m1 m2 m3 g0 g1 g2 g3
      replace Y := Lib.hid (Y.out.far (one_store w10 M 3 (.string dd)) hO HQ2.out)
      replace XM := Lib.hid (XM.out.set 3 (by simp) (.string dd))
      simp only [List.set_cons_zero, List.set_cons_succ] at XM
      generalize w10.setCell ⟨M, 3, none⟩ (.string dd) = w11 at XM Y ⊢
      obtain ⟨m0, m1, m2, m3, _, _, _, _⟩ := XM.out.c4
      obtain ⟨o0, o1, fo0, fo1⟩ := Y.out.xo.c2
      have hO11 := Y.out.xo.lt
      go_wp2_with (at_builtin; refine wpList_append_sib _ rfl _ _ rfl (O + 1) _ U ((x1, x2), zb, dd) (by rfl) w11.heap.size (by rfl) (by rfl) Y.out.so (by omega) hO11 ?_; intro v' w12 ho5 hb5; obtain ⟨qa, qc, rfl, _, _⟩ := own_head ho5; have O5 := Lib.hid ho5; replace Y := Lib.hid (Y.out.grew hb5 ho5); clear ho5 hb5 o0 o1 fo0 fo1 m0 m1 m2 m3; obtain ⟨o0, o1, fo0, fo1⟩ := Y.out.xo.c2)
      replace Y := Lib.hid (Y.out.put)
      go_roundw
      case rel => exact ⟨k, s4, _, _, by omega, by go_num, (by have h := Y.out; simp only [List.length_append, List.length_cons, List.length_nil, Nat.zero_add] at h; exact h), HT.out, by simp; omega, HD2.out⟩
      case measure => go_light; simp [intOf]
end Go.Proofs.Ytiphlffcgjdoaaa.Sb

namespace Go.Proofs.Ytiphlffcgjdoaaa.Sb
open Go.RowKit Go.Proofs.Ytiphlffcgjdoaaa.Mk Go.Proofs.Ytiphlffcgjdoaaa.Rw

set_option maxRecDepth 100000 in
set_option maxHeartbeats 2000000 in
theorem impl_values (a b : Option Addr) (cap cap' : Nat) (l : List (Int × Int)) (s : List Sib) (w : World) (hl : l.length ≤ maxLen) (hs : s.length ≤ maxLen) (hd : SmallData s) (hwd : WfDots s) (h : MarksAt w a l) (h' : SibsAt w b s) :
    Calls Try.prog 20 #[.agg #[.slice a l.length cap, .slice b s.length cap']] w (VGives w (setVals l s)) := by
  have H := Lib.hid h
  have H' := Lib.hid h'
  clear h h'
  have X := Lib.hid (Cells.new w #[.slice a l.length cap, .slice b s.length cap'] 26)
  have D := Lib.hid (show Base w _ from step_alloc w (.cells #[.slice a l.length cap, .slice b s.length cap'] 26))
  cases hr : setB l s
  · have HE := Lib.hid (setVals_no hr)
    rw [HE.out]
    go_enter Try.func20, Try.ntmps20
    go_wp2_with (go_at_call 22; refine (impl_setRight a b cap cap' l s _ hl hs hd hwd (H.out.mono D.out) (H'.out.mono D.out)).mono ?_; rintro e w1 ⟨rfl, hb⟩; rw [hr]; have D1 := Lib.hid (D.out.below hb))
    go_ret
    exact ⟨_, _, rfl, .inl rfl, D1.out⟩
  have HE := Lib.hid (setVals_yes hr)
  rw [HE.out]
  have h8 := (of_decide_eq_true hr : SetOk l s).2.1
  go_enter Try.func20, Try.ntmps20
  go_wp2_with fail
  refine (impl_setRight a b cap cap' l s _ hl hs hd hwd (H.out.mono D.out) (H'.out.mono D.out)).mono ?_
  rintro e w0 ⟨rfl, hb⟩
  rw [hr]
  replace X := Lib.hid (X.out.below hb)
  replace D := Lib.hid (D.out.below hb)
  clear hb hr
  obtain ⟨x0, x1, _⟩ := X.out.c2
  have hmk := run_make_strs s.length (by omega)
  have x1a : ∀ o, (w0.alloc o).cell? ⟨w.heap.size, 1, none⟩ = some (.slice b s.length cap') := fun o => ((step_alloc w0 o).cell (p := ⟨w.heap.size, 1, none⟩) X.out.lt).trans x1
  go_wp2
  clear x0 x1
  go_loopw [3, 16] (fun z i wr => ∃ (k : Nat), k ≤ s.length ∧ i = .int .i64 k ∧ wr.ownsRow w.heap.size 9 1 z (vals (s.take k)).length ((vals (s.take k)).map .string) ∧ Base w wr) (fun _ i _ => s.length - (intOf i).toNat)
  case atStart => exact ⟨0, Nat.zero_le _, rfl, by simpa [vals] using World.ownsRow_made w0 _ s.length D.out.size (by unfold maxLen; omega) (by rw [size_madeCells]; try omega), D.out.below (step_alloc _ _)⟩
  case round =>
    obtain ⟨k, hk, rfl, ho, hbel⟩ := hrel
    clear X D
    have HO := Lib.hid ho
    have D := Lib.hid hbel
    have HB := Lib.hid (show Below w.heap.size w wr from hbel)
    clear ho hbel
    have HL : Hid ((vals (s.take k)).length ≤ 8) := Lib.hid (Nat.le_trans (vals_len _) (by rw [List.length_take]; omega))
    by_cases hlt : k < s.length
    rotate_left
    · go_wp2
      go_ret
      have ho := HO.out
      rw [List.take_of_length_le (by omega), ← flat1] at ho
      obtain ⟨qa, qc, rfl, ho2⟩ := own_row (by decide) ho
      exact ⟨qa, qc, rfl, ho2.wide (by omega) (Nat.le_refl _), HB.out⟩
    obtain ⟨g, off, rfl, hg, c0, c1, c2, c3⟩ := (H'.out.mono HB.out).cells hlt
    have HS := Lib.hid (vals_take s k hlt)
    generalize s[k] = x at c0 c1 c2 c3 HS
    obtain ⟨⟨n, m⟩, gn, d⟩ := x
    dsimp only at c0 c1 c2 c3
    cases gn
    · have HS2 := Lib.hid (show vals (s.take (k + 1)) = vals (s.take k) ++ [d] by rw [HS.out]; simp)
      have hb := step_alloc wr (.cells #[.int .i64 n, .int .i64 m, .bool false, .string d] 48)
      replace HO := Lib.hid (HO.out.alloc (.cells #[.int .i64 n, .int .i64 m, .bool false, .string d] 48))
      replace D := Lib.hid (D.out.below hb)
      have hdz : w.heap.size ≤ (wr.alloc (.cells #[.int .i64 n, .int .i64 m, .bool false, .string d] 48)).heap.size := D.out.size
      clear hb
      go_wp2_with (at_builtin; refine wpList_append_str _ rfl _ _ rfl w.heap.size _ (vals (s.take k)) d (by rfl) (wr.heap.size + 1) (by simp) (by rfl) HO.out (by have := HL.out; omega) hdz ?_; intro v' w4 ho4 hb4)
      have HO4 := Lib.hid ho4
      have D4 := Lib.hid (show Base w w4 from Below.trans (show Below w.heap.size w _ from D.out) (hb4.mono (by omega)))
      clear ho4 hb4
      go_wp2
      go_roundw
      case rel => exact ⟨k + 1, by omega, by go_num, by rw [HS2.out]; exact HO4.out, D4.out⟩
      case measure => go_light; simp [intOf]; omega
    · have HS2 := Lib.hid (show vals (s.take (k + 1)) = vals (s.take k) by rw [HS.out]; simp)
      go_wp2
      go_roundw
      case rel => exact ⟨k + 1, by omega, by go_num, by rw [HS2.out]; exact HO.out.alloc (.cells #[.int .i64 n, .int .i64 m, .bool true, .string d] 48), D.out.below (step_alloc wr (.cells #[.int .i64 n, .int .i64 m, .bool true, .string d] 48))⟩
      case measure => go_light; simp [intOf]; omega

set_option maxRecDepth 100000 in
set_option maxHeartbeats 2000000 in
theorem spec_values (a b : Option Addr) (cap cap' : Nat) (l : List (Int × Int)) (s : List Sib) (w : World) (hl : l.length ≤ maxLen) (hs : s.length ≤ maxLen) (hd : SmallData s) (h : MarksAt w a l) (h' : SibsAt w b s) :
    Calls Try.prog 21 #[.agg #[.slice a l.length cap, .slice b s.length cap']] w (VGives w (setVals l s)) := by
  have H := Lib.hid h
  have H' := Lib.hid h'
  clear h h'
  have X := Lib.hid (Cells.new w #[.slice a l.length cap, .slice b s.length cap'] 26)
  have D := Lib.hid (show Base w _ from step_alloc w (.cells #[.slice a l.length cap, .slice b s.length cap'] 26))
  have hb0 := step_alloc (w.alloc (.cells #[.slice a l.length cap, .slice b s.length cap'] 26)) (.cells #[] 9)
  replace X := Lib.hid (X.out.below hb0)
  replace D := Lib.hid (D.out.below hb0)
  clear hb0
  have O : Hid (((w.alloc (.cells #[.slice a l.length cap, .slice b s.length cap'] 26)).alloc (.cells #[] 9)).ownsRow (w.heap.size + 1) 9 1 (.slice (some ⟨(w.alloc (.cells #[.slice a l.length cap, .slice b s.length cap'] 26)).heap.size, 0, none⟩) 0 0) 0 []) := Lib.hid (World.ownsRow_made (w.alloc (.cells #[.slice a l.length cap, .slice b s.length cap'] 26)) _ 0 (by simp) (by unfold maxLen; omega) rfl)
  rw [World.size_alloc] at O
  cases hr : setB l s
  · have HE := Lib.hid (setVals_no hr)
    rw [HE.out]
    go_enter Try.func21, Try.ntmps21
    go_wp2_with (go_at_call 23; refine (spec_setRight a b cap cap' l s _ hl hs hd (H.out.mono D.out) (H'.out.mono D.out)).mono ?_; rintro e w1 ⟨rfl, hb⟩; rw [hr]; have D1 := Lib.hid (D.out.below hb))
    go_ret
    exact ⟨_, _, rfl, .inl rfl, D1.out⟩
  have HE := Lib.hid (setVals_yes hr)
  rw [HE.out]
  have h8 := (of_decide_eq_true hr : SetOk l s).2.1
  go_enter Try.func21, Try.ntmps21
  go_wp2_with fail
  refine (spec_setRight a b cap cap' l s _ hl hs hd (H.out.mono D.out) (H'.out.mono D.out)).mono ?_
  rintro e w0 ⟨rfl, hb⟩
  rw [hr]
  replace X := Lib.hid (X.out.below hb)
  replace D := Lib.hid (D.out.below hb)
  replace O := Lib.hid (own_below O.out hb)
  clear hb hr
  obtain ⟨x0, x1, _⟩ := X.out.c2
  go_wp2
  clear x0 x1
  go_loopw [3, 4] (fun z i wr => ∃ (k : Nat), k ≤ s.length ∧ i = .int .i64 k ∧ wr.ownsRow (w.heap.size + 1) 9 1 z (vals (s.take k)).length ((vals (s.take k)).map .string) ∧ Cells wr w.heap.size [.slice a l.length cap, .slice b s.length cap'] ∧ Base w wr) (fun _ i _ => s.length - (intOf i).toNat)
  case atStart => exact ⟨0, Nat.zero_le _, rfl, by simpa [vals] using O.out, X.out, D.out⟩
  case round =>
    obtain ⟨k, hk, rfl, ho, hy, hbel⟩ := hrel
    clear X D
    have HO := Lib.hid ho
    have D := Lib.hid hbel
    have HB := Lib.hid (show Below w.heap.size w wr from hbel)
    have Y := Lib.hid hy
    obtain ⟨y0, y1, _⟩ := hy.c2
    have hyl := hy.lt
    clear hy
    clear ho hbel
    have HL : Hid ((vals (s.take k)).length ≤ 8) := Lib.hid (Nat.le_trans (vals_len _) (by rw [List.length_take]; omega))
    by_cases hlt : k < s.length
    rotate_left
    · go_wp2
      go_ret
      have ho := HO.out
      rw [List.take_of_length_le (by omega), ← flat1] at ho
      obtain ⟨qa, qc, rfl, ho2⟩ := own_row (by decide) ho
      exact ⟨qa, qc, rfl, ho2.wide (by omega) (Nat.le_refl _), HB.out⟩
    obtain ⟨g, off, rfl, hg, c0, c1, c2, c3⟩ := (H'.out.mono HB.out).cells hlt
    have HS := Lib.hid (vals_take s k hlt)
    generalize s[k] = x at c0 c1 c2 c3 HS
    obtain ⟨⟨n, m⟩, gn, d⟩ := x
    dsimp only at c0 c1 c2 c3
    cases gn
    · have HS2 := Lib.hid (show vals (s.take (k + 1)) = vals (s.take k) ++ [d] by rw [HS.out]; simp)
      have hdz : w.heap.size + 1 ≤ wr.heap.size := hyl
      go_wp2_with (at_builtin; refine wpList_append_str _ rfl _ _ rfl (w.heap.size + 1) _ (vals (s.take k)) d (by rfl) wr.heap.size (by simp) (by rfl) HO.out (by have := HL.out; omega) hdz ?_; intro v' w4 ho4 hb4)
      have HO4 := Lib.hid ho4
      have D4 := Lib.hid (show Base w w4 from Below.trans (show Below w.heap.size w _ from D.out) (hb4.mono (by omega)))
      have Y4 := Lib.hid (Y.out.same (hb4.block _ (Nat.lt_succ_self _)) hb4.size)
      clear ho4 hb4
      go_wp2
      go_roundw
      case rel => exact ⟨k + 1, by omega, by go_num, by rw [HS2.out]; exact HO4.out, Y4.out, D4.out⟩
      case measure => go_light; simp [intOf]; omega
    · have HS2 := Lib.hid (show vals (s.take (k + 1)) = vals (s.take k) by rw [HS.out]; simp)
      go_wp2
      go_roundw
      case rel => exact ⟨k + 1, by omega, by go_num, by rw [HS2.out]; exact HO.out, Y.out, D.out⟩
      case measure => go_light; simp [intOf]; omega
end Go.Proofs.Ytiphlffcgjdoaaa.Sb
