/- Parts of a law: SeenReadS. Conditions: on sizes, as each says. -/
import Derived.Test.YtiaoifodaoifjaaGreatZ1
import Derived.Deep.RegionHeld3
import Derived.OwnWalk
import Derived.Test.YtiaoifodaoifjaaGreatZ2
import Derived.Test.YtiaoifodaoifjaaGreatZ18
import Derived.Test.YtiaoifodaoifjaaGreatZ13
set_option linter.unusedSimpArgs false
set_option linter.unusedVariables false
namespace Go.Proofs.YtiaoifodaoifjaaGreat.Mk
open Go.RowKit Ge
structure Rd (w : World) (g : Nat) (s : ByteArray) (a : Int) (b : Bool) : Prop where
  c0 : w.cell? ⟨g, 0, none⟩ = some (.string s)
  c1 : w.cell? ⟨g, 1, none⟩ = some (.int .i64 a)
  c2 : w.cell? ⟨g, 2, none⟩ = some (.bool b)
  f1 : w.frozen? ⟨g, 1, none⟩ = false
  f2 : w.frozen? ⟨g, 2, none⟩ = false
  lt : g < w.heap.size
theorem Rd.same {w w' : World} {g : Nat} {s : ByteArray} {a : Int} {b : Bool} (h : Rd w g s a b) (hs : w'.heap[g]? = w.heap[g]?) (hz : w.heap.size ≤ w'.heap.size) : Rd w' g s a b :=
  ⟨(World.cell?_of_block (a := ⟨g, 0, none⟩) hs).trans h.c0, (World.cell?_of_block (a := ⟨g, 1, none⟩) hs).trans h.c1, (World.cell?_of_block (a := ⟨g, 2, none⟩) hs).trans h.c2,
    (World.frozen?_of_block (a := ⟨g, 1, none⟩) hs).trans h.f1, (World.frozen?_of_block (a := ⟨g, 2, none⟩) hs).trans h.f2, Nat.lt_of_lt_of_le h.lt hz⟩
theorem Rd.below {w w' : World} {g : Nat} {s : ByteArray} {a : Int} {b : Bool} (h : Rd w g s a b) (hb : Below w.heap.size w w') : Rd w' g s a b := h.same (hb.block g h.lt) hb.size
theorem Rd.within {w w' : World} {lo hi g : Nat} {s : ByteArray} {a : Int} {b : Bool} (h : Rd w g s a b) (hw : Within lo hi w w') (ha : g < lo ∨ hi ≤ g) : Rd w' g s a b := h.same (hw.block g h.lt ha) hw.size
theorem Rd.setAt {w : World} {g : Nat} {s : ByteArray} {a : Int} {b : Bool} (h : Rd w g s a b) (x : Int) : Rd (w.setCell ⟨g, 1, none⟩ (.int .i64 x)) g s x b :=
  ⟨by rw [World.cell?_setCell_other _ _ _ _ (ne_off (by omega))]; exact h.c0, World.cell?_setCell_same _ _ _ h.c1, by rw [World.cell?_setCell_other _ _ _ _ (ne_off (by omega))]; exact h.c2,
    by rw [World.frozen?_setCell]; exact h.f1, by rw [World.frozen?_setCell]; exact h.f2, by simpa [World.setCell] using h.lt⟩
theorem Rd.setBad {w : World} {g : Nat} {s : ByteArray} {a : Int} {b : Bool} (h : Rd w g s a b) (x : Bool) : Rd (w.setCell ⟨g, 2, none⟩ (.bool x)) g s a x :=
  ⟨by rw [World.cell?_setCell_other _ _ _ _ (ne_off (by omega))]; exact h.c0, by rw [World.cell?_setCell_other _ _ _ _ (ne_off (by omega))]; exact h.c1, World.cell?_setCell_same _ _ _ h.c2,
    by rw [World.frozen?_setCell]; exact h.f1, by rw [World.frozen?_setCell]; exact h.f2, by simpa [World.setCell] using h.lt⟩
theorem Rd.new (w : World) (s : ByteArray) (t : TypeId) : Rd (w.alloc (.cells #[.string s, .int .i64 0, .bool false] t)) w.heap.size s 0 false :=
  ⟨by rw [World.cell?_alloc_mark]; rfl, by rw [World.cell?_alloc_mark]; rfl, by rw [World.cell?_alloc_mark]; rfl, by rw [World.frozen?_alloc_mark]; simp, by rw [World.frozen?_alloc_mark]; simp, by simp⟩
theorem getN_small {s : ByteArray} (h : s.size ≤ 8000) (a : Int) : getN s a = readN s a := if_neg (by omega)
def Reads (w : World) (g : Nat) (s : ByteArray) (n a : Int) (b : Bool) (e : Ending) (w' : World) : Prop := e = .returned (.int .i64 n) ∧ Rd w' g s a b ∧ Within g (g + 1) w w'
theorem within_of {w w' : World} {g : Nat} (h : Base w w') : Within g (g + 1) w w' := ⟨Below.os h, Below.tape h, Below.output h, Below.size h, fun k hk _ => Below.block h k hk⟩
set_option maxRecDepth 100000 in
set_option maxHeartbeats 2000000 in
theorem num_ok (g : Nat) (s : ByteArray) (a n a1 : Int) (w : World) (hs : s.size ≤ 8000) (hn : readN s a = (n, a1, 0)) (h : Rd w g s a false) :
    Calls Tryz.prog 30 #[.pointer (some ⟨g, 0, none⟩)] w (Reads w g s n a1 false) := by
  have HN := jj (show getN s a = (n, a1, 0) by rw [getN_small hs]; exact hn)
  have R := jj h
  have hg := h.lt
  have D := jj (show Base w w from Below.refl _ _)
  clear h hn
  go_enter Tryz.func30, Tryz.ntmps30
  go_wp2_with fail
  have hb := step_drew w
  replace R := jj (R.out.below hb)
  replace D := jj (D.out.below hb)
  clear hb
  refine wp_region_held_drew (S := (fun w' => w'.cell? ⟨g, 0, none⟩ = some (.string s) ∧ w'.cell? ⟨g, 1, none⟩ = some (.int .i64 a))) (by kernel_rfl) (by exact ⟨R.out.c0, R.out.c1⟩) (fun hHeld => ?_)
  have Zd : w.heap.size ≤ w.drew.heap.size := Nat.le_refl _
  generalize w.drew = wd at Zd hHeld R D ⊢
  refine tk 0 (v := ?_) ?_
  try walk_nrm
  refine tk 1 (v := ?_) ?_
  try walk_nrm
  refine tk 2 (v := ?_) ?_
  try walk_nrm
  refine tk 3 (v := ?_) ?_
  try walk_nrm
  refine tk 4 (v := ?_) ?_
  try walk_nrm
  refine tk 5 (v := ?_) ?_
  try walk_nrm
  refine tk 6 (v := ?_) ?_
  try walk_nrm
  refine tk 7 (v := ?_) ?_
  try walk_nrm
  refine wpAnyH_ready (rs := [8, 9]) (by kernel_rfl) (by simp) ?_
  refine AllReadyH.cons rfl (fun K hK => ?_) ?_
  · go_simp
    go_at_call 59
    refine (spec_GetNum s (by unfold maxLen; omega) a _).mono ?_
    rintro e wc8 ⟨rfl, hb⟩
    rw [HN.out]
    unfold nout
    simp only
    replace R := jj (R.out.below hb)
    replace D := jj (D.out.below hb)
    have Zc0 := hb.size
    clear hb
    go_wp2_with fail
    refine hK.out _ _ (by exact ⟨R.out.c0, R.out.c1⟩) (fun hHeld => ?_)
    clear hK K
    try walk_nrm
    refine rd 9 (fun K hK => ?_)
    go_simp
    have hb := step_alloc wc8 (.cells #[.int .i64 0, .int .i64 0, .int .i64 0] 106)
    replace R := jj (R.out.below hb)
    replace D := jj (D.out.below hb)
    clear hb
    have NV := jj (New3.new wc8 (.int .i64 0) (.int .i64 0) (.int .i64 0) 106)
    have Za : wc8.heap.size < (wc8.alloc (.cells #[.int .i64 0, .int .i64 0, .int .i64 0] 106)).heap.size := by simp
    obtain ⟨gb, hgb⟩ : ∃ gb, gb = wc8.heap.size := ⟨_, rfl⟩
    have Qa : wc8.heap.size ≤ gb := by omega
    have Qb : gb < (wc8.alloc (.cells #[.int .i64 0, .int .i64 0, .int .i64 0] 106)).heap.size := by omega
    rw [← hgb] at NV ⊢
    clear hgb
    generalize wc8.alloc (.cells #[.int .i64 0, .int .i64 0, .int .i64 0] 106) = wa at NV Za Qb R D ⊢
    refine hK.out _ _ (by exact ⟨R.out.c0, R.out.c1⟩) (fun hHeld => ?_)
    clear hK K
    try walk_nrm
    obtain ⟨nv0, nv1, nv2, nf0, nf1, nf2, nl⟩ := NV.out
    refine rd 10 (fun K hK => ?_)
    go_simp
    have hw := (((Within.refl gb (gb + 1) wa).setCell (p := ⟨gb, 0, none⟩) (Nat.le_refl _) (Nat.lt_succ_self _) (.int .i64 (n))).setCell (p := ⟨gb, 1, none⟩) (Nat.le_refl _) (Nat.lt_succ_self _) (.int .i64 (a1))).setCell (p := ⟨gb, 2, none⟩) (Nat.le_refl _) (Nat.lt_succ_self _) (.int .i64 (0))
    have V := jj (NV.out.store (.int .i64 (n)) (.int .i64 (a1)) (.int .i64 (0)))
    replace R := jj (R.out.within hw (by omega))
    replace D := jj (D.out.within hw (by omega))
    have Zs : wa.heap.size ≤ (World.setCell (World.setCell (World.setCell wa ⟨gb, 0, none⟩ (.int .i64 (n))) ⟨gb, 1, none⟩ (.int .i64 (a1))) ⟨gb, 2, none⟩ (.int .i64 (0))).heap.size := hw.size
    clear hw NV nv0 nv1 nv2 nf0 nf1 nf2 nl
    generalize (World.setCell (World.setCell (World.setCell wa ⟨gb, 0, none⟩ (.int .i64 (n))) ⟨gb, 1, none⟩ (.int .i64 (a1))) ⟨gb, 2, none⟩ (.int .i64 (0))) = wz at V Zs R D ⊢
    refine hK.out _ _ (by exact ⟨R.out.c0, R.out.c1⟩) (fun hHeld => ?_)
    clear hK K
    try walk_nrm
    refine rx ?_
    obtain ⟨v0, v1, v2, vl⟩ := V.out
    obtain ⟨r0, r1, r2, rf1, rf2, rl⟩ := R.out
    go_wp2
    go_ret
    exact ⟨rfl, R.out.setAt a1, (within_of D.out).setCell (p := ⟨g, 1, none⟩) (Nat.le_refl _) (Nat.lt_succ_self _) _⟩
  refine AllReadyH.cons rfl (fun K hK => ?_) AllReadyH.nil
  go_simp
  have hb := step_alloc wd (.cells #[.int .i64 0, .int .i64 0, .int .i64 0] 106)
  replace R := jj (R.out.below hb)
  replace D := jj (D.out.below hb)
  clear hb
  have NV := jj (New3.new wd (.int .i64 0) (.int .i64 0) (.int .i64 0) 106)
  have Za : wd.heap.size < (wd.alloc (.cells #[.int .i64 0, .int .i64 0, .int .i64 0] 106)).heap.size := by simp
  obtain ⟨gb, hgb⟩ : ∃ gb, gb = wd.heap.size := ⟨_, rfl⟩
  have Qa : wd.heap.size ≤ gb := by omega
  have Qb : gb < (wd.alloc (.cells #[.int .i64 0, .int .i64 0, .int .i64 0] 106)).heap.size := by omega
  rw [← hgb] at NV ⊢
  clear hgb
  generalize wd.alloc (.cells #[.int .i64 0, .int .i64 0, .int .i64 0] 106) = wa at NV Za Qb R D ⊢
  refine hK.out _ _ (by exact ⟨R.out.c0, R.out.c1⟩) (fun hHeld => ?_)
  clear hK K
  try walk_nrm
  refine rd 8 (fun K hK => ?_)
  go_simp
  go_at_call 59
  refine (spec_GetNum s (by unfold maxLen; omega) a _).mono ?_
  rintro e wc8 ⟨rfl, hb⟩
  rw [HN.out]
  unfold nout
  simp only
  replace R := jj (R.out.below hb)
  replace D := jj (D.out.below hb)
  replace NV := jj (NV.out.below hb)
  have Zc0 := hb.size
  clear hb
  go_wp2_with fail
  refine hK.out _ _ (by exact ⟨R.out.c0, R.out.c1⟩) (fun hHeld => ?_)
  clear hK K
  try walk_nrm
  obtain ⟨nv0, nv1, nv2, nf0, nf1, nf2, nl⟩ := NV.out
  refine rd 10 (fun K hK => ?_)
  go_simp
  have hw := (((Within.refl gb (gb + 1) wc8).setCell (p := ⟨gb, 0, none⟩) (Nat.le_refl _) (Nat.lt_succ_self _) (.int .i64 (n))).setCell (p := ⟨gb, 1, none⟩) (Nat.le_refl _) (Nat.lt_succ_self _) (.int .i64 (a1))).setCell (p := ⟨gb, 2, none⟩) (Nat.le_refl _) (Nat.lt_succ_self _) (.int .i64 (0))
  have V := jj (NV.out.store (.int .i64 (n)) (.int .i64 (a1)) (.int .i64 (0)))
  replace R := jj (R.out.within hw (by omega))
  replace D := jj (D.out.within hw (by omega))
  have Zs : wc8.heap.size ≤ (World.setCell (World.setCell (World.setCell wc8 ⟨gb, 0, none⟩ (.int .i64 (n))) ⟨gb, 1, none⟩ (.int .i64 (a1))) ⟨gb, 2, none⟩ (.int .i64 (0))).heap.size := hw.size
  clear hw NV nv0 nv1 nv2 nf0 nf1 nf2 nl
  generalize (World.setCell (World.setCell (World.setCell wc8 ⟨gb, 0, none⟩ (.int .i64 (n))) ⟨gb, 1, none⟩ (.int .i64 (a1))) ⟨gb, 2, none⟩ (.int .i64 (0))) = wz at V Zs R D ⊢
  refine hK.out _ _ (by exact ⟨R.out.c0, R.out.c1⟩) (fun hHeld => ?_)
  clear hK K
  try walk_nrm
  refine rx ?_
  obtain ⟨v0, v1, v2, vl⟩ := V.out
  obtain ⟨r0, r1, r2, rf1, rf2, rl⟩ := R.out
  go_wp2
  go_ret
  exact ⟨rfl, R.out.setAt a1, (within_of D.out).setCell (p := ⟨g, 1, none⟩) (Nat.le_refl _) (Nat.lt_succ_self _) _⟩
set_option maxRecDepth 100000 in
set_option maxHeartbeats 2000000 in
theorem num_bad (g : Nat) (s : ByteArray) (a c : Int) (w : World) (hs : s.size ≤ 8000) (hc : c ≠ 0) (hn : readN s a = (0, 0, c)) (h : Rd w g s a false) :
    Calls Tryz.prog 30 #[.pointer (some ⟨g, 0, none⟩)] w (Reads w g s 0 a true) := by
  have HN := jj (show getN s a = (0, 0, c) by rw [getN_small hs]; exact hn)
  have R := jj h
  have hg := h.lt
  have D := jj (show Base w w from Below.refl _ _)
  clear h hn
  go_enter Tryz.func30, Tryz.ntmps30
  go_wp2_with fail
  have hb := step_drew w
  replace R := jj (R.out.below hb)
  replace D := jj (D.out.below hb)
  clear hb
  refine wp_region_held_drew (S := (fun w' => w'.cell? ⟨g, 0, none⟩ = some (.string s) ∧ w'.cell? ⟨g, 1, none⟩ = some (.int .i64 a))) (by kernel_rfl) (by exact ⟨R.out.c0, R.out.c1⟩) (fun hHeld => ?_)
  have Zd : w.heap.size ≤ w.drew.heap.size := Nat.le_refl _
  generalize w.drew = wd at Zd hHeld R D ⊢
  refine tk 0 (v := ?_) ?_
  try walk_nrm
  refine tk 1 (v := ?_) ?_
  try walk_nrm
  refine tk 2 (v := ?_) ?_
  try walk_nrm
  refine tk 3 (v := ?_) ?_
  try walk_nrm
  refine tk 4 (v := ?_) ?_
  try walk_nrm
  refine tk 5 (v := ?_) ?_
  try walk_nrm
  refine tk 6 (v := ?_) ?_
  try walk_nrm
  refine tk 7 (v := ?_) ?_
  try walk_nrm
  refine wpAnyH_ready (rs := [8, 9]) (by kernel_rfl) (by simp) ?_
  refine AllReadyH.cons rfl (fun K hK => ?_) ?_
  · go_simp
    go_at_call 59
    refine (spec_GetNum s (by unfold maxLen; omega) a _).mono ?_
    rintro e wc8 ⟨rfl, hb⟩
    rw [HN.out]
    unfold nout
    simp only
    replace R := jj (R.out.below hb)
    replace D := jj (D.out.below hb)
    have Zc0 := hb.size
    clear hb
    go_wp2_with fail
    refine hK.out _ _ (by exact ⟨R.out.c0, R.out.c1⟩) (fun hHeld => ?_)
    clear hK K
    try walk_nrm
    refine rd 9 (fun K hK => ?_)
    go_simp
    have hb := step_alloc wc8 (.cells #[.int .i64 0, .int .i64 0, .int .i64 0] 106)
    replace R := jj (R.out.below hb)
    replace D := jj (D.out.below hb)
    clear hb
    have NV := jj (New3.new wc8 (.int .i64 0) (.int .i64 0) (.int .i64 0) 106)
    have Za : wc8.heap.size < (wc8.alloc (.cells #[.int .i64 0, .int .i64 0, .int .i64 0] 106)).heap.size := by simp
    obtain ⟨gb, hgb⟩ : ∃ gb, gb = wc8.heap.size := ⟨_, rfl⟩
    have Qa : wc8.heap.size ≤ gb := by omega
    have Qb : gb < (wc8.alloc (.cells #[.int .i64 0, .int .i64 0, .int .i64 0] 106)).heap.size := by omega
    rw [← hgb] at NV ⊢
    clear hgb
    generalize wc8.alloc (.cells #[.int .i64 0, .int .i64 0, .int .i64 0] 106) = wa at NV Za Qb R D ⊢
    refine hK.out _ _ (by exact ⟨R.out.c0, R.out.c1⟩) (fun hHeld => ?_)
    clear hK K
    try walk_nrm
    obtain ⟨nv0, nv1, nv2, nf0, nf1, nf2, nl⟩ := NV.out
    refine rd 10 (fun K hK => ?_)
    go_simp
    have hw := (((Within.refl gb (gb + 1) wa).setCell (p := ⟨gb, 0, none⟩) (Nat.le_refl _) (Nat.lt_succ_self _) (.int .i64 (0))).setCell (p := ⟨gb, 1, none⟩) (Nat.le_refl _) (Nat.lt_succ_self _) (.int .i64 (0))).setCell (p := ⟨gb, 2, none⟩) (Nat.le_refl _) (Nat.lt_succ_self _) (.int .i64 (c))
    have V := jj (NV.out.store (.int .i64 (0)) (.int .i64 (0)) (.int .i64 (c)))
    replace R := jj (R.out.within hw (by omega))
    replace D := jj (D.out.within hw (by omega))
    have Zs : wa.heap.size ≤ (World.setCell (World.setCell (World.setCell wa ⟨gb, 0, none⟩ (.int .i64 (0))) ⟨gb, 1, none⟩ (.int .i64 (0))) ⟨gb, 2, none⟩ (.int .i64 (c))).heap.size := hw.size
    clear hw NV nv0 nv1 nv2 nf0 nf1 nf2 nl
    generalize (World.setCell (World.setCell (World.setCell wa ⟨gb, 0, none⟩ (.int .i64 (0))) ⟨gb, 1, none⟩ (.int .i64 (0))) ⟨gb, 2, none⟩ (.int .i64 (c))) = wz at V Zs R D ⊢
    refine hK.out _ _ (by exact ⟨R.out.c0, R.out.c1⟩) (fun hHeld => ?_)
    clear hK K
    try walk_nrm
    refine rx ?_
    obtain ⟨v0, v1, v2, vl⟩ := V.out
    obtain ⟨r0, r1, r2, rf1, rf2, rl⟩ := R.out
    have hc1 : (c == 0) = false := by simpa using hc
    have hc2 : (c != 0) = true := by simpa using hc
    go_wp2
    go_ret
    exact ⟨rfl, R.out.setBad true, (within_of D.out).setCell (p := ⟨g, 2, none⟩) (Nat.le_refl _) (Nat.lt_succ_self _) _⟩
  refine AllReadyH.cons rfl (fun K hK => ?_) AllReadyH.nil
  go_simp
  have hb := step_alloc wd (.cells #[.int .i64 0, .int .i64 0, .int .i64 0] 106)
  replace R := jj (R.out.below hb)
  replace D := jj (D.out.below hb)
  clear hb
  have NV := jj (New3.new wd (.int .i64 0) (.int .i64 0) (.int .i64 0) 106)
  have Za : wd.heap.size < (wd.alloc (.cells #[.int .i64 0, .int .i64 0, .int .i64 0] 106)).heap.size := by simp
  obtain ⟨gb, hgb⟩ : ∃ gb, gb = wd.heap.size := ⟨_, rfl⟩
  have Qa : wd.heap.size ≤ gb := by omega
  have Qb : gb < (wd.alloc (.cells #[.int .i64 0, .int .i64 0, .int .i64 0] 106)).heap.size := by omega
  rw [← hgb] at NV ⊢
  clear hgb
  generalize wd.alloc (.cells #[.int .i64 0, .int .i64 0, .int .i64 0] 106) = wa at NV Za Qb R D ⊢
  refine hK.out _ _ (by exact ⟨R.out.c0, R.out.c1⟩) (fun hHeld => ?_)
  clear hK K
  try walk_nrm
  refine rd 8 (fun K hK => ?_)
  go_simp
  go_at_call 59
  refine (spec_GetNum s (by unfold maxLen; omega) a _).mono ?_
  rintro e wc8 ⟨rfl, hb⟩
  rw [HN.out]
  unfold nout
  simp only
  replace R := jj (R.out.below hb)
  replace D := jj (D.out.below hb)
  replace NV := jj (NV.out.below hb)
  have Zc0 := hb.size
  clear hb
  go_wp2_with fail
  refine hK.out _ _ (by exact ⟨R.out.c0, R.out.c1⟩) (fun hHeld => ?_)
  clear hK K
  try walk_nrm
  obtain ⟨nv0, nv1, nv2, nf0, nf1, nf2, nl⟩ := NV.out
  refine rd 10 (fun K hK => ?_)
  go_simp
  have hw := (((Within.refl gb (gb + 1) wc8).setCell (p := ⟨gb, 0, none⟩) (Nat.le_refl _) (Nat.lt_succ_self _) (.int .i64 (0))).setCell (p := ⟨gb, 1, none⟩) (Nat.le_refl _) (Nat.lt_succ_self _) (.int .i64 (0))).setCell (p := ⟨gb, 2, none⟩) (Nat.le_refl _) (Nat.lt_succ_self _) (.int .i64 (c))
  have V := jj (NV.out.store (.int .i64 (0)) (.int .i64 (0)) (.int .i64 (c)))
  replace R := jj (R.out.within hw (by omega))
  replace D := jj (D.out.within hw (by omega))
  have Zs : wc8.heap.size ≤ (World.setCell (World.setCell (World.setCell wc8 ⟨gb, 0, none⟩ (.int .i64 (0))) ⟨gb, 1, none⟩ (.int .i64 (0))) ⟨gb, 2, none⟩ (.int .i64 (c))).heap.size := hw.size
  clear hw NV nv0 nv1 nv2 nf0 nf1 nf2 nl
  generalize (World.setCell (World.setCell (World.setCell wc8 ⟨gb, 0, none⟩ (.int .i64 (0))) ⟨gb, 1, none⟩ (.int .i64 (0))) ⟨gb, 2, none⟩ (.int .i64 (c))) = wz at V Zs R D ⊢
  refine hK.out _ _ (by exact ⟨R.out.c0, R.out.c1⟩) (fun hHeld => ?_)
  clear hK K
  try walk_nrm
  refine rx ?_
  obtain ⟨v0, v1, v2, vl⟩ := V.out
  obtain ⟨r0, r1, r2, rf1, rf2, rl⟩ := R.out
  have hc1 : (c == 0) = false := by simpa using hc
  have hc2 : (c != 0) = true := by simpa using hc
  go_wp2
  go_ret
  exact ⟨rfl, R.out.setBad true, (within_of D.out).setCell (p := ⟨g, 2, none⟩) (Nat.le_refl _) (Nat.lt_succ_self _) _⟩
set_option maxRecDepth 100000 in
set_option maxHeartbeats 2000000 in
theorem num_was (g : Nat) (s : ByteArray) (a n a1 c : Int) (w : World) (hs : s.size ≤ 8000) (hn : readN s a = (n, a1, c)) (h : Rd w g s a true) :
    Calls Tryz.prog 30 #[.pointer (some ⟨g, 0, none⟩)] w (Reads w g s 0 a true) := by
  have HN := jj (show getN s a = (n, a1, c) by rw [getN_small hs]; exact hn)
  have R := jj h
  have hg := h.lt
  have D := jj (show Base w w from Below.refl _ _)
  clear h hn
  go_enter Tryz.func30, Tryz.ntmps30
  go_wp2_with fail
  have hb := step_drew w
  replace R := jj (R.out.below hb)
  replace D := jj (D.out.below hb)
  clear hb
  refine wp_region_held_drew (S := (fun w' => w'.cell? ⟨g, 0, none⟩ = some (.string s) ∧ w'.cell? ⟨g, 1, none⟩ = some (.int .i64 a))) (by kernel_rfl) (by exact ⟨R.out.c0, R.out.c1⟩) (fun hHeld => ?_)
  have Zd : w.heap.size ≤ w.drew.heap.size := Nat.le_refl _
  generalize w.drew = wd at Zd hHeld R D ⊢
  refine tk 0 (v := ?_) ?_
  try walk_nrm
  refine tk 1 (v := ?_) ?_
  try walk_nrm
  refine tk 2 (v := ?_) ?_
  try walk_nrm
  refine tk 3 (v := ?_) ?_
  try walk_nrm
  refine tk 4 (v := ?_) ?_
  try walk_nrm
  refine tk 5 (v := ?_) ?_
  try walk_nrm
  refine tk 6 (v := ?_) ?_
  try walk_nrm
  refine tk 7 (v := ?_) ?_
  try walk_nrm
  refine wpAnyH_ready (rs := [8, 9]) (by kernel_rfl) (by simp) ?_
  refine AllReadyH.cons rfl (fun K hK => ?_) ?_
  · go_simp
    go_at_call 59
    refine (spec_GetNum s (by unfold maxLen; omega) a _).mono ?_
    rintro e wc8 ⟨rfl, hb⟩
    rw [HN.out]
    unfold nout
    simp only
    replace R := jj (R.out.below hb)
    replace D := jj (D.out.below hb)
    have Zc0 := hb.size
    clear hb
    go_wp2_with fail
    refine hK.out _ _ (by exact ⟨R.out.c0, R.out.c1⟩) (fun hHeld => ?_)
    clear hK K
    try walk_nrm
    refine rd 9 (fun K hK => ?_)
    go_simp
    have hb := step_alloc wc8 (.cells #[.int .i64 0, .int .i64 0, .int .i64 0] 106)
    replace R := jj (R.out.below hb)
    replace D := jj (D.out.below hb)
    clear hb
    have NV := jj (New3.new wc8 (.int .i64 0) (.int .i64 0) (.int .i64 0) 106)
    have Za : wc8.heap.size < (wc8.alloc (.cells #[.int .i64 0, .int .i64 0, .int .i64 0] 106)).heap.size := by simp
    obtain ⟨gb, hgb⟩ : ∃ gb, gb = wc8.heap.size := ⟨_, rfl⟩
    have Qa : wc8.heap.size ≤ gb := by omega
    have Qb : gb < (wc8.alloc (.cells #[.int .i64 0, .int .i64 0, .int .i64 0] 106)).heap.size := by omega
    rw [← hgb] at NV ⊢
    clear hgb
    generalize wc8.alloc (.cells #[.int .i64 0, .int .i64 0, .int .i64 0] 106) = wa at NV Za Qb R D ⊢
    refine hK.out _ _ (by exact ⟨R.out.c0, R.out.c1⟩) (fun hHeld => ?_)
    clear hK K
    try walk_nrm
    obtain ⟨nv0, nv1, nv2, nf0, nf1, nf2, nl⟩ := NV.out
    refine rd 10 (fun K hK => ?_)
    go_simp
    have hw := (((Within.refl gb (gb + 1) wa).setCell (p := ⟨gb, 0, none⟩) (Nat.le_refl _) (Nat.lt_succ_self _) (.int .i64 (n))).setCell (p := ⟨gb, 1, none⟩) (Nat.le_refl _) (Nat.lt_succ_self _) (.int .i64 (a1))).setCell (p := ⟨gb, 2, none⟩) (Nat.le_refl _) (Nat.lt_succ_self _) (.int .i64 (c))
    have V := jj (NV.out.store (.int .i64 (n)) (.int .i64 (a1)) (.int .i64 (c)))
    replace R := jj (R.out.within hw (by omega))
    replace D := jj (D.out.within hw (by omega))
    have Zs : wa.heap.size ≤ (World.setCell (World.setCell (World.setCell wa ⟨gb, 0, none⟩ (.int .i64 (n))) ⟨gb, 1, none⟩ (.int .i64 (a1))) ⟨gb, 2, none⟩ (.int .i64 (c))).heap.size := hw.size
    clear hw NV nv0 nv1 nv2 nf0 nf1 nf2 nl
    generalize (World.setCell (World.setCell (World.setCell wa ⟨gb, 0, none⟩ (.int .i64 (n))) ⟨gb, 1, none⟩ (.int .i64 (a1))) ⟨gb, 2, none⟩ (.int .i64 (c))) = wz at V Zs R D ⊢
    refine hK.out _ _ (by exact ⟨R.out.c0, R.out.c1⟩) (fun hHeld => ?_)
    clear hK K
    try walk_nrm
    refine rx ?_
    obtain ⟨v0, v1, v2, vl⟩ := V.out
    obtain ⟨r0, r1, r2, rf1, rf2, rl⟩ := R.out
    go_wp2
    go_ret
    exact ⟨rfl, R.out.setBad true, (within_of D.out).setCell (p := ⟨g, 2, none⟩) (Nat.le_refl _) (Nat.lt_succ_self _) _⟩
  refine AllReadyH.cons rfl (fun K hK => ?_) AllReadyH.nil
  go_simp
  have hb := step_alloc wd (.cells #[.int .i64 0, .int .i64 0, .int .i64 0] 106)
  replace R := jj (R.out.below hb)
  replace D := jj (D.out.below hb)
  clear hb
  have NV := jj (New3.new wd (.int .i64 0) (.int .i64 0) (.int .i64 0) 106)
  have Za : wd.heap.size < (wd.alloc (.cells #[.int .i64 0, .int .i64 0, .int .i64 0] 106)).heap.size := by simp
  obtain ⟨gb, hgb⟩ : ∃ gb, gb = wd.heap.size := ⟨_, rfl⟩
  have Qa : wd.heap.size ≤ gb := by omega
  have Qb : gb < (wd.alloc (.cells #[.int .i64 0, .int .i64 0, .int .i64 0] 106)).heap.size := by omega
  rw [← hgb] at NV ⊢
  clear hgb
  generalize wd.alloc (.cells #[.int .i64 0, .int .i64 0, .int .i64 0] 106) = wa at NV Za Qb R D ⊢
  refine hK.out _ _ (by exact ⟨R.out.c0, R.out.c1⟩) (fun hHeld => ?_)
  clear hK K
  try walk_nrm
  refine rd 8 (fun K hK => ?_)
  go_simp
  go_at_call 59
  refine (spec_GetNum s (by unfold maxLen; omega) a _).mono ?_
  rintro e wc8 ⟨rfl, hb⟩
  rw [HN.out]
  unfold nout
  simp only
  replace R := jj (R.out.below hb)
  replace D := jj (D.out.below hb)
  replace NV := jj (NV.out.below hb)
  have Zc0 := hb.size
  clear hb
  go_wp2_with fail
  refine hK.out _ _ (by exact ⟨R.out.c0, R.out.c1⟩) (fun hHeld => ?_)
  clear hK K
  try walk_nrm
  obtain ⟨nv0, nv1, nv2, nf0, nf1, nf2, nl⟩ := NV.out
  refine rd 10 (fun K hK => ?_)
  go_simp
  have hw := (((Within.refl gb (gb + 1) wc8).setCell (p := ⟨gb, 0, none⟩) (Nat.le_refl _) (Nat.lt_succ_self _) (.int .i64 (n))).setCell (p := ⟨gb, 1, none⟩) (Nat.le_refl _) (Nat.lt_succ_self _) (.int .i64 (a1))).setCell (p := ⟨gb, 2, none⟩) (Nat.le_refl _) (Nat.lt_succ_self _) (.int .i64 (c))
  have V := jj (NV.out.store (.int .i64 (n)) (.int .i64 (a1)) (.int .i64 (c)))
  replace R := jj (R.out.within hw (by omega))
  replace D := jj (D.out.within hw (by omega))
  have Zs : wc8.heap.size ≤ (World.setCell (World.setCell (World.setCell wc8 ⟨gb, 0, none⟩ (.int .i64 (n))) ⟨gb, 1, none⟩ (.int .i64 (a1))) ⟨gb, 2, none⟩ (.int .i64 (c))).heap.size := hw.size
  clear hw NV nv0 nv1 nv2 nf0 nf1 nf2 nl
  generalize (World.setCell (World.setCell (World.setCell wc8 ⟨gb, 0, none⟩ (.int .i64 (n))) ⟨gb, 1, none⟩ (.int .i64 (a1))) ⟨gb, 2, none⟩ (.int .i64 (c))) = wz at V Zs R D ⊢
  refine hK.out _ _ (by exact ⟨R.out.c0, R.out.c1⟩) (fun hHeld => ?_)
  clear hK K
  try walk_nrm
  refine rx ?_
  obtain ⟨v0, v1, v2, vl⟩ := V.out
  obtain ⟨r0, r1, r2, rf1, rf2, rl⟩ := R.out
  go_wp2
  go_ret
  exact ⟨rfl, R.out.setBad true, (within_of D.out).setCell (p := ⟨g, 2, none⟩) (Nat.le_refl _) (Nat.lt_succ_self _) _⟩
set_option maxRecDepth 100000 in
theorem many_ok (g : Nat) (s : ByteArray) (a n a1 most : Int) (w : World) (hs : s.size ≤ 8000) (hn : readN s a = (n, a1, 0)) (h0 : 0 ≤ n) (h1 : n ≤ most) (h : Rd w g s a false) :
    Calls Tryz.prog 63 #[.pointer (some ⟨g, 0, none⟩), .int .i64 most] w (Reads w g s n a1 false) := by
  have HC := jj (num_ok g s a n a1 w hs hn h)
  have hi : isB n 0 most = true := by unfold isB; simp; omega
  clear h hn
  go_enter Tryz.func63, Tryz.ntmps63
  go_wp2_with fail
  refine HC.out.mono ?_
  rintro e w1 ⟨rfl, hR, hW⟩
  go_wp2_with (go_at_call 36; refine (spec_is _ _ _ _).mono ?_; rintro e w' ⟨rfl, rfl⟩)
  go_ret
  exact ⟨rfl, hR, hW⟩
set_option maxRecDepth 100000 in
theorem many_bad (g : Nat) (s : ByteArray) (a c most : Int) (w : World) (hs : s.size ≤ 8000) (hm : 0 ≤ most) (hc : c ≠ 0) (hn : readN s a = (0, 0, c)) (h : Rd w g s a false) :
    Calls Tryz.prog 63 #[.pointer (some ⟨g, 0, none⟩), .int .i64 most] w (Reads w g s 0 a true) := by
  have HC := jj (num_bad g s a c w hs hc hn h)
  have hi : isB 0 0 most = true := by unfold isB; simp; omega
  clear h hn
  go_enter Tryz.func63, Tryz.ntmps63
  go_wp2_with fail
  refine HC.out.mono ?_
  rintro e w1 ⟨rfl, hR, hW⟩
  go_wp2_with (go_at_call 36; refine (spec_is _ _ _ _).mono ?_; rintro e w' ⟨rfl, rfl⟩)
  go_ret
  exact ⟨rfl, hR, hW⟩
set_option maxRecDepth 100000 in
theorem many_range (g : Nat) (s : ByteArray) (a n a1 most : Int) (w : World) (hs : s.size ≤ 8000) (hn : readN s a = (n, a1, 0)) (h0 : ¬ (0 ≤ n ∧ n ≤ most)) (h : Rd w g s a false) :
    Calls Tryz.prog 63 #[.pointer (some ⟨g, 0, none⟩), .int .i64 most] w (Reads w g s 0 a1 true) := by
  have HC := jj (num_ok g s a n a1 w hs hn h)
  have hi : isB n 0 most = false := by
    unfold isB
    by_cases h2 : 0 ≤ n
    · simp; omega
    · simp; omega
  clear h hn
  go_enter Tryz.func63, Tryz.ntmps63
  go_wp2_with fail
  refine HC.out.mono ?_
  rintro e w1 ⟨rfl, hR, hW⟩
  have R := jj hR
  obtain ⟨r0, r1, r2, rf1, rf2, rl⟩ := hR
  go_wp2_with (go_at_call 36; refine (spec_is _ _ _ _).mono ?_; rintro e w' ⟨rfl, rfl⟩)
  go_ret
  exact ⟨rfl, R.out.setBad true, hW.setCell (p := ⟨g, 2, none⟩) (Nat.le_refl _) (Nat.lt_succ_self _) _⟩
def Far (w : World) (g : Nat) (s : ByteArray) (o : Option (List (Int × Int) × Int)) (l : List (Int × Int)) (j : Nat) : Prop :=
  ∃ b, (Rd w g s b false ∧ o = addL l (readMarks s j b)) ∨ (Rd w g s b true ∧ o = none)
def Seens (w : World) (g : Nat) (s : ByteArray) (o : Option (List (Int × Int) × Int)) (e : Ending) (w' : World) : Prop :=
  Within g (g + 1) w w' ∧ ((∃ l at_ a cap, o = some (l, at_) ∧ e = .returned (.slice a (List.length l) cap) ∧ OwnIn w' w.heap.size w'.heap.size a l ∧ Rd w' g s at_ false) ∨ (o = none ∧ ∃ v a', e = .returned v ∧ Rd w' g s a' true ∧ ∃ qa n cap, v = .slice qa n cap))
def Round (w wr : World) (g : Nat) (s : ByteArray) (o : Option (List (Int × Int) × Int)) (l : List (Int × Int)) (j : Nat) (v : Value) : Prop :=
  wr.ownsRow w.heap.size 63 2 v l.length (flat l) ∧ Far wr g s o l j ∧ Within g (g + 1) w wr ∧ l.length + j ≤ 5
theorem size_setCell (w : World) (p : Addr) (u : Value) : (w.setCell p u).heap.size = w.heap.size := by simp [World.setCell]
set_option maxRecDepth 100000 in
set_option maxHeartbeats 4000000 in
theorem spec_seen (g : Nat) (s : ByteArray) (a : Int) (w : World) (hs : s.size ≤ 8000) (h : Rd w g s a false) :
    Calls Tryz.prog 62 #[.pointer (some ⟨g, 0, none⟩)] w (Seens w g s (parse s a)) := by
  have hg := h.lt
  have R := jj (h.below (step_alloc w (.cells #[] 63)))
  have O0 := jj (World.ownsRow_made (e := 63) (size := 2) w #[] 0 (Nat.le_refl _) (by unfold maxLen; omega) rfl)
  clear h
  -- the count
  have start : ∃ (n : Int) (a1 : Int) (b : Bool), Calls Tryz.prog 63 #[.pointer (some ⟨g, 0, none⟩), .int .i64 5] (w.alloc (.cells #[] 63)) (Reads (w.alloc (.cells #[] 63)) g s n a1 b) ∧
      ∃ j : Nat, n = j ∧ j ≤ 5 ∧ ((b = false ∧ parse s a = addL [] (readMarks s j a1)) ∨ (b = true ∧ parse s a = none)) := by
    by_cases hc : (readN s a).2.2 ≠ 0
    · obtain ⟨c, hc0, hr⟩ := readN_bad s a hc
      exact ⟨0, a, true, many_bad g s a c 5 _ hs (by omega) hc0 hr R.out, 0, rfl, by omega, .inr ⟨rfl, if_neg fun d => hc d.1⟩⟩
    obtain ⟨c, a1, z, hr⟩ : ∃ c a1 z, readN s a = (c, a1, z) := ⟨_, _, _, rfl⟩
    obtain rfl : z = 0 := by rw [hr] at hc; simpa using hc
    by_cases hrange : 0 ≤ c ∧ c ≤ 5
    · obtain ⟨n, rfl⟩ : ∃ n : Nat, c = n := ⟨c.toNat, by omega⟩
      refine ⟨n, a1, false, many_ok g s a n a1 5 _ hs hr (by omega) (by omega) R.out, n, rfl, by omega, .inl ⟨rfl, ?_⟩⟩
      rw [addL_nil]; unfold parse; rw [hr]; simp only; rw [if_pos ⟨trivial, hrange⟩]; simp
    · refine ⟨0, a1, true, many_range g s a c a1 5 _ hs hr hrange R.out, 0, rfl, by omega, .inr ⟨rfl, ?_⟩⟩
      unfold parse; rw [hr]; exact if_neg fun d => hrange d.2
  obtain ⟨n, a1, b, hcall, j, rfl, hj5, hfar⟩ := start
  have HC := jj hcall
  have HF := jj hfar
  clear hcall hfar
  go_enter Tryz.func62, Tryz.ntmps62
  go_wp2_with fail
  refine HC.out.mono ?_
  rintro e w1 ⟨rfl, hR1, hW1⟩
  have R1 := jj hR1
  have W1 := jj (show Within g (g + 1) w w1 from (within_of (step_alloc w (.cells #[] 63))).trans hW1)
  have O1 := jj (own_within O0.out hW1 (by omega))
  clear hR1 hW1
  go_wp2
  go_loopw [3, 4] (fun v i wr => ∃ (l : List (Int × Int)) (k : Nat), i = .int .i64 k ∧ Round w wr g s (parse s a) l k v) (fun _ i _ => (intOf i).toNat)
  case atStart =>
    refine ⟨[], j, rfl, O1.out, ⟨a1, ?_⟩, W1.out, by simpa using hj5⟩
    rcases HF.out with ⟨hb, hp⟩ | ⟨hb, hp⟩
    · exact .inl ⟨by rw [← hb]; exact R1.out, hp⟩
    · exact .inr ⟨by rw [← hb]; exact R1.out, hp⟩
  case round =>
    obtain ⟨l, k, rfl, hown, ⟨b, hfar⟩, hW, hlen⟩ := hrel
    have O := jj hown
    have WW := jj hW
    have HL := jj hlen
    have hz := hW.size
    clear hown hW hlen
    rcases hfar with ⟨hR, hp⟩ | ⟨hR, hp⟩
    · have R := jj hR
      have HP := jj hp
      clear hp
      obtain ⟨r0, r1, r2, rf1, rf2, rl⟩ := hR
      cases k with
      | zero =>
        have hpz : parse s a = some (l, b) := by rw [HP.out]; simp [readMarks, addL]
        have HPZ := jj hpz
        clear hpz
        go_wp2
        go_ret
        obtain ⟨qa, cap, rfl, ho⟩ := own_row O.out
        exact ⟨WW.out, .inl ⟨l, b, qa, cap, HPZ.out, rfl, ho, R.out⟩⟩
      | succ k =>
        have hk1 : (0 : Int) < ((k + 1 : Nat) : Int) := by omega
        have hk5 : k ≤ 5 := by have := HL.out; omega
        have hstep : ∃ (x : Int) (b1 : Int) (z1 : Bool) (y b2 : Int) (z2 : Bool), Calls Tryz.prog 30 #[.pointer (some ⟨g, 0, none⟩)] wr (Reads wr g s x b1 z1) ∧
            (∀ W, Rd W g s b1 z1 → Calls Tryz.prog 30 #[.pointer (some ⟨g, 0, none⟩)] W (Reads W g s y b2 z2)) ∧
            ((z2 = false ∧ parse s a = addL (l ++ [(x, y)]) (readMarks s k b2)) ∨ (z2 = true ∧ parse s a = none)) := by
          by_cases hb1 : (readN s b).2.2 ≠ 0
          · obtain ⟨c, hc0, hr⟩ := readN_bad s b hb1
            exact ⟨0, b, true, 0, b, true, num_bad g s b c _ hs hc0 hr R.out, fun W hW => num_was g s b 0 0 c W hs hr hW, .inr ⟨rfl, HP.out.trans (readMarks_bad1 hb1 _)⟩⟩
          obtain ⟨x, b1, z, hr⟩ : ∃ x b1 z, readN s b = (x, b1, z) := ⟨_, _, _, rfl⟩
          obtain rfl : z = 0 := by rw [hr] at hb1; simpa using hb1
          by_cases hb2 : (readN s b1).2.2 ≠ 0
          · obtain ⟨c, hc0, hr2⟩ := readN_bad s b1 hb2
            exact ⟨x, b1, false, 0, b1, true, num_ok g s b x b1 _ hs hr R.out, fun W hW => num_bad g s b1 c W hs hc0 hr2 hW, .inr ⟨rfl, HP.out.trans (readMarks_bad2 hr hb2 _)⟩⟩
          obtain ⟨y, b2, z, hr2⟩ : ∃ y b2 z, readN s b1 = (y, b2, z) := ⟨_, _, _, rfl⟩
          obtain rfl : z = 0 := by rw [hr2] at hb2; simpa using hb2
          exact ⟨x, b1, false, y, b2, false, num_ok g s b x b1 _ hs hr R.out, fun W hW => num_ok g s b1 y b2 W hs hr2 hW, .inl ⟨rfl, HP.out.trans (readMarks_step hr hr2 _)⟩⟩
        obtain ⟨x, b1, z1, y, b2, z2, hc1, hc2, hnext⟩ := hstep
        have C1 := jj hc1
        have C2 := jj hc2
        have HX := jj hnext
        clear hc1 hc2 hnext
        go_wp2_with fail
        refine C1.out.mono ?_
        rintro e w2 ⟨rfl, hR2, hW2⟩
        have O2 := jj (own_within O.out hW2 (by omega))
        have W2 := jj (WW.out.trans hW2)
        have R2 := jj (hR2.below (step_alloc w2 (.cells #[.int .i64 x, .int .i64 0] 63)))
        have z2s := hW2.size
        clear r0 r1 r2 rf1 rf2 rl hR2 hW2
        have N2 := jj (New2.new w2 (.int .i64 x) (.int .i64 0) 63)
        have HN := jj (fun q (hq : _ = some q) => (O2.out.lt q hq).2)
        go_wp2_with fail
        refine (C2.out _ R2.out).mono ?_
        rintro e w3 ⟨rfl, hR3, hW3⟩
        have hgm : g + 1 ≤ w2.heap.size := by omega
        have N3 := jj (N2.out.within hW3 (Or.inr hgm))
        have O3 := jj (own_within (O2.out.alloc (.cells #[.int .i64 x, .int .i64 0] 63)) hW3 (by omega))
        have W3 := jj ((show Within g (g + 1) w (w2.alloc (.cells #[.int .i64 x, .int .i64 0] 63)) from W2.out.trans (within_of (step_alloc w2 _))).trans hW3)
        have R3 := jj (hR3.within ((Within.refl w2.heap.size (w2.heap.size + 1) w3).setCell (p := ⟨w2.heap.size, 1, none⟩) (Nat.le_refl _) (Nat.lt_succ_self _) (.int .i64 y)) (Or.inl (by omega)))
        have O4 := jj (own_same (w' := w3.setCell ⟨w2.heap.size, 1, none⟩ (.int .i64 y)) O3.out (fun q hq => Below.heap_setCell _ _ _ _ (by have := HN.out q hq; simp only; omega)))
        have z3s := hW3.size
        have z4s : w2.heap.size < w3.heap.size := by simp at z3s; omega
        clear hR3 hW3
        obtain ⟨n0, n1, nf0, nf1, nlt⟩ := N3.out
        go_wp2_with (at_builtin; refine wpList_append_mark _ rfl _ _ rfl w.heap.size _ l (x, y) (by rfl) w3.heap.size (by simp [World.setCell]) (by rfl) O4.out (by have := HL.out; omega) (by rw [size_setCell]; omega) ?_; intro v' w5 ho5 hb5)
        have O5 := jj ho5
        have R5 := jj (R3.out.same (hb5.block g (by omega)) hb5.size)
        have W5 := jj (show Within g (g + 1) w w5 from
          ⟨hb5.os.trans W3.out.os, hb5.tape.trans W3.out.tape, hb5.output.trans W3.out.output, by have := hb5.size; rw [size_setCell] at this; omega,
            fun q hq ho => (hb5.block q hq).trans ((Below.heap_setCell _ _ _ _ (by simp only; omega)).trans (W3.out.block q hq ho))⟩)
        clear ho5 hb5 n0 n1 nf0 nf1 nlt
        go_wp2
        go_roundw
        case rel =>
          refine ⟨l ++ [(x, y)], k, by go_num, O5.out, ⟨b2, ?_⟩, W5.out, by have := HL.out; simp; omega⟩
          rcases HX.out with ⟨hb, hp⟩ | ⟨hb, hp⟩
          · exact .inl ⟨by rw [← hb]; exact R5.out, hp⟩
          · exact .inr ⟨by rw [← hb]; exact R5.out, hp⟩
        case measure => go_light; simp [intOf]
    · have R := jj hR
      have HP := jj hp
      clear hp
      obtain ⟨r0, r1, r2, rf1, rf2, rl⟩ := hR
      have hk2 : k = 0 ∨ (0 : Int) < (k : Int) := by omega
      rcases hk2 with rfl | hk2
      all_goals
        go_wp2
        all_goals go_ret
        all_goals obtain ⟨qa, cap, rfl, ho⟩ := own_row O.out
        all_goals exact ⟨WW.out, .inr ⟨HP.out, _, b, rfl, R.out, qa, _, cap, rfl⟩⟩
theorem list_ne' {a b : ByteArray} (h : ¬ a = b) : (a.toList == b.toList) = false := by
  rw [ByteArray.toList_eq, ByteArray.toList_eq]
  apply beq_false_of_ne
  intro e
  apply h
  apply ByteArray.ext
  exact Array.toList_inj.1 e
theorem toList_ne {a : ByteArray} (h : a.size ≠ 0) : ¬ a.toList = [] := fun e => by
  rw [ByteArray.toList_eq] at e
  have h1 := congrArg List.length e
  rw [Array.length_toList] at h1
  exact h h1
end Go.Proofs.YtiaoifodaoifjaaGreat.Mk
