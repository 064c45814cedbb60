/- Parts of a law: SeenReadS. Conditions: on sizes, as each says. -/
import Derived.Test.YtiaoifodaoifjaaDoorZ1
import Derived.Deep.RegionHeld3
import Derived.OwnWalk
import Derived.Test.YtiaoifodaoifjaaDoorZ2
import Derived.Test.YtiaoifodaoifjaaDoorZ16
import Derived.Test.YtiaoifodaoifjaaDoorZ11
set_option linter.unusedSimpArgs false
set_option linter.unusedVariables false
namespace Go.Proofs.YtiaoifodaoifjaaDoor.Mk
open Go.RowKit Ge
structure Rd (w : World) (g : Nat) (s : ByteArray) (a : Int) (b : Bool) : Prop where
  c0 : w.cell? ⟨g, 0, none⟩ = some (.string s)
  c1 : w.cell? ⟨g, 1, none⟩ = some (.int .i64 a)
  c2 : w.cell? ⟨g, 2, none⟩ = some (.bool b)
  f1 : w.frozen? ⟨g, 1, none⟩ = false
  f2 : w.frozen? ⟨g, 2, none⟩ = false
  lt : g < w.heap.size
theorem Rd.same {w w' : World} {g : Nat} {s : ByteArray} {a : Int} {b : Bool} (h : Rd w g s a b) (hs : w'.heap[g]? = w.heap[g]?) (hz : w.heap.size ≤ w'.heap.size) : Rd w' g s a b :=
  ⟨(World.cell?_of_block (a := ⟨g, 0, none⟩) hs).trans h.c0, (World.cell?_of_block (a := ⟨g, 1, none⟩) hs).trans h.c1, (World.cell?_of_block (a := ⟨g, 2, none⟩) hs).trans h.c2,
    (World.frozen?_of_block (a := ⟨g, 1, none⟩) hs).trans h.f1, (World.frozen?_of_block (a := ⟨g, 2, none⟩) hs).trans h.f2, Nat.lt_of_lt_of_le h.lt hz⟩
theorem Rd.below {w w' : World} {g : Nat} {s : ByteArray} {a : Int} {b : Bool} (h : Rd w g s a b) (hb : Below w.heap.size w w') : Rd w' g s a b := h.same (hb.block g h.lt) hb.size
theorem Rd.within {w w' : World} {lo hi g : Nat} {s : ByteArray} {a : Int} {b : Bool} (h : Rd w g s a b) (hw : Within lo hi w w') (ha : g < lo ∨ hi ≤ g) : Rd w' g s a b := h.same (hw.block g h.lt ha) hw.size
theorem Rd.setAt {w : World} {g : Nat} {s : ByteArray} {a : Int} {b : Bool} (h : Rd w g s a b) (x : Int) : Rd (w.setCell ⟨g, 1, none⟩ (.int .i64 x)) g s x b :=
  ⟨by rw [World.cell?_setCell_other _ _ _ _ (ne_off (by omega))]; exact h.c0, World.cell?_setCell_same _ _ _ h.c1, by rw [World.cell?_setCell_other _ _ _ _ (ne_off (by omega))]; exact h.c2,
    by rw [World.frozen?_setCell]; exact h.f1, by rw [World.frozen?_setCell]; exact h.f2, by simpa [World.setCell] using h.lt⟩
theorem Rd.setBad {w : World} {g : Nat} {s : ByteArray} {a : Int} {b : Bool} (h : Rd w g s a b) (x : Bool) : Rd (w.setCell ⟨g, 2, none⟩ (.bool x)) g s a x :=
  ⟨by rw [World.cell?_setCell_other _ _ _ _ (ne_off (by omega))]; exact h.c0, by rw [World.cell?_setCell_other _ _ _ _ (ne_off (by omega))]; exact h.c1, World.cell?_setCell_same _ _ _ h.c2,
    by rw [World.frozen?_setCell]; exact h.f1, by rw [World.frozen?_setCell]; exact h.f2, by simpa [World.setCell] using h.lt⟩
theorem Rd.new (w : World) (s : ByteArray) (t : TypeId) : Rd (w.alloc (.cells #[.string s, .int .i64 0, .bool false] t)) w.heap.size s 0 false :=
  ⟨by rw [World.cell?_alloc_mark]; rfl, by rw [World.cell?_alloc_mark]; rfl, by rw [World.cell?_alloc_mark]; rfl, by rw [World.frozen?_alloc_mark]; simp, by rw [World.frozen?_alloc_mark]; simp, by simp⟩
theorem getN_small {s : ByteArray} (h : s.size ≤ 8000) (a : Int) : getN s a = readN s a := if_neg (by omega)
def Reads (w : World) (g : Nat) (s : ByteArray) (n a : Int) (b : Bool) (e : Ending) (w' : World) : Prop := e = .returned (.int .i64 n) ∧ Rd w' g s a b ∧ Within g (g + 1) w w'
theorem within_of {w w' : World} {g : Nat} (h : Base w w') : Within g (g + 1) w w' := ⟨Below.os h, Below.tape h, Below.output h, Below.size h, fun k hk _ => Below.block h k hk⟩
set_option maxRecDepth 100000 in
set_option maxHeartbeats 2000000 in
theorem num_ok (g : Nat) (s : ByteArray) (a n a1 : Int) (w : World) (hs : s.size ≤ 8000) (hn : readN s a = (n, a1, 0)) (h : Rd w g s a false) :
    Calls Tryd.prog 78 #[.pointer (some ⟨g, 0, none⟩)] w (Reads w g s n a1 false) := by
  have HN := jj (show getN s a = (n, a1, 0) by rw [getN_small hs]; exact hn)
  have R := jj h
  have hg := h.lt
  have D := jj (show Base w w from Below.refl _ _)
  clear h hn
  go_enter Tryd.func78, Tryd.ntmps78
  go_wp2_with fail
  have hb := step_drew w
  replace R := jj (R.out.below hb)
  replace D := jj (D.out.below hb)
  clear hb
  refine wp_region_held_drew (S := (fun w' => w'.cell? ⟨g, 0, none⟩ = some (.string s) ∧ w'.cell? ⟨g, 1, none⟩ = some (.int .i64 a))) (by kernel_rfl) (by exact ⟨R.out.c0, R.out.c1⟩) (fun hHeld => ?_)
  have Zd : w.heap.size ≤ w.drew.heap.size := Nat.le_refl _
  generalize w.drew = wd at Zd hHeld R D ⊢
  refine tk 0 (v := ?_) ?_
  try walk_nrm
  refine tk 1 (v := ?_) ?_
  try walk_nrm
  refine tk 2 (v := ?_) ?_
  try walk_nrm
  refine tk 3 (v := ?_) ?_
  try walk_nrm
  refine tk 4 (v := ?_) ?_
  try walk_nrm
  refine tk 5 (v := ?_) ?_
  try walk_nrm
  refine tk 6 (v := ?_) ?_
  try walk_nrm
  refine tk 7 (v := ?_) ?_
  try walk_nrm
  refine wpAnyH_ready (rs := [8, 9]) (by kernel_rfl) (by simp) ?_
  refine AllReadyH.cons rfl (fun K hK => ?_) ?_
  · go_simp
    go_at_call 76
    refine (spec_GetNum s (by unfold maxLen; omega) a _).mono ?_
    rintro e wc8 ⟨rfl, hb⟩
    rw [HN.out]
    unfold nout
    simp only
    replace R := jj (R.out.below hb)
    replace D := jj (D.out.below hb)
    have Zc0 := hb.size
    clear hb
    go_wp2_with fail
    refine hK.out _ _ (by exact ⟨R.out.c0, R.out.c1⟩) (fun hHeld => ?_)
    clear hK K
    try walk_nrm
    refine rd 9 (fun K hK => ?_)
    go_simp
    have hb := step_alloc wc8 (.cells #[.int .i64 0, .int .i64 0, .int .i64 0] 126)
    replace R := jj (R.out.below hb)
    replace D := jj (D.out.below hb)
    clear hb
    have NV := jj (New3.new wc8 (.int .i64 0) (.int .i64 0) (.int .i64 0) 126)
    have Za : wc8.heap.size < (wc8.alloc (.cells #[.int .i64 0, .int .i64 0, .int .i64 0] 126)).heap.size := by simp
    obtain ⟨gb, hgb⟩ : ∃ gb, gb = wc8.heap.size := ⟨_, rfl⟩
    have Qa : wc8.heap.size ≤ gb := by omega
    have Qb : gb < (wc8.alloc (.cells #[.int .i64 0, .int .i64 0, .int .i64 0] 126)).heap.size := by omega
    rw [← hgb] at NV ⊢
    clear hgb
    generalize wc8.alloc (.cells #[.int .i64 0, .int .i64 0, .int .i64 0] 126) = wa at NV Za Qb R D ⊢
    refine hK.out _ _ (by exact ⟨R.out.c0, R.out.c1⟩) (fun hHeld => ?_)
    clear hK K
    try walk_nrm
    obtain ⟨nv0, nv1, nv2, nf0, nf1, nf2, nl⟩ := NV.out
    refine rd 10 (fun K hK => ?_)
    go_simp
    have hw := (((Within.refl gb (gb + 1) wa).setCell (p := ⟨gb, 0, none⟩) (Nat.le_refl _) (Nat.lt_succ_self _) (.int .i64 (n))).setCell (p := ⟨gb, 1, none⟩) (Nat.le_refl _) (Nat.lt_succ_self _) (.int .i64 (a1))).setCell (p := ⟨gb, 2, none⟩) (Nat.le_refl _) (Nat.lt_succ_self _) (.int .i64 (0))
    have V := jj (NV.out.store (.int .i64 (n)) (.int .i64 (a1)) (.int .i64 (0)))
    replace R := jj (R.out.within hw (by omega))
    replace D := jj (D.out.within hw (by omega))
    have Zs : wa.heap.size ≤ (World.setCell (World.setCell (World.setCell wa ⟨gb, 0, none⟩ (.int .i64 (n))) ⟨gb, 1, none⟩ (.int .i64 (a1))) ⟨gb, 2, none⟩ (.int .i64 (0))).heap.size := hw.size
    clear hw NV nv0 nv1 nv2 nf0 nf1 nf2 nl
    generalize (World.setCell (World.setCell (World.setCell wa ⟨gb, 0, none⟩ (.int .i64 (n))) ⟨gb, 1, none⟩ (.int .i64 (a1))) ⟨gb, 2, none⟩ (.int .i64 (0))) = wz at V Zs R D ⊢
    refine hK.out _ _ (by exact ⟨R.out.c0, R.out.c1⟩) (fun hHeld => ?_)
    clear hK K
    try walk_nrm
    refine rx ?_
    obtain ⟨v0, v1, v2, vl⟩ := V.out
    obtain ⟨r0, r1, r2, rf1, rf2, rl⟩ := R.out
    go_wp2
    go_ret
    exact ⟨rfl, R.out.setAt a1, (within_of D.out).setCell (p := ⟨g, 1, none⟩) (Nat.le_refl _) (Nat.lt_succ_self _) _⟩
  refine AllReadyH.cons rfl (fun K hK => ?_) AllReadyH.nil
  go_simp
  have hb := step_alloc wd (.cells #[.int .i64 0, .int .i64 0, .int .i64 0] 126)
  replace R := jj (R.out.below hb)
  replace D := jj (D.out.below hb)
  clear hb
  have NV := jj (New3.new wd (.int .i64 0) (.int .i64 0) (.int .i64 0) 126)
  have Za : wd.heap.size < (wd.alloc (.cells #[.int .i64 0, .int .i64 0, .int .i64 0] 126)).heap.size := by simp
  obtain ⟨gb, hgb⟩ : ∃ gb, gb = wd.heap.size := ⟨_, rfl⟩
  have Qa : wd.heap.size ≤ gb := by omega
  have Qb : gb < (wd.alloc (.cells #[.int .i64 0, .int .i64 0, .int .i64 0] 126)).heap.size := by omega
  rw [← hgb] at NV ⊢
  clear hgb
  generalize wd.alloc (.cells #[.int .i64 0, .int .i64 0, .int .i64 0] 126) = wa at NV Za Qb R D ⊢
  refine hK.out _ _ (by exact ⟨R.out.c0, R.out.c1⟩) (fun hHeld => ?_)
  clear hK K
  try walk_nrm
  refine rd 8 (fun K hK => ?_)
  go_simp
  go_at_call 76
  refine (spec_GetNum s (by unfold maxLen; omega) a _).mono ?_
  rintro e wc8 ⟨rfl, hb⟩
  rw [HN.out]
  unfold nout
  simp only
  replace R := jj (R.out.below hb)
  replace D := jj (D.out.below hb)
  replace NV := jj (NV.out.below hb)
  have Zc0 := hb.size
  clear hb
  go_wp2_with fail
  refine hK.out _ _ (by exact ⟨R.out.c0, R.out.c1⟩) (fun hHeld => ?_)
  clear hK K
  try walk_nrm
  obtain ⟨nv0, nv1, nv2, nf0, nf1, nf2, nl⟩ := NV.out
  refine rd 10 (fun K hK => ?_)
  go_simp
  have hw := (((Within.refl gb (gb + 1) wc8).setCell (p := ⟨gb, 0, none⟩) (Nat.le_refl _) (Nat.lt_succ_self _) (.int .i64 (n))).setCell (p := ⟨gb, 1, none⟩) (Nat.le_refl _) (Nat.lt_succ_self _) (.int .i64 (a1))).setCell (p := ⟨gb, 2, none⟩) (Nat.le_refl _) (Nat.lt_succ_self _) (.int .i64 (0))
  have V := jj (NV.out.store (.int .i64 (n)) (.int .i64 (a1)) (.int .i64 (0)))
  replace R := jj (R.out.within hw (by omega))
  replace D := jj (D.out.within hw (by omega))
  have Zs : wc8.heap.size ≤ (World.setCell (World.setCell (World.setCell wc8 ⟨gb, 0, none⟩ (.int .i64 (n))) ⟨gb, 1, none⟩ (.int .i64 (a1))) ⟨gb, 2, none⟩ (.int .i64 (0))).heap.size := hw.size
  clear hw NV nv0 nv1 nv2 nf0 nf1 nf2 nl
  generalize (World.setCell (World.setCell (World.setCell wc8 ⟨gb, 0, none⟩ (.int .i64 (n))) ⟨gb, 1, none⟩ (.int .i64 (a1))) ⟨gb, 2, none⟩ (.int .i64 (0))) = wz at V Zs R D ⊢
  refine hK.out _ _ (by exact ⟨R.out.c0, R.out.c1⟩) (fun hHeld => ?_)
  clear hK K
  try walk_nrm
  refine rx ?_
  obtain ⟨v0, v1, v2, vl⟩ := V.out
  obtain ⟨r0, r1, r2, rf1, rf2, rl⟩ := R.out
  go_wp2
  go_ret
  exact ⟨rfl, R.out.setAt a1, (within_of D.out).setCell (p := ⟨g, 1, none⟩) (Nat.le_refl _) (Nat.lt_succ_self _) _⟩
set_option maxRecDepth 100000 in
set_option maxHeartbeats 2000000 in
theorem num_bad (g : Nat) (s : ByteArray) (a c : Int) (w : World) (hs : s.size ≤ 8000) (hc : c ≠ 0) (hn : readN s a = (0, 0, c)) (h : Rd w g s a false) :
    Calls Tryd.prog 78 #[.pointer (some ⟨g, 0, none⟩)] w (Reads w g s 0 a true) := by
  have HN := jj (show getN s a = (0, 0, c) by rw [getN_small hs]; exact hn)
  have R := jj h
  have hg := h.lt
  have D := jj (show Base w w from Below.refl _ _)
  clear h hn
  go_enter Tryd.func78, Tryd.ntmps78
  go_wp2_with fail
  have hb := step_drew w
  replace R := jj (R.out.below hb)
  replace D := jj (D.out.below hb)
  clear hb
  refine wp_region_held_drew (S := (fun w' => w'.cell? ⟨g, 0, none⟩ = some (.string s) ∧ w'.cell? ⟨g, 1, none⟩ = some (.int .i64 a))) (by kernel_rfl) (by exact ⟨R.out.c0, R.out.c1⟩) (fun hHeld => ?_)
  have Zd : w.heap.size ≤ w.drew.heap.size := Nat.le_refl _
  generalize w.drew = wd at Zd hHeld R D ⊢
  refine tk 0 (v := ?_) ?_
  try walk_nrm
  refine tk 1 (v := ?_) ?_
  try walk_nrm
  refine tk 2 (v := ?_) ?_
  try walk_nrm
  refine tk 3 (v := ?_) ?_
  try walk_nrm
  refine tk 4 (v := ?_) ?_
  try walk_nrm
  refine tk 5 (v := ?_) ?_
  try walk_nrm
  refine tk 6 (v := ?_) ?_
  try walk_nrm
  refine tk 7 (v := ?_) ?_
  try walk_nrm
  refine wpAnyH_ready (rs := [8, 9]) (by kernel_rfl) (by simp) ?_
  refine AllReadyH.cons rfl (fun K hK => ?_) ?_
  · go_simp
    go_at_call 76
    refine (spec_GetNum s (by unfold maxLen; omega) a _).mono ?_
    rintro e wc8 ⟨rfl, hb⟩
    rw [HN.out]
    unfold nout
    simp only
    replace R := jj (R.out.below hb)
    replace D := jj (D.out.below hb)
    have Zc0 := hb.size
    clear hb
    go_wp2_with fail
    refine hK.out _ _ (by exact ⟨R.out.c0, R.out.c1⟩) (fun hHeld => ?_)
    clear hK K
    try walk_nrm
    refine rd 9 (fun K hK => ?_)
    go_simp
    have hb := step_alloc wc8 (.cells #[.int .i64 0, .int .i64 0, .int .i64 0] 126)
    replace R := jj (R.out.below hb)
    replace D := jj (D.out.below hb)
    clear hb
    have NV := jj (New3.new wc8 (.int .i64 0) (.int .i64 0) (.int .i64 0) 126)
    have Za : wc8.heap.size < (wc8.alloc (.cells #[.int .i64 0, .int .i64 0, .int .i64 0] 126)).heap.size := by simp
    obtain ⟨gb, hgb⟩ : ∃ gb, gb = wc8.heap.size := ⟨_, rfl⟩
    have Qa : wc8.heap.size ≤ gb := by omega
    have Qb : gb < (wc8.alloc (.cells #[.int .i64 0, .int .i64 0, .int .i64 0] 126)).heap.size := by omega
    rw [← hgb] at NV ⊢
    clear hgb
    generalize wc8.alloc (.cells #[.int .i64 0, .int .i64 0, .int .i64 0] 126) = wa at NV Za Qb R D ⊢
    refine hK.out _ _ (by exact ⟨R.out.c0, R.out.c1⟩) (fun hHeld => ?_)
    clear hK K
    try walk_nrm
    obtain ⟨nv0, nv1, nv2, nf0, nf1, nf2, nl⟩ := NV.out
    refine rd 10 (fun K hK => ?_)
    go_simp
    have hw := (((Within.refl gb (gb + 1) wa).setCell (p := ⟨gb, 0, none⟩) (Nat.le_refl _) (Nat.lt_succ_self _) (.int .i64 (0))).setCell (p := ⟨gb, 1, none⟩) (Nat.le_refl _) (Nat.lt_succ_self _) (.int .i64 (0))).setCell (p := ⟨gb, 2, none⟩) (Nat.le_refl _) (Nat.lt_succ_self _) (.int .i64 (c))
    have V := jj (NV.out.store (.int .i64 (0)) (.int .i64 (0)) (.int .i64 (c)))
    replace R := jj (R.out.within hw (by omega))
    replace D := jj (D.out.within hw (by omega))
    have Zs : wa.heap.size ≤ (World.setCell (World.setCell (World.setCell wa ⟨gb, 0, none⟩ (.int .i64 (0))) ⟨gb, 1, none⟩ (.int .i64 (0))) ⟨gb, 2, none⟩ (.int .i64 (c))).heap.size := hw.size
    clear hw NV nv0 nv1 nv2 nf0 nf1 nf2 nl
    generalize (World.setCell (World.setCell (World.setCell wa ⟨gb, 0, none⟩ (.int .i64 (0))) ⟨gb, 1, none⟩ (.int .i64 (0))) ⟨gb, 2, none⟩ (.int .i64 (c))) = wz at V Zs R D ⊢
    refine hK.out _ _ (by exact ⟨R.out.c0, R.out.c1⟩) (fun hHeld => ?_)
    clear hK K
    try walk_nrm
    refine rx ?_
    obtain ⟨v0, v1, v2, vl⟩ := V.out
    obtain ⟨r0, r1, r2, rf1, rf2, rl⟩ := R.out
    have hc1 : (c == 0) = false := by simpa using hc
    have hc2 : (c != 0) = true := by simpa using hc
    go_wp2
    go_ret
    exact ⟨rfl, R.out.setBad true, (within_of D.out).setCell (p := ⟨g, 2, none⟩) (Nat.le_refl _) (Nat.lt_succ_self _) _⟩
  refine AllReadyH.cons rfl (fun K hK => ?_) AllReadyH.nil
  go_simp
  have hb := step_alloc wd (.cells #[.int .i64 0, .int .i64 0, .int .i64 0] 126)
  replace R := jj (R.out.below hb)
  replace D := jj (D.out.below hb)
  clear hb
  have NV := jj (New3.new wd (.int .i64 0) (.int .i64 0) (.int .i64 0) 126)
  have Za : wd.heap.size < (wd.alloc (.cells #[.int .i64 0, .int .i64 0, .int .i64 0] 126)).heap.size := by simp
  obtain ⟨gb, hgb⟩ : ∃ gb, gb = wd.heap.size := ⟨_, rfl⟩
  have Qa : wd.heap.size ≤ gb := by omega
  have Qb : gb < (wd.alloc (.cells #[.int .i64 0, .int .i64 0, .int .i64 0] 126)).heap.size := by omega
  rw [← hgb] at NV ⊢
  clear hgb
  generalize wd.alloc (.cells #[.int .i64 0, .int .i64 0, .int .i64 0] 126) = wa at NV Za Qb R D ⊢
  refine hK.out _ _ (by exact ⟨R.out.c0, R.out.c1⟩) (fun hHeld => ?_)
  clear hK K
  try walk_nrm
  refine rd 8 (fun K hK => ?_)
  go_simp
  go_at_call 76
  refine (spec_GetNum s (by unfold maxLen; omega) a _).mono ?_
  rintro e wc8 ⟨rfl, hb⟩
  rw [HN.out]
  unfold nout
  simp only
  replace R := jj (R.out.below hb)
  replace D := jj (D.out.below hb)
  replace NV := jj (NV.out.below hb)
  have Zc0 := hb.size
  clear hb
  go_wp2_with fail
  refine hK.out _ _ (by exact ⟨R.out.c0, R.out.c1⟩) (fun hHeld => ?_)
  clear hK K
  try walk_nrm
  obtain ⟨nv0, nv1, nv2, nf0, nf1, nf2, nl⟩ := NV.out
  refine rd 10 (fun K hK => ?_)
  go_simp
  have hw := (((Within.refl gb (gb + 1) wc8).setCell (p := ⟨gb, 0, none⟩) (Nat.le_refl _) (Nat.lt_succ_self _) (.int .i64 (0))).setCell (p := ⟨gb, 1, none⟩) (Nat.le_refl _) (Nat.lt_succ_self _) (.int .i64 (0))).setCell (p := ⟨gb, 2, none⟩) (Nat.le_refl _) (Nat.lt_succ_self _) (.int .i64 (c))
  have V := jj (NV.out.store (.int .i64 (0)) (.int .i64 (0)) (.int .i64 (c)))
  replace R := jj (R.out.within hw (by omega))
  replace D := jj (D.out.within hw (by omega))
  have Zs : wc8.heap.size ≤ (World.setCell (World.setCell (World.setCell wc8 ⟨gb, 0, none⟩ (.int .i64 (0))) ⟨gb, 1, none⟩ (.int .i64 (0))) ⟨gb, 2, none⟩ (.int .i64 (c))).heap.size := hw.size
  clear hw NV nv0 nv1 nv2 nf0 nf1 nf2 nl
  generalize (World.setCell (World.setCell (World.setCell wc8 ⟨gb, 0, none⟩ (.int .i64 (0))) ⟨gb, 1, none⟩ (.int .i64 (0))) ⟨gb, 2, none⟩ (.int .i64 (c))) = wz at V Zs R D ⊢
  refine hK.out _ _ (by exact ⟨R.out.c0, R.out.c1⟩) (fun hHeld => ?_)
  clear hK K
  try walk_nrm
  refine rx ?_
  obtain ⟨v0, v1, v2, vl⟩ := V.out
  obtain ⟨r0, r1, r2, rf1, rf2, rl⟩ := R.out
  have hc1 : (c == 0) = false := by simpa using hc
  have hc2 : (c != 0) = true := by simpa using hc
  go_wp2
  go_ret
  exact ⟨rfl, R.out.setBad true, (within_of D.out).setCell (p := ⟨g, 2, none⟩) (Nat.le_refl _) (Nat.lt_succ_self _) _⟩
set_option maxRecDepth 100000 in
set_option maxHeartbeats 2000000 in
theorem num_was (g : Nat) (s : ByteArray) (a n a1 c : Int) (w : World) (hs : s.size ≤ 8000) (hn : readN s a = (n, a1, c)) (h : Rd w g s a true) :
    Calls Tryd.prog 78 #[.pointer (some ⟨g, 0, none⟩)] w (Reads w g s 0 a true) := by
  have HN := jj (show getN s a = (n, a1, c) by rw [getN_small hs]; exact hn)
  have R := jj h
  have hg := h.lt
  have D := jj (show Base w w from Below.refl _ _)
  clear h hn
  go_enter Tryd.func78, Tryd.ntmps78
  go_wp2_with fail
  have hb := step_drew w
  replace R := jj (R.out.below hb)
  replace D := jj (D.out.below hb)
  clear hb
  refine wp_region_held_drew (S := (fun w' => w'.cell? ⟨g, 0, none⟩ = some (.string s) ∧ w'.cell? ⟨g, 1, none⟩ = some (.int .i64 a))) (by kernel_rfl) (by exact ⟨R.out.c0, R.out.c1⟩) (fun hHeld => ?_)
  have Zd : w.heap.size ≤ w.drew.heap.size := Nat.le_refl _
  generalize w.drew = wd at Zd hHeld R D ⊢
  refine tk 0 (v := ?_) ?_
  try walk_nrm
  refine tk 1 (v := ?_) ?_
  try walk_nrm
  refine tk 2 (v := ?_) ?_
  try walk_nrm
  refine tk 3 (v := ?_) ?_
  try walk_nrm
  refine tk 4 (v := ?_) ?_
  try walk_nrm
  refine tk 5 (v := ?_) ?_
  try walk_nrm
  refine tk 6 (v := ?_) ?_
  try walk_nrm
  refine tk 7 (v := ?_) ?_
  try walk_nrm
  refine wpAnyH_ready (rs := [8, 9]) (by kernel_rfl) (by simp) ?_
  refine AllReadyH.cons rfl (fun K hK => ?_) ?_
  · go_simp
    go_at_call 76
    refine (spec_GetNum s (by unfold maxLen; omega) a _).mono ?_
    rintro e wc8 ⟨rfl, hb⟩
    rw [HN.out]
    unfold nout
    simp only
    replace R := jj (R.out.below hb)
    replace D := jj (D.out.below hb)
    have Zc0 := hb.size
    clear hb
    go_wp2_with fail
    refine hK.out _ _ (by exact ⟨R.out.c0, R.out.c1⟩) (fun hHeld => ?_)
    clear hK K
    try walk_nrm
    refine rd 9 (fun K hK => ?_)
    go_simp
    have hb := step_alloc wc8 (.cells #[.int .i64 0, .int .i64 0, .int .i64 0] 126)
    replace R := jj (R.out.below hb)
    replace D := jj (D.out.below hb)
    clear hb
    have NV := jj (New3.new wc8 (.int .i64 0) (.int .i64 0) (.int .i64 0) 126)
    have Za : wc8.heap.size < (wc8.alloc (.cells #[.int .i64 0, .int .i64 0, .int .i64 0] 126)).heap.size := by simp
    obtain ⟨gb, hgb⟩ : ∃ gb, gb = wc8.heap.size := ⟨_, rfl⟩
    have Qa : wc8.heap.size ≤ gb := by omega
    have Qb : gb < (wc8.alloc (.cells #[.int .i64 0, .int .i64 0, .int .i64 0] 126)).heap.size := by omega
    rw [← hgb] at NV ⊢
    clear hgb
    generalize wc8.alloc (.cells #[.int .i64 0, .int .i64 0, .int .i64 0] 126) = wa at NV Za Qb R D ⊢
    refine hK.out _ _ (by exact ⟨R.out.c0, R.out.c1⟩) (fun hHeld => ?_)
    clear hK K
    try walk_nrm
    obtain ⟨nv0, nv1, nv2, nf0, nf1, nf2, nl⟩ := NV.out
    refine rd 10 (fun K hK => ?_)
    go_simp
    have hw := (((Within.refl gb (gb + 1) wa).setCell (p := ⟨gb, 0, none⟩) (Nat.le_refl _) (Nat.lt_succ_self _) (.int .i64 (n))).setCell (p := ⟨gb, 1, none⟩) (Nat.le_refl _) (Nat.lt_succ_self _) (.int .i64 (a1))).setCell (p := ⟨gb, 2, none⟩) (Nat.le_refl _) (Nat.lt_succ_self _) (.int .i64 (c))
    have V := jj (NV.out.store (.int .i64 (n)) (.int .i64 (a1)) (.int .i64 (c)))
    replace R := jj (R.out.within hw (by omega))
    replace D := jj (D.out.within hw (by omega))
    have Zs : wa.heap.size ≤ (World.setCell (World.setCell (World.setCell wa ⟨gb, 0, none⟩ (.int .i64 (n))) ⟨gb, 1, none⟩ (.int .i64 (a1))) ⟨gb, 2, none⟩ (.int .i64 (c))).heap.size := hw.size
    clear hw NV nv0 nv1 nv2 nf0 nf1 nf2 nl
    generalize (World.setCell (World.setCell (World.setCell wa ⟨gb, 0, none⟩ (.int .i64 (n))) ⟨gb, 1, none⟩ (.int .i64 (a1))) ⟨gb, 2, none⟩ (.int .i64 (c))) = wz at V Zs R D ⊢
    refine hK.out _ _ (by exact ⟨R.out.c0, R.out.c1⟩) (fun hHeld => ?_)
    clear hK K
    try walk_nrm
    refine rx ?_
    obtain ⟨v0, v1, v2, vl⟩ := V.out
    obtain ⟨r0, r1, r2, rf1, rf2, rl⟩ := R.out
    go_wp2
    go_ret
    exact ⟨rfl, R.out.setBad true, (within_of D.out).setCell (p := ⟨g, 2, none⟩) (Nat.le_refl _) (Nat.lt_succ_self _) _⟩
  refine AllReadyH.cons rfl (fun K hK => ?_) AllReadyH.nil
  go_simp
  have hb := step_alloc wd (.cells #[.int .i64 0, .int .i64 0, .int .i64 0] 126)
  replace R := jj (R.out.below hb)
  replace D := jj (D.out.below hb)
  clear hb
  have NV := jj (New3.new wd (.int .i64 0) (.int .i64 0) (.int .i64 0) 126)
  have Za : wd.heap.size < (wd.alloc (.cells #[.int .i64 0, .int .i64 0, .int .i64 0] 126)).heap.size := by simp
  obtain ⟨gb, hgb⟩ : ∃ gb, gb = wd.heap.size := ⟨_, rfl⟩
  have Qa : wd.heap.size ≤ gb := by omega
  have Qb : gb < (wd.alloc (.cells #[.int .i64 0, .int .i64 0, .int .i64 0] 126)).heap.size := by omega
  rw [← hgb] at NV ⊢
  clear hgb
  generalize wd.alloc (.cells #[.int .i64 0, .int .i64 0, .int .i64 0] 126) = wa at NV Za Qb R D ⊢
  refine hK.out _ _ (by exact ⟨R.out.c0, R.out.c1⟩) (fun hHeld => ?_)
  clear hK K
  try walk_nrm
  refine rd 8 (fun K hK => ?_)
  go_simp
  go_at_call 76
  refine (spec_GetNum s (by unfold maxLen; omega) a _).mono ?_
  rintro e wc8 ⟨rfl, hb⟩
  rw [HN.out]
  unfold nout
  simp only
  replace R := jj (R.out.below hb)
  replace D := jj (D.out.below hb)
  replace NV := jj (NV.out.below hb)
  have Zc0 := hb.size
  clear hb
  go_wp2_with fail
  refine hK.out _ _ (by exact ⟨R.out.c0, R.out.c1⟩) (fun hHeld => ?_)
  clear hK K
  try walk_nrm
  obtain ⟨nv0, nv1, nv2, nf0, nf1, nf2, nl⟩ := NV.out
  refine rd 10 (fun K hK => ?_)
  go_simp
  have hw := (((Within.refl gb (gb + 1) wc8).setCell (p := ⟨gb, 0, none⟩) (Nat.le_refl _) (Nat.lt_succ_self _) (.int .i64 (n))).setCell (p := ⟨gb, 1, none⟩) (Nat.le_refl _) (Nat.lt_succ_self _) (.int .i64 (a1))).setCell (p := ⟨gb, 2, none⟩) (Nat.le_refl _) (Nat.lt_succ_self _) (.int .i64 (c))
  have V := jj (NV.out.store (.int .i64 (n)) (.int .i64 (a1)) (.int .i64 (c)))
  replace R := jj (R.out.within hw (by omega))
  replace D := jj (D.out.within hw (by omega))
  have Zs : wc8.heap.size ≤ (World.setCell (World.setCell (World.setCell wc8 ⟨gb, 0, none⟩ (.int .i64 (n))) ⟨gb, 1, none⟩ (.int .i64 (a1))) ⟨gb, 2, none⟩ (.int .i64 (c))).heap.size := hw.size
  clear hw NV nv0 nv1 nv2 nf0 nf1 nf2 nl
  generalize (World.setCell (World.setCell (World.setCell wc8 ⟨gb, 0, none⟩ (.int .i64 (n))) ⟨gb, 1, none⟩ (.int .i64 (a1))) ⟨gb, 2, none⟩ (.int .i64 (c))) = wz at V Zs R D ⊢
  refine hK.out _ _ (by exact ⟨R.out.c0, R.out.c1⟩) (fun hHeld => ?_)
  clear hK K
  try walk_nrm
  refine rx ?_
  obtain ⟨v0, v1, v2, vl⟩ := V.out
  obtain ⟨r0, r1, r2, rf1, rf2, rl⟩ := R.out
  go_wp2
  go_ret
  exact ⟨rfl, R.out.setBad true, (within_of D.out).setCell (p := ⟨g, 2, none⟩) (Nat.le_refl _) (Nat.lt_succ_self _) _⟩
set_option maxRecDepth 100000 in
theorem many_ok (g : Nat) (s : ByteArray) (a n a1 most : Int) (w : World) (hs : s.size ≤ 8000) (hn : readN s a = (n, a1, 0)) (h0 : 0 ≤ n) (h1 : n ≤ most) (h : Rd w g s a false) :
    Calls Tryd.prog 77 #[.pointer (some ⟨g, 0, none⟩), .int .i64 most] w (Reads w g s n a1 false) := by
  have HC := jj (num_ok g s a n a1 w hs hn h)
  have hi : isB n 0 most = true := by unfold isB; simp; omega
  clear h hn
  go_enter Tryd.func77, Tryd.ntmps77
  go_wp2_with fail
  refine HC.out.mono ?_
  rintro e w1 ⟨rfl, hR, hW⟩
  go_wp2_with (go_at_call 64; refine (spec_is _ _ _ _).mono ?_; rintro e w' ⟨rfl, rfl⟩)
  go_ret
  exact ⟨rfl, hR, hW⟩
set_option maxRecDepth 100000 in
theorem many_bad (g : Nat) (s : ByteArray) (a c most : Int) (w : World) (hs : s.size ≤ 8000) (hm : 0 ≤ most) (hc : c ≠ 0) (hn : readN s a = (0, 0, c)) (h : Rd w g s a false) :
    Calls Tryd.prog 77 #[.pointer (some ⟨g, 0, none⟩), .int .i64 most] w (Reads w g s 0 a true) := by
  have HC := jj (num_bad g s a c w hs hc hn h)
  have hi : isB 0 0 most = true := by unfold isB; simp; omega
  clear h hn
  go_enter Tryd.func77, Tryd.ntmps77
  go_wp2_with fail
  refine HC.out.mono ?_
  rintro e w1 ⟨rfl, hR, hW⟩
  go_wp2_with (go_at_call 64; refine (spec_is _ _ _ _).mono ?_; rintro e w' ⟨rfl, rfl⟩)
  go_ret
  exact ⟨rfl, hR, hW⟩
set_option maxRecDepth 100000 in
theorem many_range (g : Nat) (s : ByteArray) (a n a1 most : Int) (w : World) (hs : s.size ≤ 8000) (hn : readN s a = (n, a1, 0)) (h0 : ¬ (0 ≤ n ∧ n ≤ most)) (h : Rd w g s a false) :
    Calls Tryd.prog 77 #[.pointer (some ⟨g, 0, none⟩), .int .i64 most] w (Reads w g s 0 a1 true) := by
  have HC := jj (num_ok g s a n a1 w hs hn h)
  have hi : isB n 0 most = false := by
    unfold isB
    by_cases h2 : 0 ≤ n
    · simp; omega
    · simp; omega
  clear h hn
  go_enter Tryd.func77, Tryd.ntmps77
  go_wp2_with fail
  refine HC.out.mono ?_
  rintro e w1 ⟨rfl, hR, hW⟩
  have R := jj hR
  obtain ⟨r0, r1, r2, rf1, rf2, rl⟩ := hR
  go_wp2_with (go_at_call 64; refine (spec_is _ _ _ _).mono ?_; rintro e w' ⟨rfl, rfl⟩)
  go_ret
  exact ⟨rfl, R.out.setBad true, hW.setCell (p := ⟨g, 2, none⟩) (Nat.le_refl _) (Nat.lt_succ_self _) _⟩
def Far (w : World) (g : Nat) (s : ByteArray) (o : Option (List (Int × Int) × Int)) (l : List (Int × Int)) (j : Nat) : Prop :=
  ∃ b, (Rd w g s b false ∧ o = addL l (readMarks s j b)) ∨ (Rd w g s b true ∧ o = none)
def Seens (w : World) (g : Nat) (s : ByteArray) (o : Option (List (Int × Int) × Int)) (e : Ending) (w' : World) : Prop :=
  Within g (g + 1) w w' ∧ ((∃ l at_ a cap, o = some (l, at_) ∧ e = .returned (.slice a (List.length l) cap) ∧ OwnIn w' w.heap.size w'.heap.size a l ∧ Rd w' g s at_ false) ∨ (o = none ∧ ∃ v a', e = .returned v ∧ Rd w' g s a' true ∧ ∃ qa n cap, v = .slice qa n cap))
def Round (w wr : World) (g : Nat) (s : ByteArray) (o : Option (List (Int × Int) × Int)) (l : List (Int × Int)) (j : Nat) (v : Value) : Prop :=
  wr.ownsRow w.heap.size 64 2 v l.length (flat l) ∧ Far wr g s o l j ∧ Within g (g + 1) w wr ∧ l.length + j ≤ 5
theorem size_setCell (w : World) (p : Addr) (u : Value) : (w.setCell p u).heap.size = w.heap.size := by simp [World.setCell]
set_option maxRecDepth 100000 in
set_option maxHeartbeats 4000000 in
theorem spec_seen (g : Nat) (s : ByteArray) (a : Int) (w : World) (hs : s.size ≤ 8000) (h : Rd w g s a false) :
    Calls Tryd.prog 59 #[.pointer (some ⟨g, 0, none⟩)] w (Seens w g s (parse s a)) := by
  have hg := h.lt
  have R := jj (h.below (step_alloc w (.cells #[] 64)))
  have O0 := jj (World.ownsRow_made (e := 64) (size := 2) w #[] 0 (Nat.le_refl _) (by unfold maxLen; omega) rfl)
  clear h
  -- the count
  have start : ∃ (n : Int) (a1 : Int) (b : Bool), Calls Tryd.prog 77 #[.pointer (some ⟨g, 0, none⟩), .int .i64 5] (w.alloc (.cells #[] 64)) (Reads (w.alloc (.cells #[] 64)) g s n a1 b) ∧
      ∃ j : Nat, n = j ∧ j ≤ 5 ∧ ((b = false ∧ parse s a = addL [] (readMarks s j a1)) ∨ (b = true ∧ parse s a = none)) := by
    by_cases hc : (readN s a).2.2 ≠ 0
    · obtain ⟨c, hc0, hr⟩ := readN_bad s a hc
      exact ⟨0, a, true, many_bad g s a c 5 _ hs (by omega) hc0 hr R.out, 0, rfl, by omega, .inr ⟨rfl, if_neg fun d => hc d.1⟩⟩
    obtain ⟨c, a1, z, hr⟩ : ∃ c a1 z, readN s a = (c, a1, z) := ⟨_, _, _, rfl⟩
    obtain rfl : z = 0 := by rw [hr] at hc; simpa using hc
    by_cases hrange : 0 ≤ c ∧ c ≤ 5
    · obtain ⟨n, rfl⟩ : ∃ n : Nat, c = n := ⟨c.toNat, by omega⟩
      refine ⟨n, a1, false, many_ok g s a n a1 5 _ hs hr (by omega) (by omega) R.out, n, rfl, by omega, .inl ⟨rfl, ?_⟩⟩
      rw [addL_nil]; unfold parse; rw [hr]; simp only; rw [if_pos ⟨trivial, hrange⟩]; simp
    · refine ⟨0, a1, true, many_range g s a c a1 5 _ hs hr hrange R.out, 0, rfl, by omega, .inr ⟨rfl, ?_⟩⟩
      unfold parse; rw [hr]; exact if_neg fun d => hrange d.2
  obtain ⟨n, a1, b, hcall, j, rfl, hj5, hfar⟩ := start
  have HC := jj hcall
  have HF := jj hfar
  clear hcall hfar
  go_enter Tryd.func59, Tryd.ntmps59
  go_wp2_with fail
  refine HC.out.mono ?_
  rintro e w1 ⟨rfl, hR1, hW1⟩
  have R1 := jj hR1
  have W1 := jj (show Within g (g + 1) w w1 from (within_of (step_alloc w (.cells #[] 64))).trans hW1)
  have O1 := jj (own_within O0.out hW1 (by omega))
  clear hR1 hW1
  go_wp2
  go_loopw [3, 4] (fun v i wr => ∃ (l : List (Int × Int)) (k : Nat), i = .int .i64 k ∧ Round w wr g s (parse s a) l k v) (fun _ i _ => (intOf i).toNat)
  case atStart =>
    refine ⟨[], j, rfl, O1.out, ⟨a1, ?_⟩, W1.out, by simpa using hj5⟩
    rcases HF.out with ⟨hb, hp⟩ | ⟨hb, hp⟩
    · exact .inl ⟨by rw [← hb]; exact R1.out, hp⟩
    · exact .inr ⟨by rw [← hb]; exact R1.out, hp⟩
  case round =>
    obtain ⟨l, k, rfl, hown, ⟨b, hfar⟩, hW, hlen⟩ := hrel
    have O := jj hown
    have WW := jj hW
    have HL := jj hlen
    have hz := hW.size
    clear hown hW hlen
    rcases hfar with ⟨hR, hp⟩ | ⟨hR, hp⟩
    · have R := jj hR
      have HP := jj hp
      clear hp
      obtain ⟨r0, r1, r2, rf1, rf2, rl⟩ := hR
      cases k with
      | zero =>
        have hpz : parse s a = some (l, b) := by rw [HP.out]; simp [readMarks, addL]
        have HPZ := jj hpz
        clear hpz
        go_wp2
        go_ret
        obtain ⟨qa, cap, rfl, ho⟩ := own_row O.out
        exact ⟨WW.out, .inl ⟨l, b, qa, cap, HPZ.out, rfl, ho, R.out⟩⟩
      | succ k =>
        have hk1 : (0 : Int) < ((k + 1 : Nat) : Int) := by omega
        have hk5 : k ≤ 5 := by have := HL.out; omega
        have hstep : ∃ (x : Int) (b1 : Int) (z1 : Bool) (y b2 : Int) (z2 : Bool), Calls Tryd.prog 78 #[.pointer (some ⟨g, 0, none⟩)] wr (Reads wr g s x b1 z1) ∧
            (∀ W, Rd W g s b1 z1 → Calls Tryd.prog 78 #[.pointer (some ⟨g, 0, none⟩)] W (Reads W g s y b2 z2)) ∧
            ((z2 = false ∧ parse s a = addL (l ++ [(x, y)]) (readMarks s k b2)) ∨ (z2 = true ∧ parse s a = none)) := by
          by_cases hb1 : (readN s b).2.2 ≠ 0
          · obtain ⟨c, hc0, hr⟩ := readN_bad s b hb1
            exact ⟨0, b, true, 0, b, true, num_bad g s b c _ hs hc0 hr R.out, fun W hW => num_was g s b 0 0 c W hs hr hW, .inr ⟨rfl, HP.out.trans (readMarks_bad1 hb1 _)⟩⟩
          obtain ⟨x, b1, z, hr⟩ : ∃ x b1 z, readN s b = (x, b1, z) := ⟨_, _, _, rfl⟩
          obtain rfl : z = 0 := by rw [hr] at hb1; simpa using hb1
          by_cases hb2 : (readN s b1).2.2 ≠ 0
          · obtain ⟨c, hc0, hr2⟩ := readN_bad s b1 hb2
            exact ⟨x, b1, false, 0, b1, true, num_ok g s b x b1 _ hs hr R.out, fun W hW => num_bad g s b1 c W hs hc0 hr2 hW, .inr ⟨rfl, HP.out.trans (readMarks_bad2 hr hb2 _)⟩⟩
          obtain ⟨y, b2, z, hr2⟩ : ∃ y b2 z, readN s b1 = (y, b2, z) := ⟨_, _, _, rfl⟩
          obtain rfl : z = 0 := by rw [hr2] at hb2; simpa using hb2
          exact ⟨x, b1, false, y, b2, false, num_ok g s b x b1 _ hs hr R.out, fun W hW => num_ok g s b1 y b2 W hs hr2 hW, .inl ⟨rfl, HP.out.trans (readMarks_step hr hr2 _)⟩⟩
        obtain ⟨x, b1, z1, y, b2, z2, hc1, hc2, hnext⟩ := hstep
        have C1 := jj hc1
        have C2 := jj hc2
        have HX := jj hnext
        clear hc1 hc2 hnext
        go_wp2_with fail
        refine C1.out.mono ?_
        rintro e w2 ⟨rfl, hR2, hW2⟩
        have O2 := jj (own_within O.out hW2 (by omega))
        have W2 := jj (WW.out.trans hW2)
        have R2 := jj (hR2.below (step_alloc w2 (.cells #[.int .i64 x, .int .i64 0] 64)))
        have z2s := hW2.size
        clear r0 r1 r2 rf1 rf2 rl hR2 hW2
        have N2 := jj (New2.new w2 (.int .i64 x) (.int .i64 0) 64)
        have HN := jj (fun q (hq : _ = some q) => (O2.out.lt q hq).2)
        go_wp2_with fail
        refine (C2.out _ R2.out).mono ?_
        rintro e w3 ⟨rfl, hR3, hW3⟩
        have hgm : g + 1 ≤ w2.heap.size := by omega
        have N3 := jj (N2.out.within hW3 (Or.inr hgm))
        have O3 := jj (own_within (O2.out.alloc (.cells #[.int .i64 x, .int .i64 0] 64)) hW3 (by omega))
        have W3 := jj ((show Within g (g + 1) w (w2.alloc (.cells #[.int .i64 x, .int .i64 0] 64)) from W2.out.trans (within_of (step_alloc w2 _))).trans hW3)
        have R3 := jj (hR3.within ((Within.refl w2.heap.size (w2.heap.size + 1) w3).setCell (p := ⟨w2.heap.size, 1, none⟩) (Nat.le_refl _) (Nat.lt_succ_self _) (.int .i64 y)) (Or.inl (by omega)))
        have O4 := jj (own_same (w' := w3.setCell ⟨w2.heap.size, 1, none⟩ (.int .i64 y)) O3.out (fun q hq => Below.heap_setCell _ _ _ _ (by have := HN.out q hq; simp only; omega)))
        have z3s := hW3.size
        have z4s : w2.heap.size < w3.heap.size := by simp at z3s; omega
        clear hR3 hW3
        obtain ⟨n0, n1, nf0, nf1, nlt⟩ := N3.out
        go_wp2_with (at_builtin; refine wpList_append_mark _ rfl _ _ rfl w.heap.size _ l (x, y) (by rfl) w3.heap.size (by simp [World.setCell]) (by rfl) O4.out (by have := HL.out; omega) (by rw [size_setCell]; omega) ?_; intro v' w5 ho5 hb5)
        have O5 := jj ho5
        have R5 := jj (R3.out.same (hb5.block g (by omega)) hb5.size)
        have W5 := jj (show Within g (g + 1) w w5 from
          ⟨hb5.os.trans W3.out.os, hb5.tape.trans W3.out.tape, hb5.output.trans W3.out.output, by have := hb5.size; rw [size_setCell] at this; omega,
            fun q hq ho => (hb5.block q hq).trans ((Below.heap_setCell _ _ _ _ (by simp only; omega)).trans (W3.out.block q hq ho))⟩)
        clear ho5 hb5 n0 n1 nf0 nf1 nlt
        go_wp2
        go_roundw
        case rel =>
          refine ⟨l ++ [(x, y)], k, by go_num, O5.out, ⟨b2, ?_⟩, W5.out, by have := HL.out; simp; omega⟩
          rcases HX.out with ⟨hb, hp⟩ | ⟨hb, hp⟩
          · exact .inl ⟨by rw [← hb]; exact R5.out, hp⟩
          · exact .inr ⟨by rw [← hb]; exact R5.out, hp⟩
        case measure => go_light; simp [intOf]
    · have R := jj hR
      have HP := jj hp
      clear hp
      obtain ⟨r0, r1, r2, rf1, rf2, rl⟩ := hR
      have hk2 : k = 0 ∨ (0 : Int) < (k : Int) := by omega
      rcases hk2 with rfl | hk2
      all_goals
        go_wp2
        all_goals go_ret
        all_goals obtain ⟨qa, cap, rfl, ho⟩ := own_row O.out
        all_goals exact ⟨WW.out, .inr ⟨HP.out, _, b, rfl, R.out, qa, _, cap, rfl⟩⟩
theorem list_ne' {a b : ByteArray} (h : ¬ a = b) : (a.toList == b.toList) = false := by
  rw [ByteArray.toList_eq, ByteArray.toList_eq]
  apply beq_false_of_ne
  intro e
  apply h
  apply ByteArray.ext
  exact Array.toList_inj.1 e
theorem toList_ne {a : ByteArray} (h : a.size ≠ 0) : ¬ a.toList = [] := fun e => by
  rw [ByteArray.toList_eq] at e
  have h1 := congrArg List.length e
  rw [Array.length_toList] at h1
  exact h h1
theorem spec_out_of {w w' : World} {s : ByteArray} {c : Int} (h : readL s = [] ∧ readC s = c) (hb : Below w.heap.size w w') : GivesOut w (readL s) (readC s) (.returned (.agg #[.slice none 0 0, .int .i64 c])) w' := by
  rw [h.1, h.2]; exact ⟨none, 0, rfl, .inl rfl, hb⟩
theorem base_within {w0 w w' : World} {lo hi : Nat} (h : Below w0.heap.size w0 w) (hw : Within lo hi w w') (hl : w0.heap.size ≤ lo) : Below w0.heap.size w0 w' := h.trans (hw.below hl h.size)
set_option maxRecDepth 100000 in
set_option maxHeartbeats 2000000 in
theorem spec_seenRead (s : ByteArray) (w : World) (hs : s.size ≤ maxLen) : Calls Tryd.prog 35 #[.string s] w (GivesOut w (readL s) (readC s)) := by
  by_cases h8 : 8000 < s.size
  · have HX := jj (read_size h8)
    unfold maxLen at hs
    go_enter Tryd.func35, Tryd.ntmps35
    go_wp2
    exact bodyPost_ret (v := .agg #[.slice none 0 0, .int .i64 2]) (by simp [results, Tryd.results35, go_sem]) rfl (spec_out_of HX.out ((Below.refl _ _).alloc (Nat.le_refl _) _))
  have d1 : decide (8000 < (s.size : Int)) = false := by simp; omega
  have esz : (w.alloc (.cells #[.slice none 0 0, .int .i64 0] 30)).heap.size = w.heap.size + 1 := by simp
  have hR0 := Rd.new (w.alloc (.cells #[.slice none 0 0, .int .i64 0] 30)) s 61
  rw [esz] at hR0
  clear esz
  have R0 := jj hR0
  clear hR0
  go_enter Tryd.func35, Tryd.ntmps35
  go_wp2_with fail
  refine (spec_seen (w.heap.size + 1) s 0 _ (by omega) R0.out).mono ?_
  rintro e w1 ⟨hW, h⟩
  have N := jj (((New2.new w (.slice none 0 0) (.int .i64 0) 30).below (step_alloc _ (.cells #[.string s, .int .i64 0, .bool false] 61))).within hW (Or.inl (by omega)))
  obtain ⟨c0, c1, f0, f1, lt⟩ := N.out
  have HB := jj (base_within (w0 := w) (((Below.refl _ w).alloc (Nat.le_refl _) (.cells #[.slice none 0 0, .int .i64 0] 30)).alloc (by simp) (.cells #[.string s, .int .i64 0, .bool false] 61)) hW (by omega))
  rcases h with ⟨l, at_, a, cap, hsome, rfl, ho, hR⟩ | ⟨hnone, v, a', rfl, hR, -⟩
  · have HO := jj (ho.wide (lo' := w.heap.size + 1) (by simp) (Nat.le_refl _))
    have HP := jj hsome
    obtain ⟨r0, r1, r2, rf1, rf2, rl⟩ := hR
    have hpos := parse_pos hsome
    have hl5 : l.length ≤ maxLen := by
      have h2 := (parse_at (a := 0) hsome).1.1
      unfold seenB at h2
      have h3 : ∀ (l : List (Int × Int)), l.length ≤ (l.flatMap markB).length := by
        intro l
        induction l with
        | nil => simp
        | cons x r ih => rw [List.flatMap_cons, List.length_append, List.length_cons]; have := markB_len x.1 x.2; have := Nu.enc_pos (Nu.fold x.1); show r.length + 1 ≤ (markB (x.1, x.2)).length + _; omega
      have h4 := h3 l
      rw [List.length_append] at h2
      unfold maxLen; omega
    have hne : s ≠ ⟨#[]⟩ := fun h => hpos (by rw [h]; rfl)
    have hne2 : ¬ s.toList = [] := toList_ne hpos
    have hne3 : s.toList.isEmpty = false := by simpa using hne2
    have HL := jj hl5
    clear ho hsome hW hpos hl5
    by_cases he : bytesV l = s
    · obtain ⟨hr, hat⟩ := read_back HP.out he (fun h => hne (by rw [← he] at h ⊢; exact ByteArray.ext (Array.eq_empty_of_size_eq_zero h)))
      have HX := jj (read_yes h8 (seenAt_some HP.out hr) hat)
      clear hr hat
      go_wp2_with fail
      refine (spec_seenBytes a cap l _ HL.out HO.out.at_).mono ?_
      rintro e w2 ⟨rfl, hb2⟩
      rw [he]
      have N2 := jj (N.out.below hb2)
      clear c0 c1 f0 f1 lt r0 r1 r2 rf1 rf2 rl
      obtain ⟨c0, c1, f0, f1, lt⟩ := N2.out
      have HB2 := jj (HB.out.trans (hb2.mono HB.out.size))
      have HO2 := jj ((HO.out.same (Same.of_below hb2 (Nat.le_refl _))).wide (Nat.le_refl _) hb2.size)
      clear hb2
      go_wp2
      refine bodyPost_ret (v := .agg #[.slice a l.length cap, .int .i64 0]) (by simp [results, Tryd.results35, go_sem, c0, c1, f0, f1]) rfl ?_
      rw [HX.out.1, HX.out.2]
      refine ⟨a, cap, rfl, ?_, (HB2.out.setCell (Nat.le_refl _) _).setCell (Nat.le_refl _) _⟩
      rcases HO2.out with h0 | ⟨g, ha, h1, h2, ho⟩
      · exact .inl h0
      · refine .inr ⟨g, ha, by omega, by simpa [World.setCell] using h2, ho.same ?_⟩
        rw [Below.heap_setCell _ _ _ _ (by simp only; omega), Below.heap_setCell _ _ _ _ (by simp only; omega)]
    · have HX : Hid (readL s = [] ∧ readC s = 3) := jj (by
        cases hr : rightB l
        · exact read_none h8 (seenAt_wrong HP.out hr)
        · exact read_more h8 (seenAt_some HP.out hr) (fun hat => he (read_right HP.out hr hat)))
      have he2 := list_ne' he
      have he3 : ((bytesV l).toList != s.toList) = true := by simp [bne, he2]
      clear he
      go_wp2_with fail
      refine (spec_seenBytes a cap l _ HL.out HO.out.at_).mono ?_
      rintro e w2 ⟨rfl, hb2⟩
      have N2 := jj (N.out.below hb2)
      clear c0 c1 f0 f1 lt r0 r1 r2 rf1 rf2 rl
      obtain ⟨c0, c1, f0, f1, lt⟩ := N2.out
      have HB2 := jj (HB.out.trans (hb2.mono HB.out.size))
      clear hb2
      go_wp2
      exact bodyPost_ret (v := .agg #[.slice none 0 0, .int .i64 3]) (by simp [results, Tryd.results35, go_sem, c0, c1, f0, f1]) rfl (spec_out_of HX.out ((HB2.out.setCell (Nat.le_refl _) _).setCell (Nat.le_refl _) _))
  · have HX := jj (read_none h8 (seenAt_none hnone))
    obtain ⟨r0, r1, r2, rf1, rf2, rl⟩ := hR
    clear hnone hW
    go_wp2
    all_goals exact bodyPost_ret (v := .agg #[.slice none 0 0, .int .i64 3]) (by simp [results, Tryd.results35, go_sem, c0, c1, f0, f1]) rfl (spec_out_of HX.out ((HB.out.setCell (Nat.le_refl _) _).setCell (Nat.le_refl _) _))
end Go.Proofs.YtiaoifodaoifjaaDoor.Mk
