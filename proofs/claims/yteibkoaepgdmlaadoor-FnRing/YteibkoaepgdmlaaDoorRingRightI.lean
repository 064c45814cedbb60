/- Contract of impl.RingRight. Condition: the ring's number of nodes is an int64, and it has no more tokens than a slice may have. -/
import Derived.Test.YteibkoaepgdmlaaDoorRingI
import Derived.Test.YteibkoaepgdmlaaDoorTokEq
import Derived.Deep.RegionHeld3
set_option linter.unusedSimpArgs false
set_option linter.unusedVariables false
namespace Go.Proofs.YteibkoaepgdmlaaDoor.Rg
open Go.RowKit Go.Proofs.YteibkoaepgdmlaaDoor.Mk Go.Proofs.YteibkoaepgdmlaaDoor.Rw Go.Proofs.YteibkoaepgdmlaaDoor.Tk

theorem wrap_nat (q : Nat) (h : q ≤ 9223372036854775807) : IntKind.i64.wrap (q : Int) = (q : Int) := by
  simp only [IntKind.wrap, IntKind.bits, IntKind.signed]
  simp
  omega
theorem ringB_node (n : Int) (l : List Tok) (h : isB n 1 5 = false) : ringB n l = false := by
  rw [isB_no] at h
  unfold ringB
  exact decide_eq_false fun h2 => h ⟨h2.1, h2.2.1⟩
theorem ringB_nat (n : Nat) (l : List Tok) (h0 : 1 ≤ n) (h : n ≤ 5) (q : Nat) (hq : q = l.length / n) : ringB (n : Int) l = decide (1 ≤ q ∧ q ≤ 8 ∧ l = ringL n q) := by
  unfold ringB
  rw [Int.toNat_natCast, ← hq]
  by_cases c : 1 ≤ q ∧ q ≤ 8 ∧ l = ringL n q
  · rw [decide_eq_true c, decide_eq_true ⟨by omega, by omega, c⟩]
  · rw [decide_eq_false c, decide_eq_false fun h2 => c h2.2.2]
theorem newC_nat (n : Nat) (h0 : 1 ≤ n) (h : n ≤ 5) (q : Nat) : newC (n : Int) (q : Int) = 0 ↔ 1 ≤ q ∧ q ≤ 8 := by
  have hn : isB (n : Int) 1 5 = true := (isB_iff _ _ _).2 (by omega)
  by_cases c : isB (q : Int) 1 8 = true
  · rw [(new_yes hn c).2.2]
    have := (isB_iff _ _ _).1 c
    exact ⟨fun _ => by omega, fun _ => rfl⟩
  · rw [(new_no fun h2 => c h2.2).2.2]
    have c2 : ¬ (1 ≤ (q : Int) ∧ (q : Int) ≤ 8) := fun h2 => c ((isB_iff _ _ _).2 h2)
    exact ⟨fun h => by omega, fun h => absurd (by omega) c2⟩
theorem ringB_code (n : Nat) (l : List Tok) (h0 : 1 ≤ n) (h : n ≤ 5) (q : Nat) (hq : q = l.length / n) (hc : ¬ newC (n : Int) (q : Int) = 0) : ringB (n : Int) l = false := by
  rw [ringB_nat n l h0 h q hq]
  rw [newC_nat n h0 h] at hc
  exact decide_eq_false fun h2 => hc ⟨h2.1, h2.2.1⟩
theorem ringB_eq (n : Nat) (l : List Tok) (h0 : 1 ≤ n) (h : n ≤ 5) (q : Nat) (hq : q = l.length / n) (hc : newC (n : Int) (q : Int) = 0) : ringB (n : Int) l = decide (newL (n : Int) (q : Int) = l) := by
  rw [ringB_nat n l h0 h q hq]
  rw [newC_nat n h0 h] at hc
  have hn : isB (n : Int) 1 5 = true := (isB_iff _ _ _).2 (by omega)
  have hm : isB (q : Int) 1 8 = true := (isB_iff _ _ _).2 (by omega)
  have e := (new_yes hn hm).1
  rw [Int.toNat_natCast, Int.toNat_natCast] at e
  rw [e]
  by_cases c : ringL n q = l
  · rw [decide_eq_true c, decide_eq_true ⟨hc.1, hc.2, c.symm⟩]
  · rw [decide_eq_false c, decide_eq_false fun h2 => c h2.2.2.symm]
set_option maxRecDepth 100000 in
set_option maxHeartbeats 2000000 in
theorem impl_ringRight_nat (n : Nat) (a : Option Addr) (cap : Nat) (l : List Tok) (w : World) (hn0 : 1 ≤ n) (hn : n ≤ 5) (hl : l.length ≤ maxLen) (h : MarksAt w a l) :
    Calls Tryd.prog 26 #[.agg #[.int .i64 (n : Int), .slice a l.length cap]] w fun e w' => e = .returned (.bool (ringB (n : Int) l)) ∧ Below w.heap.size w w' := by
  unfold maxLen at hl
  have H := Lib.hid h
  clear h
  have h1 : isB (n : Int) 1 5 = true := (isB_iff _ _ _).2 (by omega)
  have R := Lib.hid (Cells.new w #[.int .i64 (n : Int), .slice a l.length cap] 27)
  have D := Lib.hid (show Base w (w.alloc (.cells #[.int .i64 (n : Int), .slice a l.length cap] 27)) from step_alloc w (.cells #[.int .i64 (n : Int), .slice a l.length cap] 27))
  obtain ⟨q, hq⟩ : ∃ q, q = l.length / n := ⟨_, rfl⟩
  have HQ := Lib.hid hq
  have hq1 : (l.length : Int) / (n : Int) = (q : Int) := by rw [hq, Int.natCast_ediv]
  have hq2 : Int.tdiv (l.length : Int) (n : Int) = (q : Int) := by rw [Int.tdiv_eq_ediv_of_nonneg (by omega)]; exact hq1
  have hnl := newL_len (n : Int) (q : Int)
  have hql : q ≤ l.length := by rw [hq]; exact Nat.div_le_self _ _
  have hnz : ¬ n = 0 := by omega
  have hqw := wrap_nat q (by omega)
  clear hq
  have HNR := Lib.hid (nodeRight (n : Int))
  go_enter Tryd.func26, Tryd.ntmps26
  go_wp2_with fail
  generalize w.alloc (.cells #[.int .i64 (n : Int), .slice a l.length cap] 27) = wb at R D ⊢
  refine (HNR.out _).mono ?_
  rw [h1]
  rintro e w' ⟨rfl, rfl⟩
  obtain ⟨r0, r1, _, _⟩ := R.out.c2
  go_wp2_with fail
  clear r0 r1
  have hRl := R.out.lt
  have hb := step_drew wb
  replace R := Lib.hid (R.out.below hb)
  replace D := Lib.hid (D.out.below hb)
  clear hb
  refine wp_region_held_drew (S := (fun w' => w'.cell? ⟨w.heap.size, 0, none⟩ = some (.int .i64 (n : Int)) ∧ w'.cell? ⟨w.heap.size, 1, none⟩ = some (.slice a l.length cap))) (by kernel_rfl) (by exact ⟨R.out.c2.1, R.out.c2.2.1⟩) (fun hHeld => ?_)
  have Zd : wb.heap.size ≤ wb.drew.heap.size := Nat.le_refl _
  generalize wb.drew = wd at Zd hHeld R D ⊢
  refine wpAnyH_take (i := 0) (v := ?_) rfl (by kernel_rfl) (by kernel_rfl) (by kernel_rfl) (fun _ _ _ h => h) (Or.inl ⟨by rfl, fun w hSw => by (try dsimp only at hSw); go_simp; (try with_reducible rfl)⟩) (by assumption) ?_
  try simp only [Act.put, List.setIfInBounds_toArray, List.set_cons_zero, List.set_cons_succ, List.getElem_toArray, List.getElem_cons_zero, List.getElem_cons_succ]
  refine wpAnyH_take (i := 1) (v := ?_) rfl (by kernel_rfl) (by kernel_rfl) (by kernel_rfl) (fun _ _ _ h => h) (Or.inl ⟨by rfl, fun w hSw => by (try dsimp only at hSw); go_simp; (try with_reducible rfl)⟩) (by assumption) ?_
  try simp only [Act.put, List.setIfInBounds_toArray, List.set_cons_zero, List.set_cons_succ, List.getElem_toArray, List.getElem_cons_zero, List.getElem_cons_succ]
  refine wpAnyH_take (i := 2) (v := ?_) rfl (by kernel_rfl) (by kernel_rfl) (by kernel_rfl) (fun _ _ _ h => h) (Or.inl ⟨by rfl, fun w hSw => by (try dsimp only at hSw); go_simp; (try with_reducible rfl)⟩) (by assumption) ?_
  try simp only [Act.put, List.setIfInBounds_toArray, List.set_cons_zero, List.set_cons_succ, List.getElem_toArray, List.getElem_cons_zero, List.getElem_cons_succ]
  refine wpAnyH_take (i := 3) (v := ?_) rfl (by kernel_rfl) (by kernel_rfl) (by kernel_rfl) (fun _ _ _ h => h) (Or.inl ⟨by rfl, fun w hSw => by (try dsimp only at hSw); go_simp; (try with_reducible rfl)⟩) (by assumption) ?_
  try simp only [Act.put, List.setIfInBounds_toArray, List.set_cons_zero, List.set_cons_succ, List.getElem_toArray, List.getElem_cons_zero, List.getElem_cons_succ]
  refine wpAnyH_take (i := 4) (v := ?_) rfl (by kernel_rfl) (by kernel_rfl) (by kernel_rfl) (fun _ _ _ h => h) (Or.inl ⟨by rfl, fun w hSw => by (try dsimp only at hSw); go_simp; (try with_reducible rfl)⟩) (by assumption) ?_
  try simp only [Act.put, List.setIfInBounds_toArray, List.set_cons_zero, List.set_cons_succ, List.getElem_toArray, List.getElem_cons_zero, List.getElem_cons_succ]
  refine wpAnyH_take (i := 5) (v := ?_) rfl (by kernel_rfl) (by kernel_rfl) (by kernel_rfl) (fun _ _ _ h => h) (Or.inl ⟨by rfl, fun w hSw => by (try dsimp only at hSw); go_simp; (try with_reducible rfl)⟩) (by assumption) ?_
  try simp only [Act.put, List.setIfInBounds_toArray, List.set_cons_zero, List.set_cons_succ, List.getElem_toArray, List.getElem_cons_zero, List.getElem_cons_succ]
  refine wpAnyH_take (i := 6) (v := ?_) rfl (by kernel_rfl) (by kernel_rfl) (by kernel_rfl) (fun _ _ _ h => h) (Or.inl ⟨by rfl, fun w hSw => by (try dsimp only at hSw); go_simp; (try with_reducible rfl)⟩) (by assumption) ?_
  try simp only [Act.put, List.setIfInBounds_toArray, List.set_cons_zero, List.set_cons_succ, List.getElem_toArray, List.getElem_cons_zero, List.getElem_cons_succ]
  refine wpAnyH_take (i := 7) (v := ?_) rfl (by kernel_rfl) (by kernel_rfl) (by kernel_rfl) (fun _ _ _ h => h) (Or.inl ⟨by rfl, fun w hSw => by (try dsimp only at hSw); go_simp; (try with_reducible rfl)⟩) (by assumption) ?_
  try simp only [Act.put, List.setIfInBounds_toArray, List.set_cons_zero, List.set_cons_succ, List.getElem_toArray, List.getElem_cons_zero, List.getElem_cons_succ]
  refine wpAnyH_ready (rs := [8, 9]) (by kernel_rfl) (by simp) ?_
  refine AllReadyH.cons rfl (fun K hK => ?_) ?_
  · go_simp
    go_at_call 17; refine (impl_ringNew (n : Int) (q : Int) _).mono ?_; rintro e wc8 ⟨qa, qc, rfl, ho, hb⟩
    have OW := Lib.hid (show OwnI wc8 wd.heap.size wc8.heap.size qa (newL (n : Int) (q : Int)) from ⟨ho, Nat.le_refl _⟩)
    clear ho
    replace R := Lib.hid (R.out.below hb)
    replace D := Lib.hid (D.out.below hb)
    have Zc0 := hb.size
    clear hb
    go_wp2_with fail
    refine hK.out _ _ (by exact ⟨R.out.c2.1, R.out.c2.2.1⟩) (fun hHeld => ?_)
    clear hK K
    try simp only [Act.put, List.setIfInBounds_toArray, List.set_cons_zero, List.set_cons_succ, List.getElem_toArray, List.getElem_cons_zero, List.getElem_cons_succ]
    refine wpAnyH_ready (rs := [9]) (by kernel_rfl) (by simp) ?_
    refine AllReadyH.cons rfl (fun K hK => ?_) AllReadyH.nil
    go_simp
    have hb := step_alloc wc8 (.cells #[.int .i64 0, .slice none 0 0, .int .i64 0] 40)
    replace R := Lib.hid (R.out.below hb)
    replace D := Lib.hid (D.out.below hb)
    replace OW := Lib.hid (OW.out.below hb)
    clear hb
    have NV := Lib.hid (New3.new wc8 (.int .i64 0) (.slice none 0 0) (.int .i64 0) 40)
    have Za : wc8.heap.size < (wc8.alloc (.cells #[.int .i64 0, .slice none 0 0, .int .i64 0] 40)).heap.size := by simp
    obtain ⟨gb, hgb⟩ : ∃ gb, gb = wc8.heap.size := ⟨_, rfl⟩
    have Qa : wc8.heap.size ≤ gb := by omega
    have Qb : gb < (wc8.alloc (.cells #[.int .i64 0, .slice none 0 0, .int .i64 0] 40)).heap.size := by omega
    rw [← hgb] at NV ⊢
    clear hgb
    generalize wc8.alloc (.cells #[.int .i64 0, .slice none 0 0, .int .i64 0] 40) = wa at NV Za Qb R D OW ⊢
    refine hK.out _ _ (by exact ⟨R.out.c2.1, R.out.c2.2.1⟩) (fun hHeld => ?_)
    clear hK K
    try simp only [Act.put, List.setIfInBounds_toArray, List.set_cons_zero, List.set_cons_succ, List.getElem_toArray, List.getElem_cons_zero, List.getElem_cons_succ]
    obtain ⟨nv0, nv1, nv2, nf0, nf1, nf2, nl⟩ := NV.out
    refine wpAnyH_ready (rs := [10]) (by kernel_rfl) (by simp) ?_
    refine AllReadyH.cons rfl (fun K hK => ?_) AllReadyH.nil
    go_simp
    have hw := (((Within.refl gb (gb + 1) wa).setCell (p := ⟨gb, 0, none⟩) (Nat.le_refl _) (Nat.lt_succ_self _) (.int .i64 (newN (n : Int) (q : Int)))).setCell (p := ⟨gb, 1, none⟩) (Nat.le_refl _) (Nat.lt_succ_self _) (.slice qa (newL (n : Int) (q : Int)).length qc)).setCell (p := ⟨gb, 2, none⟩) (Nat.le_refl _) (Nat.lt_succ_self _) (.int .i64 (newC (n : Int) (q : Int)))
    have V := Lib.hid (NV.out.store (.int .i64 (newN (n : Int) (q : Int))) (.slice qa (newL (n : Int) (q : Int)).length qc) (.int .i64 (newC (n : Int) (q : Int))))
    replace R := Lib.hid (R.out.within hw (by omega))
    replace D := Lib.hid (D.out.within hw (by omega))
    replace OW := Lib.hid (OW.out.within hw (by omega))
    have Zs : wa.heap.size ≤ (World.setCell (World.setCell (World.setCell wa ⟨gb, 0, none⟩ (.int .i64 (newN (n : Int) (q : Int)))) ⟨gb, 1, none⟩ (.slice qa (newL (n : Int) (q : Int)).length qc)) ⟨gb, 2, none⟩ (.int .i64 (newC (n : Int) (q : Int)))).heap.size := hw.size
    clear hw NV nv0 nv1 nv2 nf0 nf1 nf2 nl
    generalize (World.setCell (World.setCell (World.setCell wa ⟨gb, 0, none⟩ (.int .i64 (newN (n : Int) (q : Int)))) ⟨gb, 1, none⟩ (.slice qa (newL (n : Int) (q : Int)).length qc)) ⟨gb, 2, none⟩ (.int .i64 (newC (n : Int) (q : Int)))) = wz at V Zs R D OW ⊢
    refine hK.out _ _ (by exact ⟨R.out.c2.1, R.out.c2.2.1⟩) (fun hHeld => ?_)
    clear hK K
    try simp only [Act.put, List.setIfInBounds_toArray, List.set_cons_zero, List.set_cons_succ, List.getElem_toArray, List.getElem_cons_zero, List.getElem_cons_succ]
    refine wpAnyH_done (by kernel_rfl) ?_ _
    obtain ⟨v0, v1, v2, vl⟩ := V.out
    obtain ⟨r0, r1, _, _⟩ := R.out.c2
    cases hcode : decide (newC (n : Int) (q : Int) = 0)
    · have hcz : (newC (n : Int) (q : Int) == 0) = false := by simpa using hcode
      have hfl := Lib.hid (ringB_code n l hn0 hn q HQ.out (by simpa using hcode))
      clear hcode
      go_wp2
      go_ret
      exact ⟨ret_bool hfl.out.symm, D.out⟩
    · have hcz : (newC (n : Int) (q : Int) == 0) = true := by simpa using hcode
      have hfl := Lib.hid (ringB_eq n l hn0 hn q HQ.out (by simpa using hcode))
      clear hcode
      go_wp2_with fail
      refine (slices_equal qa a qc cap (newL (n : Int) (q : Int)) l _ (by unfold maxLen; omega) (by unfold maxLen; omega) OW.out.at_ (H.out.mono D.out)).mono ?_
      rintro e wz2 ⟨rfl, hb⟩
      have D2 := Lib.hid (D.out.trans (hb.mono D.out.size))
      clear hb
      go_wp2
      go_ret
      exact ⟨ret_bool hfl.out.symm, D2.out⟩
  refine AllReadyH.cons rfl (fun K hK => ?_) AllReadyH.nil
  go_simp
  have hb := step_alloc wd (.cells #[.int .i64 0, .slice none 0 0, .int .i64 0] 40)
  replace R := Lib.hid (R.out.below hb)
  replace D := Lib.hid (D.out.below hb)
  clear hb
  have NV := Lib.hid (New3.new wd (.int .i64 0) (.slice none 0 0) (.int .i64 0) 40)
  have Za : wd.heap.size < (wd.alloc (.cells #[.int .i64 0, .slice none 0 0, .int .i64 0] 40)).heap.size := by simp
  obtain ⟨gb, hgb⟩ : ∃ gb, gb = wd.heap.size := ⟨_, rfl⟩
  have Qa : wd.heap.size ≤ gb := by omega
  have Qb : gb < (wd.alloc (.cells #[.int .i64 0, .slice none 0 0, .int .i64 0] 40)).heap.size := by omega
  rw [← hgb] at NV ⊢
  clear hgb
  generalize wd.alloc (.cells #[.int .i64 0, .slice none 0 0, .int .i64 0] 40) = wa at NV Za Qb R D ⊢
  refine hK.out _ _ (by exact ⟨R.out.c2.1, R.out.c2.2.1⟩) (fun hHeld => ?_)
  clear hK K
  try simp only [Act.put, List.setIfInBounds_toArray, List.set_cons_zero, List.set_cons_succ, List.getElem_toArray, List.getElem_cons_zero, List.getElem_cons_succ]
  refine wpAnyH_ready (rs := [8]) (by kernel_rfl) (by simp) ?_
  refine AllReadyH.cons rfl (fun K hK => ?_) AllReadyH.nil
  go_simp
  go_at_call 17; refine (impl_ringNew (n : Int) (q : Int) _).mono ?_; rintro e wc8 ⟨qa, qc, rfl, ho, hb⟩
  have OW := Lib.hid (show OwnI wc8 wa.heap.size wc8.heap.size qa (newL (n : Int) (q : Int)) from ⟨ho, Nat.le_refl _⟩)
  clear ho
  replace R := Lib.hid (R.out.below hb)
  replace D := Lib.hid (D.out.below hb)
  replace NV := Lib.hid (NV.out.below hb)
  have Zc0 := hb.size
  clear hb
  go_wp2_with fail
  refine hK.out _ _ (by exact ⟨R.out.c2.1, R.out.c2.2.1⟩) (fun hHeld => ?_)
  clear hK K
  try simp only [Act.put, List.setIfInBounds_toArray, List.set_cons_zero, List.set_cons_succ, List.getElem_toArray, List.getElem_cons_zero, List.getElem_cons_succ]
  obtain ⟨nv0, nv1, nv2, nf0, nf1, nf2, nl⟩ := NV.out
  refine wpAnyH_ready (rs := [10]) (by kernel_rfl) (by simp) ?_
  refine AllReadyH.cons rfl (fun K hK => ?_) AllReadyH.nil
  go_simp
  have hw := (((Within.refl gb (gb + 1) wc8).setCell (p := ⟨gb, 0, none⟩) (Nat.le_refl _) (Nat.lt_succ_self _) (.int .i64 (newN (n : Int) (q : Int)))).setCell (p := ⟨gb, 1, none⟩) (Nat.le_refl _) (Nat.lt_succ_self _) (.slice qa (newL (n : Int) (q : Int)).length qc)).setCell (p := ⟨gb, 2, none⟩) (Nat.le_refl _) (Nat.lt_succ_self _) (.int .i64 (newC (n : Int) (q : Int)))
  have V := Lib.hid (NV.out.store (.int .i64 (newN (n : Int) (q : Int))) (.slice qa (newL (n : Int) (q : Int)).length qc) (.int .i64 (newC (n : Int) (q : Int))))
  replace R := Lib.hid (R.out.within hw (by omega))
  replace D := Lib.hid (D.out.within hw (by omega))
  replace OW := Lib.hid (OW.out.within hw (by omega))
  have Zs : wc8.heap.size ≤ (World.setCell (World.setCell (World.setCell wc8 ⟨gb, 0, none⟩ (.int .i64 (newN (n : Int) (q : Int)))) ⟨gb, 1, none⟩ (.slice qa (newL (n : Int) (q : Int)).length qc)) ⟨gb, 2, none⟩ (.int .i64 (newC (n : Int) (q : Int)))).heap.size := hw.size
  clear hw NV nv0 nv1 nv2 nf0 nf1 nf2 nl
  generalize (World.setCell (World.setCell (World.setCell wc8 ⟨gb, 0, none⟩ (.int .i64 (newN (n : Int) (q : Int)))) ⟨gb, 1, none⟩ (.slice qa (newL (n : Int) (q : Int)).length qc)) ⟨gb, 2, none⟩ (.int .i64 (newC (n : Int) (q : Int)))) = wz at V Zs R D OW ⊢
  refine hK.out _ _ (by exact ⟨R.out.c2.1, R.out.c2.2.1⟩) (fun hHeld => ?_)
  clear hK K
  try simp only [Act.put, List.setIfInBounds_toArray, List.set_cons_zero, List.set_cons_succ, List.getElem_toArray, List.getElem_cons_zero, List.getElem_cons_succ]
  refine wpAnyH_done (by kernel_rfl) ?_ _
  obtain ⟨v0, v1, v2, vl⟩ := V.out
  obtain ⟨r0, r1, _, _⟩ := R.out.c2
  cases hcode : decide (newC (n : Int) (q : Int) = 0)
  · have hcz : (newC (n : Int) (q : Int) == 0) = false := by simpa using hcode
    have hfl := Lib.hid (ringB_code n l hn0 hn q HQ.out (by simpa using hcode))
    clear hcode
    go_wp2
    go_ret
    exact ⟨ret_bool hfl.out.symm, D.out⟩
  · have hcz : (newC (n : Int) (q : Int) == 0) = true := by simpa using hcode
    have hfl := Lib.hid (ringB_eq n l hn0 hn q HQ.out (by simpa using hcode))
    clear hcode
    go_wp2_with fail
    refine (slices_equal qa a qc cap (newL (n : Int) (q : Int)) l _ (by unfold maxLen; omega) (by unfold maxLen; omega) OW.out.at_ (H.out.mono D.out)).mono ?_
    rintro e wz2 ⟨rfl, hb⟩
    have D2 := Lib.hid (D.out.trans (hb.mono D.out.size))
    clear hb
    go_wp2
    go_ret
    exact ⟨ret_bool hfl.out.symm, D2.out⟩

theorem impl_ringRight (n : Int) (a : Option Addr) (cap : Nat) (l : List Tok) (w : World) (hl : l.length ≤ maxLen) (h : MarksAt w a l) :
    Calls Tryd.prog 26 #[.agg #[.int .i64 n, .slice a l.length cap]] w fun e w' => e = .returned (.bool (ringB n l)) ∧ Below w.heap.size w w' := by
  cases hb : isB n 1 5
  · rw [ringB_node n l hb]
    have HNR := Lib.hid (nodeRight n)
    have D := Lib.hid (step_alloc w (.cells #[.int .i64 n, .slice a l.length cap] 27))
    go_enter Tryd.func26, Tryd.ntmps26
    go_wp2_with fail
    refine (HNR.out _).mono ?_
    rw [hb]
    rintro e w' ⟨rfl, rfl⟩
    go_wp2
    go_ret
    exact ⟨rfl, D.out⟩
  · have h1 := (isB_iff _ _ _).1 hb
    obtain ⟨k, rfl⟩ := Int.eq_ofNat_of_zero_le (show 0 ≤ n by omega)
    exact impl_ringRight_nat k a cap l w (by omega) (by omega) hl h
end Go.Proofs.YteibkoaepgdmlaaDoor.Rg
