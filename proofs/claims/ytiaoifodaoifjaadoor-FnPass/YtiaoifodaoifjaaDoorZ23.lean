/- Parts of a law: PassReadS. Conditions: on sizes, as each says. -/
import Derived.Test.YtiaoifodaoifjaaDoorZ1
import Derived.Deep.DeepCutAuto
import Derived.Test.YtiaoifodaoifjaaDoorZ11
import Derived.Test.YtiaoifodaoifjaaDoorZ3
import Derived.Test.YtiaoifodaoifjaaDoorZ19
import Derived.Test.YtiaoifodaoifjaaDoorZ22
import Derived.Test.YtiaoifodaoifjaaDoorZ13
set_option linter.unusedSimpArgs false
set_option linter.unusedVariables false
namespace Go.Proofs.YtiaoifodaoifjaaDoor.Sb
open Go.RowKit Go.Proofs.YtiaoifodaoifjaaDoor.Mk Go.Proofs.YtiaoifodaoifjaaDoor.Rw Go.Proofs.YtiaoifodaoifjaaDoor.Ge
theorem prs_out {w w' : World} {k s : ByteArray} {c : Int} (h : prL k s = [] ∧ prC k s = c) (hb : Below w.heap.size w w') : GivesOut w (prL k s) (prC k s) (.returned (.agg #[.slice none 0 0, .int .i64 c])) w' := by
  rw [h.1, h.2]; exact ⟨none, 0, rfl, .inl rfl, hb⟩
set_option maxRecDepth 100000 in
set_option maxHeartbeats 4000000 in
theorem spec_passRead (k s : ByteArray) (w : World) (hk : k.size ≤ maxLen) (hs : s.size ≤ maxLen) :
    Calls Tryd.prog 9 #[.string k, .string s] w (GivesOut w (prL k s) (prC k s)) := by
  have hk' := hk
  have hs' := hs
  unfold maxLen at hk hs
  by_cases k8 : 8000 < k.size
  · have HX := jj (pr_size (s := s) (.inl k8))
    have d0 : decide (8000 < (k.size : Int)) = true := by simp; omega
    go_enter Tryd.func9, Tryd.ntmps9
    go_wp2
    exact bodyPost_ret (v := .agg #[.slice none 0 0, .int .i64 2]) (by simp [results, Tryd.results9, go_sem]) rfl (prs_out HX.out ((Below.refl _ _).alloc (Nat.le_refl _) _))
  have d0 : decide (8000 < (k.size : Int)) = false := by simp; omega
  by_cases s8 : 8000 < s.size
  · have HX := jj (pr_size (k := k) (.inr s8))
    have d1 : decide (8000 < (s.size : Int)) = true := by simp; omega
    go_enter Tryd.func9, Tryd.ntmps9
    go_wp2
    exact bodyPost_ret (v := .agg #[.slice none 0 0, .int .i64 2]) (by simp [results, Tryd.results9, go_sem]) rfl (prs_out HX.out ((Below.refl _ _).alloc (Nat.le_refl _) _))
  have d1 : decide (8000 < (s.size : Int)) = false := by simp; omega
  have H8 := jj (show ¬ (8000 < k.size ∨ 8000 < s.size) by omega)
  have N := jj (Cells.new w #[.slice none 0 0, .int .i64 0] 30)
  simp only [List.toList_toArray] at N
  have D := jj (show Base w _ from step_alloc w (.cells #[.slice none 0 0, .int .i64 0] 30))
  have hg : w.heap.size < (w.alloc (.cells #[.slice none 0 0, .int .i64 0] 30)).heap.size := by simp
  go_enter Tryd.func9, Tryd.ntmps9
  go_wp2_with fail
  obtain ⟨g, hgg⟩ : ∃ g, w.heap.size = g := ⟨_, rfl⟩
  rw [hgg] at N hg ⊢
  generalize w.alloc (.cells #[.slice none 0 0, .int .i64 0] 30) = w0 at D N hg ⊢
  have HG := jj hgg
  have hgl : w.heap.size ≤ g := Nat.le_of_eq hgg
  clear hgg
  refine (Nm.spec_NameRight k hk' _).mono ?_
  rintro en w1 ⟨rfl, rfl⟩
  obtain ⟨c0, c1, f0, f1⟩ := N.out.c2
  cases hn : Nm.nameB k
  · have HX := jj (pr_form H8.out hn)
    clear hn
    go_wp2
    exact bodyPost_ret (v := .agg #[.slice none 0 0, .int .i64 1]) (by simp [results, Tryd.results9, go_sem, c0, c1, f0, f1]) rfl (prs_out HX.out ((D.out.setCell (p := ⟨g, 0, none⟩) hgl _).setCell (p := ⟨g, 1, none⟩) hgl _))
  have HN := jj hn
  clear hn
  by_cases s0 : s.size = 0
  · have HX := jj (pr_empty H8.out HN.out s0)
    have hse : s.toList.isEmpty = true := by rw [ByteArray.toList_eq, List.isEmpty_iff, ← List.length_eq_zero_iff, Array.length_toList]; exact s0
    clear s0
    go_wp2
    exact bodyPost_ret (v := .agg #[.slice none 0 0, .int .i64 0]) (by simp [results, Tryd.results9, go_sem, c0, c1, f0, f1]) rfl (prs_out HX.out ((D.out.setCell (p := ⟨g, 0, none⟩) hgl _).setCell (p := ⟨g, 1, none⟩) hgl _))
  have hse : s.toList.isEmpty = false := by
    rw [ByteArray.toList_eq]
    cases hl : s.data.toList with
    | nil => exact absurd (show s.size = 0 by have := congrArg List.length hl; rwa [Array.length_toList] at this) s0
    | cons x r => rfl
  have S0 := jj s0
  clear s0
  go_wp2_with fail
  refine (Se.spec_Unseal s hs' _).mono ?_
  rintro en w1 ⟨rfl, hb⟩
  rw [un_is]
  unfold Se.out
  obtain ⟨u, hu⟩ : ∃ u, unT s = u := ⟨_, rfl⟩
  have HU := jj hu
  have hu8 : u.size ≤ 8000 := by rw [← hu]; exact unT_size s
  rw [hu]
  replace N := jj (N.out.below hb)
  replace D := jj (D.out.below hb)
  have hg1 := Nat.lt_of_lt_of_le hg hb.size
  clear hb hu c0 c1 f0 f1 hg
  obtain ⟨uc, huc⟩ : ∃ c, unC s = c := ⟨_, rfl⟩
  have HC := jj huc
  rw [huc]
  clear huc
  go_upto_region 8 with fail
  have V := jj (Cells.new w1 #[.string u, .int .i64 0, .int .i64 uc] 49)
  simp only [List.toList_toArray] at V
  have ob := step_alloc w1 (.cells #[.string u, .int .i64 0, .int .i64 uc] 49)
  replace N := jj (N.out.below ob)
  replace D := jj (D.out.below ob)
  clear ob
  obtain ⟨gv, hgv⟩ : ∃ g, w1.heap.size = g := ⟨_, rfl⟩
  rw [hgv] at V hg1 ⊢
  clear hgv
  generalize w1.alloc (.cells #[.string u, .int .i64 0, .int .i64 uc] 49) = w2 at N D V ⊢
  obtain ⟨v0, v1, v2, vf0, vf1, vf2⟩ := V.out.c3
  by_cases uz : uc = 0
  rotate_left
  · have HX := jj (pr_seal H8.out HN.out S0.out (by rw [HC.out]; exact uz))
    rw [HC.out] at HX
    have uz2 : (uc != 0) = true := by simpa using uz
    obtain ⟨c0, c1, f0, f1⟩ := N.out.c2
    clear uz
    go_wp2
    exact bodyPost_ret (v := .agg #[.slice none 0 0, .int .i64 uc]) (by simp [results, Tryd.results9, go_sem, c0, c1, f0, f1]) rfl (prs_out HX.out ((D.out.setCell (p := ⟨g, 0, none⟩) hgl _).setCell (p := ⟨g, 1, none⟩) hgl _))
  subst uz
  have hv0 := V.out.lt
  go_wp2_with fail
  clear v0 v1 v2 vf0 vf1 vf2
  have Y := jj (Rd.new w2 u 61)
  have ob := step_alloc w2 (.cells #[.string u, .int .i64 0, .bool false] 61)
  replace N := jj (N.out.below ob)
  replace D := jj (D.out.below ob)
  have T := jj (V.out.below ob)
  clear ob V
  obtain ⟨gr, hgr⟩ : ∃ g, w2.heap.size = g := ⟨_, rfl⟩
  rw [hgr] at Y hv0 ⊢
  clear hgr
  generalize w2.alloc (.cells #[.string u, .int .i64 0, .bool false] 61) = w3 at N D T Y ⊢
  have hgr3 := Y.out.lt
  refine (text_any gr u (0, false) w3 hu8 Y.out).mono ?_
  rintro e w4 ⟨rfl, hy, hw⟩
  obtain ⟨y, n, b, ht, hn1, hy8, hb1, hb0⟩ := text_at u hu8
  rw [ht] at hy ⊢
  simp only at hy ⊢
  have HB1 := jj hb1
  have HB0 := jj hb0
  replace Y := jj hy
  replace N := jj (N.out.within hw (by omega))
  replace D := jj (D.out.within hw (by omega))
  replace T := jj (T.out.within hw (by omega))
  have hz4 := hw.size
  clear hw hy ht hb1 hb0
  have q0 : (0 : Int) ≤ (n : Int) := by omega
  have q1 : (n : Int) ≤ (u.size : Int) := by omega
  go_upto_region 12 with fail
  have hb := step_drew w4
  replace N := jj (N.out.below hb)
  replace D := jj (D.out.below hb)
  replace T := jj (T.out.below hb)
  replace Y := jj (Y.out.below hb)
  clear hb
  refine wp_region_held_drew (S := (fun w' => w'.cell? ⟨gv, 0, none⟩ = some (.string u) ∧ w'.cell? ⟨gr, 1, none⟩ = some (.int .i64 (n : Int)))) (by kernel_rfl) (by exact ⟨T.out.c3.1, Y.out.c1⟩) (fun hHeld => ?_)
  have Zd : w4.heap.size ≤ w4.drew.heap.size := Nat.le_refl _
  generalize w4.drew = wd at Zd hHeld N D T Y ⊢
  refine tk 0 (v := ?_) ?_
  try walk_nrm
  refine tk 1 (v := ?_) ?_
  try walk_nrm
  refine tk 2 (v := ?_) ?_
  try walk_nrm
  refine tk 3 (v := ?_) ?_
  try walk_nrm
  refine tk 4 (v := ?_) ?_
  try walk_nrm
  refine tk 5 (v := ?_) ?_
  try walk_nrm
  refine tk 6 (v := ?_) ?_
  try walk_nrm
  refine wpAnyH_ready (rs := [7, 8]) (by kernel_rfl) (by simp) ?_
  refine AllReadyH.cons rfl (fun K hK => ?_) ?_
  · go_simp
    go_at_call 35
    refine (spec_seenRead (u.extract n u.size) wd (by rw [ByteArray.size_extract]; unfold maxLen; omega)).mono ?_
    rintro e wc7 ⟨ja, jc, rfl, ho, hb⟩
    have O := jj (show OwnI wc7 wd.heap.size wc7.heap.size ja (readL (u.extract n u.size)) from ⟨ho, Nat.le_refl _⟩)
    clear ho
    replace N := jj (N.out.below hb)
    replace D := jj (D.out.below hb)
    replace T := jj (T.out.below hb)
    replace Y := jj (Y.out.below hb)
    have Zc0 := hb.size
    clear hb
    go_wp2_with fail
    refine hK.out _ _ (by exact ⟨T.out.c3.1, Y.out.c1⟩) (fun hHeld => ?_)
    clear hK K
    try walk_nrm
    refine rd 8 (fun K hK => ?_)
    go_simp
    have hb := step_alloc wc7 (.cells #[.slice none 0 0, .int .i64 0] 30)
    replace N := jj (N.out.below hb)
    replace D := jj (D.out.below hb)
    replace T := jj (T.out.below hb)
    replace Y := jj (Y.out.below hb)
    replace O := jj (O.out.below hb)
    clear hb
    have NV := jj (New2.new wc7 (.slice none 0 0) (.int .i64 0) 30)
    have Za : wc7.heap.size < (wc7.alloc (.cells #[.slice none 0 0, .int .i64 0] 30)).heap.size := by simp
    obtain ⟨gb, hgb⟩ : ∃ gb, gb = wc7.heap.size := ⟨_, rfl⟩
    have Qa : wc7.heap.size ≤ gb := by omega
    have Qb : gb < (wc7.alloc (.cells #[.slice none 0 0, .int .i64 0] 30)).heap.size := by omega
    rw [← hgb] at NV ⊢
    clear hgb
    generalize wc7.alloc (.cells #[.slice none 0 0, .int .i64 0] 30) = wa at NV Za Qb N D T Y O ⊢
    refine hK.out _ _ (by exact ⟨T.out.c3.1, Y.out.c1⟩) (fun hHeld => ?_)
    clear hK K
    try walk_nrm
    obtain ⟨nv0, nv1, nf0, nf1, nl⟩ := NV.out
    refine rd 9 (fun K hK => ?_)
    go_simp
    have hw := ((Within.refl gb (gb + 1) wa).setCell (p := ⟨gb, 0, none⟩) (Nat.le_refl _) (Nat.lt_succ_self _) (.slice ja (readL (u.extract n u.size)).length jc)).setCell (p := ⟨gb, 1, none⟩) (Nat.le_refl _) (Nat.lt_succ_self _) (.int .i64 (readC (u.extract n u.size)))
    have V := jj (NV.out.store (.slice ja (readL (u.extract n u.size)).length jc) (.int .i64 (readC (u.extract n u.size))))
    replace N := jj (N.out.within hw (by omega))
    replace D := jj (D.out.within hw (by omega))
    replace T := jj (T.out.within hw (by omega))
    replace Y := jj (Y.out.within hw (by omega))
    replace O := jj (O.out.within hw (by omega))
    have Zs : wa.heap.size ≤ (World.setCell (World.setCell wa ⟨gb, 0, none⟩ (.slice ja (readL (u.extract n u.size)).length jc)) ⟨gb, 1, none⟩ (.int .i64 (readC (u.extract n u.size)))).heap.size := hw.size
    clear hw NV nv0 nv1 nf0 nf1 nl
    generalize (World.setCell (World.setCell wa ⟨gb, 0, none⟩ (.slice ja (readL (u.extract n u.size)).length jc)) ⟨gb, 1, none⟩ (.int .i64 (readC (u.extract n u.size)))) = wz at V Zs N D T Y O ⊢
    refine hK.out _ _ (by exact ⟨T.out.c3.1, Y.out.c1⟩) (fun hHeld => ?_)
    clear hK K
    try walk_nrm
    refine rx ?_
    obtain ⟨L, hL⟩ : ∃ l, readL (u.extract n u.size) = l := ⟨_, rfl⟩
    obtain ⟨C, hC⟩ : ∃ c, readC (u.extract n u.size) = c := ⟨_, rfl⟩
    have hL5 : L.length ≤ 5 := by rw [← hL]; exact readL_length _
    have HLL := jj hL
    have HCC := jj hC
    rw [hL] at O V ⊢
    rw [hC] at V
    clear hL hC
    have hlo := O.out.2
    have y2 := Y.out.c2
    obtain ⟨x0, x1, xl⟩ := V.out
    cases b
    rotate_left
    · have HX := jj (pr_none H8.out HN.out S0.out HC.out (by rw [HU.out]; exact HB1.out rfl))
      obtain ⟨c0, c1, f0, f1⟩ := N.out.c2
      go_wp2
      exact bodyPost_ret (v := .agg #[.slice none 0 0, .int .i64 3]) (by simp [results, Tryd.results9, go_sem, c0, c1, f0, f1]) rfl (prs_out HX.out ((D.out.setCell (p := ⟨g, 0, none⟩) hgl _).setCell (p := ⟨g, 1, none⟩) hgl _))
    have HT := jj (HB0.out rfl)
    by_cases hc : C = 0
    rotate_left
    · have hc2 : (C != 0) = true := by simpa using hc
      have hno : passA u = none := by
        cases hp : passA u with
        | none => rfl
        | some p =>
          obtain ⟨m, q1, q2, q3, q4, _⟩ := passA_inv hp
          rw [HT.out] at q1
          simp only [Option.some.injEq, Prod.mk.injEq] at q1
          have hm : m = n := by omega
          rw [hm] at q3
          exact absurd ((HCC.out.symm.trans (seen_tail q3 hu8).2)) hc
      have HX := jj (pr_none H8.out HN.out S0.out HC.out (by rw [HU.out]; exact hno))
      clear hc hno
      obtain ⟨c0, c1, f0, f1⟩ := N.out.c2
      go_wp2
      exact bodyPost_ret (v := .agg #[.slice none 0 0, .int .i64 3]) (by simp [results, Tryd.results9, go_sem, c0, c1, f0, f1]) rfl (prs_out HX.out ((D.out.setCell (p := ⟨g, 0, none⟩) hgl _).setCell (p := ⟨g, 1, none⟩) hgl _))
    subst hc
    have OA := jj O.out.1.at_
    have BW : ∀ W, Base wz W → Cells W g [.slice none 0 0, .int .i64 0] := fun W h => N.out.below h
    go_wp2_with fail
    refine (spec_passOf y ja jc L wz (by unfold maxLen; omega) (by unfold maxLen; omega) OA.out).mono ?_
    rintro e wy ⟨rfl, hb⟩
    replace N := jj (N.out.below hb)
    replace D := jj (D.out.below hb)
    replace V := jj (V.out.below hb)
    replace O := jj (O.out.below hb)
    clear hb x0 x1 xl y2 OA BW
    by_cases hv : passV y L = s
    rotate_left
    · have hv2 : ((passV y L).toList == s.toList) = false := Se.list_ne hv
      have hno : passA u = none := by
        cases hp : passA u with
        | none => rfl
        | some p =>
          obtain ⟨m, q1, q2, q3, q4, _⟩ := passA_inv hp
          have hpv := passV_of HC.out (by rw [HU.out]; exact hp)
          rw [HT.out] at q1
          simp only [Option.some.injEq, Prod.mk.injEq] at q1
          have hm : m = n := by omega
          rw [hm] at q3
          have h1 := HLL.out.symm.trans (seen_tail q3 hu8).1
          rw [← q1.1, ← h1] at hpv
          exact absurd hpv hv
      have HX := jj (pr_none H8.out HN.out S0.out HC.out (by rw [HU.out]; exact hno))
      clear hv hno
      obtain ⟨c0, c1, f0, f1⟩ := N.out.c2
      go_wp2
      exact bodyPost_ret (v := .agg #[.slice none 0 0, .int .i64 3]) (by simp [results, Tryd.results9, go_sem, c0, c1, f0, f1]) rfl (prs_out HX.out ((D.out.setCell (p := ⟨g, 0, none⟩) hgl _).setCell (p := ⟨g, 1, none⟩) hgl _))
    have hv2 : ((passV y L).toList == s.toList) = true := by rw [hv]; simp
    have HA := jj (passV_back HC.out (p := (y, L)) hv)
    clear hv
    by_cases hy : y = k
    rotate_left
    · have hy2 : (y.toList == k.toList) = false := Se.list_ne hy
      have HX := jj (pr_other H8.out HN.out S0.out HC.out HA.out hy)
      clear hy
      obtain ⟨c0, c1, f0, f1⟩ := N.out.c2
      go_wp2
      exact bodyPost_ret (v := .agg #[.slice none 0 0, .int .i64 6]) (by simp [results, Tryd.results9, go_sem, c0, c1, f0, f1]) rfl (prs_out HX.out ((D.out.setCell (p := ⟨g, 0, none⟩) hgl _).setCell (p := ⟨g, 1, none⟩) hgl _))
    have hy2 : (y.toList == k.toList) = true := by rw [hy]; simp
    have HX := jj (pr_yes H8.out HN.out S0.out HC.out HA.out hy)
    clear hy
    obtain ⟨c0, c1, f0, f1⟩ := N.out.c2
    obtain ⟨x0, x1, xl⟩ := V.out
    have hlo2 := O.out.2
    go_wp2
    refine bodyPost_ret (v := .agg #[.slice ja L.length jc, .int .i64 0]) (by simp [results, Tryd.results9, go_sem, c0, c1, f0, f1]) rfl ?_
    rw [HX.out.1, HX.out.2]
    refine ⟨ja, jc, rfl, ?_, (D.out.setCell (p := ⟨g, 0, none⟩) hgl _).setCell (p := ⟨g, 1, none⟩) hgl _⟩
    have h1 := O.out.1
    rw [size_set, size_set]
    refine (OwnIn.wide (h1.same ?_) (by omega) hlo2)
    intro x h2 h3
    rw [Below.heap_setCell _ _ _ _ (by simp only; omega), Below.heap_setCell _ _ _ _ (by simp only; omega)]
  refine AllReadyH.cons rfl (fun K hK => ?_) AllReadyH.nil
  go_simp
  have hb := step_alloc wd (.cells #[.slice none 0 0, .int .i64 0] 30)
  replace N := jj (N.out.below hb)
  replace D := jj (D.out.below hb)
  replace T := jj (T.out.below hb)
  replace Y := jj (Y.out.below hb)
  clear hb
  have NV := jj (New2.new wd (.slice none 0 0) (.int .i64 0) 30)
  have Za : wd.heap.size < (wd.alloc (.cells #[.slice none 0 0, .int .i64 0] 30)).heap.size := by simp
  obtain ⟨gb, hgb⟩ : ∃ gb, gb = wd.heap.size := ⟨_, rfl⟩
  have Qa : wd.heap.size ≤ gb := by omega
  have Qb : gb < (wd.alloc (.cells #[.slice none 0 0, .int .i64 0] 30)).heap.size := by omega
  rw [← hgb] at NV ⊢
  clear hgb
  generalize wd.alloc (.cells #[.slice none 0 0, .int .i64 0] 30) = wa at NV Za Qb N D T Y ⊢
  refine hK.out _ _ (by exact ⟨T.out.c3.1, Y.out.c1⟩) (fun hHeld => ?_)
  clear hK K
  try walk_nrm
  refine rd 7 (fun K hK => ?_)
  go_simp
  go_at_call 35
  refine (spec_seenRead (u.extract n u.size) wa (by rw [ByteArray.size_extract]; unfold maxLen; omega)).mono ?_
  rintro e wc7 ⟨ja, jc, rfl, ho, hb⟩
  have O := jj (show OwnI wc7 wa.heap.size wc7.heap.size ja (readL (u.extract n u.size)) from ⟨ho, Nat.le_refl _⟩)
  clear ho
  replace N := jj (N.out.below hb)
  replace D := jj (D.out.below hb)
  replace T := jj (T.out.below hb)
  replace Y := jj (Y.out.below hb)
  replace NV := jj (NV.out.below hb)
  have Zc0 := hb.size
  clear hb
  go_wp2_with fail
  refine hK.out _ _ (by exact ⟨T.out.c3.1, Y.out.c1⟩) (fun hHeld => ?_)
  clear hK K
  try walk_nrm
  obtain ⟨nv0, nv1, nf0, nf1, nl⟩ := NV.out
  refine rd 9 (fun K hK => ?_)
  go_simp
  have hw := ((Within.refl gb (gb + 1) wc7).setCell (p := ⟨gb, 0, none⟩) (Nat.le_refl _) (Nat.lt_succ_self _) (.slice ja (readL (u.extract n u.size)).length jc)).setCell (p := ⟨gb, 1, none⟩) (Nat.le_refl _) (Nat.lt_succ_self _) (.int .i64 (readC (u.extract n u.size)))
  have V := jj (NV.out.store (.slice ja (readL (u.extract n u.size)).length jc) (.int .i64 (readC (u.extract n u.size))))
  replace N := jj (N.out.within hw (by omega))
  replace D := jj (D.out.within hw (by omega))
  replace T := jj (T.out.within hw (by omega))
  replace Y := jj (Y.out.within hw (by omega))
  replace O := jj (O.out.within hw (by omega))
  have Zs : wc7.heap.size ≤ (World.setCell (World.setCell wc7 ⟨gb, 0, none⟩ (.slice ja (readL (u.extract n u.size)).length jc)) ⟨gb, 1, none⟩ (.int .i64 (readC (u.extract n u.size)))).heap.size := hw.size
  clear hw NV nv0 nv1 nf0 nf1 nl
  generalize (World.setCell (World.setCell wc7 ⟨gb, 0, none⟩ (.slice ja (readL (u.extract n u.size)).length jc)) ⟨gb, 1, none⟩ (.int .i64 (readC (u.extract n u.size)))) = wz at V Zs N D T Y O ⊢
  refine hK.out _ _ (by exact ⟨T.out.c3.1, Y.out.c1⟩) (fun hHeld => ?_)
  clear hK K
  try walk_nrm
  refine rx ?_
  obtain ⟨L, hL⟩ : ∃ l, readL (u.extract n u.size) = l := ⟨_, rfl⟩
  obtain ⟨C, hC⟩ : ∃ c, readC (u.extract n u.size) = c := ⟨_, rfl⟩
  have hL5 : L.length ≤ 5 := by rw [← hL]; exact readL_length _
  have HLL := jj hL
  have HCC := jj hC
  rw [hL] at O V ⊢
  rw [hC] at V
  clear hL hC
  have hlo := O.out.2
  have y2 := Y.out.c2
  obtain ⟨x0, x1, xl⟩ := V.out
  cases b
  rotate_left
  · have HX := jj (pr_none H8.out HN.out S0.out HC.out (by rw [HU.out]; exact HB1.out rfl))
    obtain ⟨c0, c1, f0, f1⟩ := N.out.c2
    go_wp2
    exact bodyPost_ret (v := .agg #[.slice none 0 0, .int .i64 3]) (by simp [results, Tryd.results9, go_sem, c0, c1, f0, f1]) rfl (prs_out HX.out ((D.out.setCell (p := ⟨g, 0, none⟩) hgl _).setCell (p := ⟨g, 1, none⟩) hgl _))
  have HT := jj (HB0.out rfl)
  by_cases hc : C = 0
  rotate_left
  · have hc2 : (C != 0) = true := by simpa using hc
    have hno : passA u = none := by
      cases hp : passA u with
      | none => rfl
      | some p =>
        obtain ⟨m, q1, q2, q3, q4, _⟩ := passA_inv hp
        rw [HT.out] at q1
        simp only [Option.some.injEq, Prod.mk.injEq] at q1
        have hm : m = n := by omega
        rw [hm] at q3
        exact absurd ((HCC.out.symm.trans (seen_tail q3 hu8).2)) hc
    have HX := jj (pr_none H8.out HN.out S0.out HC.out (by rw [HU.out]; exact hno))
    clear hc hno
    obtain ⟨c0, c1, f0, f1⟩ := N.out.c2
    go_wp2
    exact bodyPost_ret (v := .agg #[.slice none 0 0, .int .i64 3]) (by simp [results, Tryd.results9, go_sem, c0, c1, f0, f1]) rfl (prs_out HX.out ((D.out.setCell (p := ⟨g, 0, none⟩) hgl _).setCell (p := ⟨g, 1, none⟩) hgl _))
  subst hc
  have OA := jj O.out.1.at_
  have BW : ∀ W, Base wz W → Cells W g [.slice none 0 0, .int .i64 0] := fun W h => N.out.below h
  go_wp2_with fail
  refine (spec_passOf y ja jc L wz (by unfold maxLen; omega) (by unfold maxLen; omega) OA.out).mono ?_
  rintro e wy ⟨rfl, hb⟩
  replace N := jj (N.out.below hb)
  replace D := jj (D.out.below hb)
  replace V := jj (V.out.below hb)
  replace O := jj (O.out.below hb)
  clear hb x0 x1 xl y2 OA BW
  by_cases hv : passV y L = s
  rotate_left
  · have hv2 : ((passV y L).toList == s.toList) = false := Se.list_ne hv
    have hno : passA u = none := by
      cases hp : passA u with
      | none => rfl
      | some p =>
        obtain ⟨m, q1, q2, q3, q4, _⟩ := passA_inv hp
        have hpv := passV_of HC.out (by rw [HU.out]; exact hp)
        rw [HT.out] at q1
        simp only [Option.some.injEq, Prod.mk.injEq] at q1
        have hm : m = n := by omega
        rw [hm] at q3
        have h1 := HLL.out.symm.trans (seen_tail q3 hu8).1
        rw [← q1.1, ← h1] at hpv
        exact absurd hpv hv
    have HX := jj (pr_none H8.out HN.out S0.out HC.out (by rw [HU.out]; exact hno))
    clear hv hno
    obtain ⟨c0, c1, f0, f1⟩ := N.out.c2
    go_wp2
    exact bodyPost_ret (v := .agg #[.slice none 0 0, .int .i64 3]) (by simp [results, Tryd.results9, go_sem, c0, c1, f0, f1]) rfl (prs_out HX.out ((D.out.setCell (p := ⟨g, 0, none⟩) hgl _).setCell (p := ⟨g, 1, none⟩) hgl _))
  have hv2 : ((passV y L).toList == s.toList) = true := by rw [hv]; simp
  have HA := jj (passV_back HC.out (p := (y, L)) hv)
  clear hv
  by_cases hy : y = k
  rotate_left
  · have hy2 : (y.toList == k.toList) = false := Se.list_ne hy
    have HX := jj (pr_other H8.out HN.out S0.out HC.out HA.out hy)
    clear hy
    obtain ⟨c0, c1, f0, f1⟩ := N.out.c2
    go_wp2
    exact bodyPost_ret (v := .agg #[.slice none 0 0, .int .i64 6]) (by simp [results, Tryd.results9, go_sem, c0, c1, f0, f1]) rfl (prs_out HX.out ((D.out.setCell (p := ⟨g, 0, none⟩) hgl _).setCell (p := ⟨g, 1, none⟩) hgl _))
  have hy2 : (y.toList == k.toList) = true := by rw [hy]; simp
  have HX := jj (pr_yes H8.out HN.out S0.out HC.out HA.out hy)
  clear hy
  obtain ⟨c0, c1, f0, f1⟩ := N.out.c2
  obtain ⟨x0, x1, xl⟩ := V.out
  have hlo2 := O.out.2
  go_wp2
  refine bodyPost_ret (v := .agg #[.slice ja L.length jc, .int .i64 0]) (by simp [results, Tryd.results9, go_sem, c0, c1, f0, f1]) rfl ?_
  rw [HX.out.1, HX.out.2]
  refine ⟨ja, jc, rfl, ?_, (D.out.setCell (p := ⟨g, 0, none⟩) hgl _).setCell (p := ⟨g, 1, none⟩) hgl _⟩
  have h1 := O.out.1
  rw [size_set, size_set]
  refine (OwnIn.wide (h1.same ?_) (by omega) hlo2)
  intro x h2 h3
  rw [Below.heap_setCell _ _ _ _ (by simp only; omega), Below.heap_setCell _ _ _ _ (by simp only; omega)]
end Go.Proofs.YtiaoifodaoifjaaDoor.Sb
