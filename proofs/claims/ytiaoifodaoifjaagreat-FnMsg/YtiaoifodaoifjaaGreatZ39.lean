/- Parts of a law: MsgReadS. Conditions: on sizes, as each says. -/
import Derived.Test.YtiaoifodaoifjaaGreatZ1
import Derived.Test.YtiaoifodaoifjaaGreatZ22
import Derived.Test.YtiaoifodaoifjaaGreatZ36
import Derived.Test.YtiaoifodaoifjaaGreatZ37
import Derived.Test.YtiaoifodaoifjaaGreatZ32
import Derived.Test.YtiaoifodaoifjaaGreatZ13
import Derived.Test.YtiaoifodaoifjaaGreatZ19
set_option linter.unusedSimpArgs false
set_option linter.unusedVariables false
namespace Go.Proofs.YtiaoifodaoifjaaGreat.Sb
open Go.RowKit Go.Proofs.YtiaoifodaoifjaaGreat.Mk Go.Proofs.YtiaoifodaoifjaaGreat.Rw Go.Proofs.YtiaoifodaoifjaaGreat.Ge Go.Proofs.YtiaoifodaoifjaaGreat.Pn Go.Proofs.YtiaoifodaoifjaaGreat.Se
set_option maxRecDepth 100000 in
set_option maxHeartbeats 4000000 in
theorem spec_msgRead (s : ByteArray) (w : World) (hs : s.size ≤ maxLen) : Calls Tryz.prog 8 #[.string s] w (GivesMO w (mrK s) (mrF s) (mrT s) (mrQ s) (mrY s) (mrO s) (mrL s) (mrS s) (mrC s)) := by
  have R := jj (Cells.new w #[.int .i64 0, .int .i64 0, .int .i64 0, .int .i64 0, .string ⟨#[]⟩, .int .i64 0, .slice none 0 0, .slice none 0 0, .int .i64 0] 33)
  have D := jj (show Base w _ from step_alloc w (.cells #[.int .i64 0, .int .i64 0, .int .i64 0, .int .i64 0, .string ⟨#[]⟩, .int .i64 0, .slice none 0 0, .slice none 0 0, .int .i64 0] 33))
  have hz : w.heap.size + 1 = (w.alloc (.cells #[.int .i64 0, .int .i64 0, .int .i64 0, .int .i64 0, .string ⟨#[]⟩, .int .i64 0, .slice none 0 0, .slice none 0 0, .int .i64 0] 33)).heap.size := by simp
  simp only [List.toList_toArray] at R
  go_enter Tryz.func8, Tryz.ntmps8
  go_wp2_with fail
  generalize w.alloc (.cells #[.int .i64 0, .int .i64 0, .int .i64 0, .int .i64 0, .string ⟨#[]⟩, .int .i64 0, .slice none 0 0, .slice none 0 0, .int .i64 0] 33) = w0 at R D hz ⊢
  refine (spec_Unseal s hs w0).mono ?_
  rintro e w1 ⟨rfl, hb⟩
  rw [un_is]
  unfold out
  replace R := jj (R.out.below hb)
  replace D := jj (D.out.below hb)
  replace hz := Nat.le_trans (Nat.le_of_eq hz) hb.size
  clear hb
  by_cases hu : unC s = 0
  rotate_left
  · obtain ⟨hn, hc⟩ := mrC_bad hu
    have HN := jj hn
    have HC := jj hc
    clear hn hc
    have hb := step_alloc w1 (.cells #[.string (unT s), .int .i64 0, .int .i64 (unC s)] 51)
    replace R := jj (R.out.below hb)
    replace D := jj (D.out.below hb)
    clear hb
    obtain ⟨C, hC⟩ : ∃ C, unC s = C := ⟨_, rfl⟩
    rw [hC] at hu HC R D ⊢
    clear hC
    obtain ⟨r0, r1, r2, r3, r4, r5, r6, r7, r8, g0, g1, g2, g3, g4, g5, g6, g7, g8⟩ := R.out.c9
    go_wp2
    have hw := within_set9 (w1.alloc (.cells #[.string (unT s), .int .i64 0, .int .i64 C] 51)) w.heap.size (.int .i64 0) (.int .i64 0) (.int .i64 0) (.int .i64 0) (.string ⟨#[]⟩) (.int .i64 0) (.slice none 0 0) (.slice none 0 0) (.int .i64 C)
    have R2 := cells_set9 R.out (.int .i64 0) (.int .i64 0) (.int .i64 0) (.int .i64 0) (.string ⟨#[]⟩) (.int .i64 0) (.slice none 0 0) (.slice none 0 0) (.int .i64 C)
    obtain ⟨q0, q1, q2, q3, q4, q5, q6, q7, q8, _⟩ := R2.c9
    refine bodyPost_ret (v := .agg #[.int .i64 0, .int .i64 0, .int .i64 0, .int .i64 0, .string ⟨#[]⟩, .int .i64 0, .slice none 0 0, .slice none 0 0, .int .i64 C]) (by simp [results, Tryz.results8, go_sem, q0, q1, q2, q3, q4, q5, q6, q7, q8]) rfl ?_
    exact read_no HN.out HC.out (givesMO_no C (D.out.within hw (by omega)))
  have HU := jj hu
  rw [hu]
  clear hu
  have ht := unT_size s
  obtain ⟨t, hte⟩ : ∃ t, unT s = t := ⟨_, rfl⟩
  have HT := jj hte
  rw [hte] at ht ⊢
  clear hte
  have hb := step_alloc w1 (.cells #[.string t, .int .i64 0, .int .i64 0] 51)
  replace R := jj (R.out.below hb)
  replace D := jj (D.out.below hb)
  have T := jj (Cells.new w1 #[.string t, .int .i64 0, .int .i64 0] 51)
  clear hb
  have hb := step_alloc (w1.alloc (.cells #[.string t, .int .i64 0, .int .i64 0] 51)) (.cells #[.string t, .int .i64 0, .bool false] 59)
  replace R := jj (R.out.below hb)
  replace D := jj (D.out.below hb)
  replace T := jj (T.out.below hb)
  have Y := jj (Rd.new (w1.alloc (.cells #[.string t, .int .i64 0, .int .i64 0] 51)) t 59)
  have z1 : w1.heap.size + 2 = ((w1.alloc (.cells #[.string t, .int .i64 0, .int .i64 0] 51)).alloc (.cells #[.string t, .int .i64 0, .bool false] 59)).heap.size := by simp
  simp only [World.size_alloc, List.toList_toArray] at T Y
  clear hb
  go_wp2_with fail
  obtain ⟨gt, hgt⟩ : ∃ g, g = w1.heap.size := ⟨_, rfl⟩
  obtain ⟨gr, hgr⟩ : ∃ g, g = w1.heap.size + 1 := ⟨_, rfl⟩
  have lgt : w1.heap.size ≤ gt := by omega
  have lgr : gt + 1 ≤ gr := by omega
  have ugr : gr < ((w1.alloc (.cells #[.string t, .int .i64 0, .int .i64 0] 51)).alloc (.cells #[.string t, .int .i64 0, .bool false] 59)).heap.size := by omega
  rw [← hgr] at Y ⊢
  rw [← hgt] at T ⊢
  clear hgt hgr z1
  generalize (w1.alloc (.cells #[.string t, .int .i64 0, .int .i64 0] 51)).alloc (.cells #[.string t, .int .i64 0, .bool false] 59) = w2 at R D T Y ugr ⊢
  have AI : AtIn t (0, false) := ⟨0, rfl, Nat.zero_le _⟩
  refine (num_any gr t (0, false) w2 ht Y.out).mono ?_
  rintro e v1 ⟨rfl, hrd, hw⟩
  obtain ⟨x1, hx⟩ : ∃ x, (numR t (0, false)).1 = x := ⟨_, rfl⟩
  obtain ⟨q1, hq⟩ : ∃ x, (numR t (0, false)).2 = x := ⟨_, rfl⟩
  have H1 := jj (show numR t (0, false) = (x1, q1) from Prod.ext hx hq)
  have AJ := numR_in AI
  rw [hq] at AJ hrd
  rw [hx]
  clear hx hq AI
  have AI := AJ
  clear AJ
  have Y2 := jj hrd
  replace R := jj (R.out.within hw (by omega))
  replace D := jj (D.out.within hw (by omega))
  replace T := jj (T.out.within hw (by omega))
  have zv0 := hw.size
  clear hw hrd Y
  have Y := Y2
  clear Y2
  have hb := step_alloc v1 (.cells #[.int .i64 x1, .int .i64 0, .int .i64 0, .int .i64 0, .string ⟨#[]⟩, .int .i64 0, .slice none 0 0, .slice none 0 0] 28)
  replace R := jj (R.out.below hb)
  replace D := jj (D.out.below hb)
  replace T := jj (T.out.below hb)
  replace Y := jj (Y.out.below hb)
  have M := jj (Cells.new v1 #[.int .i64 x1, .int .i64 0, .int .i64 0, .int .i64 0, .string ⟨#[]⟩, .int .i64 0, .slice none 0 0, .slice none 0 0] 28)
  have z3 : v1.heap.size < (v1.alloc (.cells #[.int .i64 x1, .int .i64 0, .int .i64 0, .int .i64 0, .string ⟨#[]⟩, .int .i64 0, .slice none 0 0, .slice none 0 0] 28)).heap.size := by simp
  simp only [List.toList_toArray] at M
  clear hb
  go_wp2_with fail
  obtain ⟨gm, hgm⟩ : ∃ g, g = v1.heap.size := ⟨_, rfl⟩
  have lgm : v1.heap.size ≤ gm := by omega
  have ugm : gm < (v1.alloc (.cells #[.int .i64 x1, .int .i64 0, .int .i64 0, .int .i64 0, .string ⟨#[]⟩, .int .i64 0, .slice none 0 0, .slice none 0 0] 28)).heap.size := by omega
  rw [← hgm] at M ⊢
  clear hgm
  generalize v1.alloc (.cells #[.int .i64 x1, .int .i64 0, .int .i64 0, .int .i64 0, .string ⟨#[]⟩, .int .i64 0, .slice none 0 0, .slice none 0 0] 28) = u1 at R D T Y M z3 ugm ⊢
  refine (num_any gr t q1 u1 ht Y.out).mono ?_
  rintro e v2 ⟨rfl, hrd, hw⟩
  obtain ⟨x2, hx⟩ : ∃ x, (numR t q1).1 = x := ⟨_, rfl⟩
  obtain ⟨q2, hq⟩ : ∃ x, (numR t q1).2 = x := ⟨_, rfl⟩
  have H2 := jj (show numR t q1 = (x2, q2) from Prod.ext hx hq)
  have AJ := numR_in AI
  rw [hq] at AJ hrd
  rw [hx]
  clear hx hq AI
  have AI := AJ
  clear AJ
  have Y2 := jj hrd
  replace R := jj (R.out.within hw (by omega))
  replace D := jj (D.out.within hw (by omega))
  replace T := jj (T.out.within hw (by omega))
  replace M := jj (M.out.within hw (by omega))
  have zv1 := hw.size
  clear hw hrd Y
  have Y := Y2
  clear Y2
  obtain ⟨m0, m1, m2, m3, m4, m5, m6, m7, f0, f1, f2, f3, f4, f5, f6, f7⟩ := M.out.c8
  go_wp2_with fail
  have hw := one_store v2 gm 1 (.int .i64 x2)
  replace M := jj (show Cells _ _ [.int .i64 x1, .int .i64 x2, .int .i64 0, .int .i64 0, .string ⟨#[]⟩, .int .i64 0, .slice none 0 0, .slice none 0 0] from M.out.set 1 (by simp) (.int .i64 x2))
  replace R := jj (R.out.within hw (by omega))
  replace D := jj (D.out.within hw (by omega))
  replace T := jj (T.out.within hw (by omega))
  replace Y := jj (Y.out.within hw (by omega))
  have zu1 := hw.size
  clear hw m0 f0 m1 f1 m2 f2 m3 f3 m4 f4 m5 f5 m6 f6 m7 f7
  generalize v2.setCell ⟨gm, 1, none⟩ (.int .i64 x2) = u2 at R D T Y M zu1 ⊢
  refine (num_any gr t q2 u2 ht Y.out).mono ?_
  rintro e v3 ⟨rfl, hrd, hw⟩
  obtain ⟨x3, hx⟩ : ∃ x, (numR t q2).1 = x := ⟨_, rfl⟩
  obtain ⟨q3, hq⟩ : ∃ x, (numR t q2).2 = x := ⟨_, rfl⟩
  have H3 := jj (show numR t q2 = (x3, q3) from Prod.ext hx hq)
  have AJ := numR_in AI
  rw [hq] at AJ hrd
  rw [hx]
  clear hx hq AI
  have AI := AJ
  clear AJ
  have Y2 := jj hrd
  replace R := jj (R.out.within hw (by omega))
  replace D := jj (D.out.within hw (by omega))
  replace T := jj (T.out.within hw (by omega))
  replace M := jj (M.out.within hw (by omega))
  have zv2 := hw.size
  clear hw hrd Y
  have Y := Y2
  clear Y2
  obtain ⟨m0, m1, m2, m3, m4, m5, m6, m7, f0, f1, f2, f3, f4, f5, f6, f7⟩ := M.out.c8
  go_wp2_with fail
  have hw := one_store v3 gm 2 (.int .i64 x3)
  replace M := jj (show Cells _ _ [.int .i64 x1, .int .i64 x2, .int .i64 x3, .int .i64 0, .string ⟨#[]⟩, .int .i64 0, .slice none 0 0, .slice none 0 0] from M.out.set 2 (by simp) (.int .i64 x3))
  replace R := jj (R.out.within hw (by omega))
  replace D := jj (D.out.within hw (by omega))
  replace T := jj (T.out.within hw (by omega))
  replace Y := jj (Y.out.within hw (by omega))
  have zu2 := hw.size
  clear hw m0 f0 m1 f1 m2 f2 m3 f3 m4 f4 m5 f5 m6 f6 m7 f7
  generalize v3.setCell ⟨gm, 2, none⟩ (.int .i64 x3) = u3 at R D T Y M zu2 ⊢
  refine (num_any gr t q3 u3 ht Y.out).mono ?_
  rintro e v4 ⟨rfl, hrd, hw⟩
  obtain ⟨x4, hx⟩ : ∃ x, (numR t q3).1 = x := ⟨_, rfl⟩
  obtain ⟨q4, hq⟩ : ∃ x, (numR t q3).2 = x := ⟨_, rfl⟩
  have H4 := jj (show numR t q3 = (x4, q4) from Prod.ext hx hq)
  have AJ := numR_in AI
  rw [hq] at AJ hrd
  rw [hx]
  clear hx hq AI
  have AI := AJ
  clear AJ
  have Y2 := jj hrd
  replace R := jj (R.out.within hw (by omega))
  replace D := jj (D.out.within hw (by omega))
  replace T := jj (T.out.within hw (by omega))
  replace M := jj (M.out.within hw (by omega))
  have zv3 := hw.size
  clear hw hrd Y
  have Y := Y2
  clear Y2
  obtain ⟨m0, m1, m2, m3, m4, m5, m6, m7, f0, f1, f2, f3, f4, f5, f6, f7⟩ := M.out.c8
  go_wp2_with fail
  have hw := one_store v4 gm 3 (.int .i64 x4)
  replace M := jj (show Cells _ _ [.int .i64 x1, .int .i64 x2, .int .i64 x3, .int .i64 x4, .string ⟨#[]⟩, .int .i64 0, .slice none 0 0, .slice none 0 0] from M.out.set 3 (by simp) (.int .i64 x4))
  replace R := jj (R.out.within hw (by omega))
  replace D := jj (D.out.within hw (by omega))
  replace T := jj (T.out.within hw (by omega))
  replace Y := jj (Y.out.within hw (by omega))
  have zu3 := hw.size
  clear hw m0 f0 m1 f1 m2 f2 m3 f3 m4 f4 m5 f5 m6 f6 m7 f7
  generalize v4.setCell ⟨gm, 3, none⟩ (.int .i64 x4) = u4 at R D T Y M zu3 ⊢
  refine (text_any gr t q4 u4 ht Y.out).mono ?_
  rintro e v5 ⟨rfl, hrd, hw⟩
  obtain ⟨ky, hx⟩ : ∃ x, (textR t q4).1 = x := ⟨_, rfl⟩
  obtain ⟨q5, hq⟩ : ∃ x, (textR t q4).2 = x := ⟨_, rfl⟩
  have H5 := jj (show textR t q4 = (ky, q5) from Prod.ext hx hq)
  have AJ := textR_in AI
  rw [hq] at AJ hrd
  rw [hx]
  have kys := textR_len q4 ht
  rw [hx] at kys
  clear hx hq AI
  have AI := AJ
  clear AJ
  have Y2 := jj hrd
  replace R := jj (R.out.within hw (by omega))
  replace D := jj (D.out.within hw (by omega))
  replace T := jj (T.out.within hw (by omega))
  replace M := jj (M.out.within hw (by omega))
  have zv4 := hw.size
  clear hw hrd Y
  have Y := Y2
  clear Y2
  obtain ⟨m0, m1, m2, m3, m4, m5, m6, m7, f0, f1, f2, f3, f4, f5, f6, f7⟩ := M.out.c8
  go_wp2_with fail
  have hw := one_store v5 gm 4 (.string ky)
  replace M := jj (show Cells _ _ [.int .i64 x1, .int .i64 x2, .int .i64 x3, .int .i64 x4, .string ky, .int .i64 0, .slice none 0 0, .slice none 0 0] from M.out.set 4 (by simp) (.string ky))
  replace R := jj (R.out.within hw (by omega))
  replace D := jj (D.out.within hw (by omega))
  replace T := jj (T.out.within hw (by omega))
  replace Y := jj (Y.out.within hw (by omega))
  have zu4 := hw.size
  clear hw m0 f0 m1 f1 m2 f2 m3 f3 m4 f4 m5 f5 m6 f6 m7 f7
  generalize v5.setCell ⟨gm, 4, none⟩ (.string ky) = u5 at R D T Y M zu4 ⊢
  refine (num_any gr t q5 u5 ht Y.out).mono ?_
  rintro e v6 ⟨rfl, hrd, hw⟩
  obtain ⟨x6, hx⟩ : ∃ x, (numR t q5).1 = x := ⟨_, rfl⟩
  obtain ⟨q6, hq⟩ : ∃ x, (numR t q5).2 = x := ⟨_, rfl⟩
  have H6 := jj (show numR t q5 = (x6, q6) from Prod.ext hx hq)
  have AJ := numR_in AI
  rw [hq] at AJ hrd
  rw [hx]
  clear hx hq AI
  have AI := AJ
  clear AJ
  have Y2 := jj hrd
  replace R := jj (R.out.within hw (by omega))
  replace D := jj (D.out.within hw (by omega))
  replace T := jj (T.out.within hw (by omega))
  replace M := jj (M.out.within hw (by omega))
  have zv5 := hw.size
  clear hw hrd Y
  have Y := Y2
  clear Y2
  obtain ⟨m0, m1, m2, m3, m4, m5, m6, m7, f0, f1, f2, f3, f4, f5, f6, f7⟩ := M.out.c8
  go_upto_region 11 with fail
  have hw := one_store v6 gm 5 (.int .i64 x6)
  replace M := jj (show Cells _ _ [.int .i64 x1, .int .i64 x2, .int .i64 x3, .int .i64 x4, .string ky, .int .i64 x6, .slice none 0 0, .slice none 0 0] from M.out.set 5 (by simp) (.int .i64 x6))
  replace R := jj (R.out.within hw (by omega))
  replace D := jj (D.out.within hw (by omega))
  replace T := jj (T.out.within hw (by omega))
  replace Y := jj (Y.out.within hw (by omega))
  have zu5 := hw.size
  clear hw m0 f0 m1 f1 m2 f2 m3 f3 m4 f4 m5 f5 m6 f6 m7 f7
  generalize v6.setCell ⟨gm, 5, none⟩ (.int .i64 x6) = u6 at R D T Y M zu5 ⊢
  obtain ⟨n, hn6, hnz⟩ := AI
  have G1 := H1
  rw [← HT.out] at G1
  have G2 := H2
  rw [← HT.out] at G2
  have G3 := H3
  rw [← HT.out] at G3
  have G4 := H4
  rw [← HT.out] at G4
  have G5 := H5
  rw [← HT.out] at G5
  have G6 := H6
  rw [← HT.out] at G6
  rw [hn6] at Y
  have hz6 : w.heap.size + 1 ≤ u6.heap.size := by omega
  obtain ⟨t0, t1, t2, _⟩ := T.out.c3
  have y1 := Y.out.c1
  go_wp2_with fail
  clear t0 t1 t2 y1
  have hb := step_drew u6
  replace R := jj (R.out.below hb)
  replace D := jj (D.out.below hb)
  replace T := jj (T.out.below hb)
  replace Y := jj (Y.out.below hb)
  replace M := jj (M.out.below hb)
  clear hb
  refine wp_region_held_drew (S := fun w' => w'.cell? ⟨gt, 0, none⟩ = some (.string t) ∧ w'.cell? ⟨gr, 1, none⟩ = some (.int .i64 (n : Int))) (by kernel_rfl) (by exact ⟨T.out.c3.1, Y.out.c1⟩) (fun hHeld => ?_)
  have Zd : u6.heap.size ≤ u6.drew.heap.size := Nat.le_refl _
  generalize u6.drew = wd at Zd hHeld R D T Y M ⊢
  refine tk 0 (v := ?_) ?_
  try walk_nrm
  refine tk 1 (v := ?_) ?_
  try walk_nrm
  refine tk 2 (v := ?_) ?_
  try walk_nrm
  refine tk 3 (v := ?_) ?_
  try walk_nrm
  refine tk 4 (v := ?_) ?_
  try walk_nrm
  refine tk 5 (v := ?_) ?_
  try walk_nrm
  refine tk 6 (v := ?_) ?_
  try walk_nrm
  refine wpAnyH_ready (rs := [7, 8]) (by kernel_rfl) (by simp) ?_
  refine AllReadyH.cons rfl (fun K hK => ?_) ?_
  · go_simp
    go_at_call 32
    refine (spec_setRead (t.extract n t.size) wd (by rw [ByteArray.size_extract]; unfold maxLen; omega)).mono ?_
    rintro e wc7 ⟨ja, jc, qa, qc, lo1, hi1, lo2, hi2, rfl, ho, hq, e1, e2, e3, e4, e5, -, hb⟩
    have O := jj (show OwnI wc7 lo1 hi1 ja (srL (t.extract n t.size)) from ⟨ho, e3⟩)
    have Q := jj (show ROwnI 4 senc wc7 lo2 hi2 qa (srS (t.extract n t.size)) from ⟨hq, e4⟩)
    clear ho hq
    replace R := jj (R.out.below hb)
    replace D := jj (D.out.below hb)
    replace T := jj (T.out.below hb)
    replace Y := jj (Y.out.below hb)
    replace M := jj (M.out.below hb)
    have Zc0 := hb.size
    clear hb
    go_wp2_with fail
    refine hK.out _ _ (by exact ⟨T.out.c3.1, Y.out.c1⟩) (fun hHeld => ?_)
    clear hK K
    try walk_nrm
    refine rd 8 (fun K hK => ?_)
    go_simp
    have hb := step_alloc wc7 (.cells #[.slice none 0 0, .slice none 0 0, .int .i64 0, .int .i64 0, .int .i64 0] 65)
    replace R := jj (R.out.below hb)
    replace D := jj (D.out.below hb)
    replace T := jj (T.out.below hb)
    replace Y := jj (Y.out.below hb)
    replace M := jj (M.out.below hb)
    replace O := jj (O.out.below hb)
    replace Q := jj (Q.out.below hb)
    clear hb
    have NV := jj (New5.new wc7 (.slice none 0 0) (.slice none 0 0) (.int .i64 0) (.int .i64 0) (.int .i64 0) 65)
    have Za : wc7.heap.size < (wc7.alloc (.cells #[.slice none 0 0, .slice none 0 0, .int .i64 0, .int .i64 0, .int .i64 0] 65)).heap.size := by simp
    obtain ⟨gb, hgb⟩ : ∃ gb, gb = wc7.heap.size := ⟨_, rfl⟩
    have Qa : wc7.heap.size ≤ gb := by omega
    have Qb : gb < (wc7.alloc (.cells #[.slice none 0 0, .slice none 0 0, .int .i64 0, .int .i64 0, .int .i64 0] 65)).heap.size := by omega
    rw [← hgb] at NV ⊢
    clear hgb
    generalize wc7.alloc (.cells #[.slice none 0 0, .slice none 0 0, .int .i64 0, .int .i64 0, .int .i64 0] 65) = wa at NV Za Qb R D T Y M O Q ⊢
    refine hK.out _ _ (by exact ⟨T.out.c3.1, Y.out.c1⟩) (fun hHeld => ?_)
    clear hK K
    try walk_nrm
    obtain ⟨nv0, nv1, nv2, nv3, nv4, nf0, nf1, nf2, nf3, nf4, nl⟩ := NV.out.all
    refine rd 9 (fun K hK => ?_)
    go_simp
    have hw := (((((Within.refl gb (gb + 1) wa).setCell (p := ⟨gb, 0, none⟩) (Nat.le_refl _) (Nat.lt_succ_self _) (.slice ja (srL (t.extract n t.size)).length jc)).setCell (p := ⟨gb, 1, none⟩) (Nat.le_refl _) (Nat.lt_succ_self _) (.slice qa (srS (t.extract n t.size)).length qc)).setCell (p := ⟨gb, 2, none⟩) (Nat.le_refl _) (Nat.lt_succ_self _) (.int .i64 0)).setCell (p := ⟨gb, 3, none⟩) (Nat.le_refl _) (Nat.lt_succ_self _) (.int .i64 0)).setCell (p := ⟨gb, 4, none⟩) (Nat.le_refl _) (Nat.lt_succ_self _) (.int .i64 (srC (t.extract n t.size)))
    have V := jj (NV.out.store (.slice ja (srL (t.extract n t.size)).length jc) (.slice qa (srS (t.extract n t.size)).length qc) (.int .i64 0) (.int .i64 0) (.int .i64 (srC (t.extract n t.size))))
    replace R := jj (R.out.within hw (by omega))
    replace D := jj (D.out.within hw (by omega))
    replace T := jj (T.out.within hw (by omega))
    replace Y := jj (Y.out.within hw (by omega))
    replace M := jj (M.out.within hw (by omega))
    replace O := jj (O.out.within hw (by omega))
    replace Q := jj (Q.out.within hw (by omega))
    have Zs : wa.heap.size ≤ (World.setCell (World.setCell (World.setCell (World.setCell (World.setCell wa ⟨gb, 0, none⟩ (.slice ja (srL (t.extract n t.size)).length jc)) ⟨gb, 1, none⟩ (.slice qa (srS (t.extract n t.size)).length qc)) ⟨gb, 2, none⟩ (.int .i64 0)) ⟨gb, 3, none⟩ (.int .i64 0)) ⟨gb, 4, none⟩ (.int .i64 (srC (t.extract n t.size)))).heap.size := hw.size
    clear hw NV nv0 nv1 nv2 nv3 nv4 nf0 nf1 nf2 nf3 nf4 nl
    generalize (World.setCell (World.setCell (World.setCell (World.setCell (World.setCell wa ⟨gb, 0, none⟩ (.slice ja (srL (t.extract n t.size)).length jc)) ⟨gb, 1, none⟩ (.slice qa (srS (t.extract n t.size)).length qc)) ⟨gb, 2, none⟩ (.int .i64 0)) ⟨gb, 3, none⟩ (.int .i64 0)) ⟨gb, 4, none⟩ (.int .i64 (srC (t.extract n t.size)))) = wz at V Zs R D T Y M O Q ⊢
    refine hK.out _ _ (by exact ⟨T.out.c3.1, Y.out.c1⟩) (fun hHeld => ?_)
    clear hK K
    try walk_nrm
    refine rx ?_
    obtain ⟨x0, v1x, v2x, v3x, v4x⟩ : wz.cell? ⟨gb, 0, none⟩ = some (.slice ja (srL (t.extract n t.size)).length jc) ∧ wz.cell? ⟨gb, 1, none⟩ = some (.slice qa (srS (t.extract n t.size)).length qc) ∧ wz.cell? ⟨gb, 2, none⟩ = some (.int .i64 0) ∧ wz.cell? ⟨gb, 3, none⟩ = some (.int .i64 0) ∧ wz.cell? ⟨gb, 4, none⟩ = some (.int .i64 (srC (t.extract n t.size))) := ⟨V.out.c0, V.out.c1, V.out.c2, V.out.c3, V.out.c4⟩
    have ugb := V.out.lt
    obtain ⟨m0, m1, m2, m3, m4, m5, m6, m7, f0, f1, f2, f3, f4, f5, f6, f7⟩ := M.out.c8
    go_upto_region 13 with fail
    have hw := (one_store wz gm 6 (.slice ja (srL (t.extract n t.size)).length jc)).trans (one_store _ gm 7 (.slice qa (srS (t.extract n t.size)).length qc))
    replace M := jj (show Cells _ _ [.int .i64 x1, .int .i64 x2, .int .i64 x3, .int .i64 x4, .string ky, .int .i64 x6, .slice ja (srL (t.extract n t.size)).length jc, .slice qa (srS (t.extract n t.size)).length qc] from (M.out.set 6 (by simp) (.slice ja (srL (t.extract n t.size)).length jc)).set 7 (by simp) (.slice qa (srS (t.extract n t.size)).length qc))
    replace R := jj (R.out.within hw (by omega))
    replace D := jj (D.out.within hw (by omega))
    replace Y := jj (Y.out.within hw (by omega))
    replace O := jj (O.out.within hw (by omega))
    replace Q := jj (Q.out.within hw (by omega))
    replace V := jj (V.out.within hw (by omega))
    have zw := hw.size
    clear hw m0 f0 m1 f1 m2 f2 m3 f3 m4 f4 m5 f5 m6 f6 m7 f7 x0 v1x v2x v3x v4x
    generalize (wz.setCell ⟨gm, 6, none⟩ (.slice ja (srL (t.extract n t.size)).length jc)).setCell ⟨gm, 7, none⟩ (.slice qa (srS (t.extract n t.size)).length qc) = wy at R D Y M O Q V zw ⊢
    cases hb6 : q6.2
    rotate_left
    · have HN := jj (show mr s = none from spec_no G1.out G2.out G3.out G4.out G5.out G6.out hn6 (fun h => by rw [hb6] at h; exact absurd h.1 (by decide)))
      have y2 := Y.out.c2
      rw [hb6] at y2
      clear hb6
      obtain ⟨r0, r1, r2, r3, r4, r5, r6, r7, r8, g0, g1, g2, g3, g4, g5, g6, g7, g8⟩ := R.out.c9
      go_wp2
      have hw := within_set9 wy w.heap.size (.int .i64 0) (.int .i64 0) (.int .i64 0) (.int .i64 0) (.string ⟨#[]⟩) (.int .i64 0) (.slice none 0 0) (.slice none 0 0) (.int .i64 3)
      have R2 := cells_set9 R.out (.int .i64 0) (.int .i64 0) (.int .i64 0) (.int .i64 0) (.string ⟨#[]⟩) (.int .i64 0) (.slice none 0 0) (.slice none 0 0) (.int .i64 3)
      obtain ⟨q0, q1, q2, q3, q4, q5, q6, q7, q8, _⟩ := R2.c9
      refine bodyPost_ret (v := .agg #[.int .i64 0, .int .i64 0, .int .i64 0, .int .i64 0, .string ⟨#[]⟩, .int .i64 0, .slice none 0 0, .slice none 0 0, .int .i64 3]) (by simp [results, Tryz.results8, go_sem, q0, q1, q2, q3, q4, q5, q6, q7, q8]) rfl ?_
      exact read_no HN.out (mrC_three HU.out HN.out) (givesMO_no 3 (D.out.within hw (by omega)))
    have y2 := Y.out.c2
    rw [hb6] at y2
    by_cases hc6 : srC (t.extract n t.size) = 0
    rotate_left
    · have HN := jj (show mr s = none from spec_no G1.out G2.out G3.out G4.out G5.out G6.out hn6 (fun h => by rw [HT.out] at h; exact absurd h.2.1 hc6))
      have x4 := V.out.c4
      obtain ⟨C6, hC6⟩ : ∃ C, srC (t.extract n t.size) = C := ⟨_, rfl⟩
      rw [hC6] at x4 hc6
      clear hC6 hb6
      obtain ⟨r0, r1, r2, r3, r4, r5, r6, r7, r8, g0, g1, g2, g3, g4, g5, g6, g7, g8⟩ := R.out.c9
      go_wp2
      have hw := within_set9 wy w.heap.size (.int .i64 0) (.int .i64 0) (.int .i64 0) (.int .i64 0) (.string ⟨#[]⟩) (.int .i64 0) (.slice none 0 0) (.slice none 0 0) (.int .i64 3)
      have R2 := cells_set9 R.out (.int .i64 0) (.int .i64 0) (.int .i64 0) (.int .i64 0) (.string ⟨#[]⟩) (.int .i64 0) (.slice none 0 0) (.slice none 0 0) (.int .i64 3)
      obtain ⟨q0, q1, q2, q3, q4, q5, q6, q7, q8, _⟩ := R2.c9
      refine bodyPost_ret (v := .agg #[.int .i64 0, .int .i64 0, .int .i64 0, .int .i64 0, .string ⟨#[]⟩, .int .i64 0, .slice none 0 0, .slice none 0 0, .int .i64 3]) (by simp [results, Tryz.results8, go_sem, q0, q1, q2, q3, q4, q5, q6, q7, q8]) rfl ?_
      exact read_no HN.out (mrC_three HU.out HN.out) (givesMO_no 3 (D.out.within hw (by omega)))
    have x4 := V.out.c4
    rw [hc6] at x4
    obtain ⟨m0, m1, m2, m3, m4, m5, m6, m7, _⟩ := M.out.c8
    go_wp2_with fail
    clear m0 m1 m2 m3 m4 m5 m6 m7 x4 y2
    have hlen := sr_len (s := (t.extract n t.size))
    refine (spec_msgBytes x1 x2 x3 x4 ky x6 ja qa jc qc (srL (t.extract n t.size)) (srS (t.extract n t.size)) wy (by unfold maxLen; omega) (by unfold maxLen; omega) (sr_small _) (by unfold maxLen; omega) O.out.at_ Q.out.at_).mono ?_
    rintro e wx ⟨rfl, hb⟩
    replace R := jj (R.out.below hb)
    replace D := jj (D.out.below hb)
    replace M := jj (M.out.below hb)
    replace O := jj (O.out.below hb)
    replace Q := jj (Q.out.below hb)
    have zx := hb.size
    clear hb
    by_cases hbs : msgBytes x1 x2 x3 x4 ky x6 (srL (t.extract n t.size)) (srS (t.extract n t.size)) = s
    rotate_left
    · have HN := jj (show mr s = none from spec_no G1.out G2.out G3.out G4.out G5.out G6.out hn6 (fun h => by rw [HT.out] at h; exact hbs h.2.2))
      have hne := list_ne hbs
      obtain ⟨B, hB⟩ : ∃ B, msgBytes x1 x2 x3 x4 ky x6 (srL (t.extract n t.size)) (srS (t.extract n t.size)) = B := ⟨_, rfl⟩
      rw [hB] at hne hbs ⊢
      clear hB
      obtain ⟨r0, r1, r2, r3, r4, r5, r6, r7, r8, g0, g1, g2, g3, g4, g5, g6, g7, g8⟩ := R.out.c9
      go_wp2
      have hw := within_set9 wx w.heap.size (.int .i64 0) (.int .i64 0) (.int .i64 0) (.int .i64 0) (.string ⟨#[]⟩) (.int .i64 0) (.slice none 0 0) (.slice none 0 0) (.int .i64 3)
      have R2 := cells_set9 R.out (.int .i64 0) (.int .i64 0) (.int .i64 0) (.int .i64 0) (.string ⟨#[]⟩) (.int .i64 0) (.slice none 0 0) (.slice none 0 0) (.int .i64 3)
      obtain ⟨q0, q1, q2, q3, q4, q5, q6, q7, q8, _⟩ := R2.c9
      refine bodyPost_ret (v := .agg #[.int .i64 0, .int .i64 0, .int .i64 0, .int .i64 0, .string ⟨#[]⟩, .int .i64 0, .slice none 0 0, .slice none 0 0, .int .i64 3]) (by simp [results, Tryz.results8, go_sem, q0, q1, q2, q3, q4, q5, q6, q7, q8]) rfl ?_
      exact read_no HN.out (mrC_three HU.out HN.out) (givesMO_no 3 (D.out.within hw (by omega)))
    have HY := jj (bytes_mr (m := ⟨x1, x2, x3, x4, ky, x6, srL (t.extract n t.size), srS (t.extract n t.size)⟩) HU.out hbs)
    rw [hbs]
    clear hbs
    obtain ⟨m0, m1, m2, m3, m4, m5, m6, m7, _⟩ := M.out.c8
    obtain ⟨r0, r1, r2, r3, r4, r5, r6, r7, r8, g0, g1, g2, g3, g4, g5, g6, g7, g8⟩ := R.out.c9
    go_wp2
    have hw := within_set9 wx w.heap.size (.int .i64 x1) (.int .i64 x2) (.int .i64 x3) (.int .i64 x4) (.string ky) (.int .i64 x6) (.slice ja (srL (t.extract n t.size)).length jc) (.slice qa (srS (t.extract n t.size)).length qc) (.int .i64 0)
    have R2 := cells_set9 R.out (.int .i64 x1) (.int .i64 x2) (.int .i64 x3) (.int .i64 x4) (.string ky) (.int .i64 x6) (.slice ja (srL (t.extract n t.size)).length jc) (.slice qa (srS (t.extract n t.size)).length qc) (.int .i64 0)
    obtain ⟨q0, q1, q2, q3, q4, q5, q6, q7, q8, _⟩ := R2.c9
    refine bodyPost_ret (v := .agg #[.int .i64 x1, .int .i64 x2, .int .i64 x3, .int .i64 x4, .string ky, .int .i64 x6, .slice ja (srL (t.extract n t.size)).length jc, .slice qa (srS (t.extract n t.size)).length qc, .int .i64 0]) (by simp [results, Tryz.results8, go_sem, q0, q1, q2, q3, q4, q5, q6, q7, q8]) rfl ?_
    exact read_yes HY.out ⟨ja, jc, qa, qc, lo1, hi1, lo2, hi2, rfl, (O.out.within hw (by omega)).1, (Q.out.within hw (by omega)).1, by omega, by omega, (O.out.within hw (by omega)).2, (Q.out.within hw (by omega)).2, by omega, D.out.within hw (by omega)⟩
  refine AllReadyH.cons rfl (fun K hK => ?_) AllReadyH.nil
  go_simp
  have hb := step_alloc wd (.cells #[.slice none 0 0, .slice none 0 0, .int .i64 0, .int .i64 0, .int .i64 0] 65)
  replace R := jj (R.out.below hb)
  replace D := jj (D.out.below hb)
  replace T := jj (T.out.below hb)
  replace Y := jj (Y.out.below hb)
  replace M := jj (M.out.below hb)
  clear hb
  have NV := jj (New5.new wd (.slice none 0 0) (.slice none 0 0) (.int .i64 0) (.int .i64 0) (.int .i64 0) 65)
  have Za : wd.heap.size < (wd.alloc (.cells #[.slice none 0 0, .slice none 0 0, .int .i64 0, .int .i64 0, .int .i64 0] 65)).heap.size := by simp
  obtain ⟨gb, hgb⟩ : ∃ gb, gb = wd.heap.size := ⟨_, rfl⟩
  have Qa : wd.heap.size ≤ gb := by omega
  have Qb : gb < (wd.alloc (.cells #[.slice none 0 0, .slice none 0 0, .int .i64 0, .int .i64 0, .int .i64 0] 65)).heap.size := by omega
  rw [← hgb] at NV ⊢
  clear hgb
  generalize wd.alloc (.cells #[.slice none 0 0, .slice none 0 0, .int .i64 0, .int .i64 0, .int .i64 0] 65) = wa at NV Za Qb R D T Y M ⊢
  refine hK.out _ _ (by exact ⟨T.out.c3.1, Y.out.c1⟩) (fun hHeld => ?_)
  clear hK K
  try walk_nrm
  refine rd 7 (fun K hK => ?_)
  go_simp
  go_at_call 32
  refine (spec_setRead (t.extract n t.size) wa (by rw [ByteArray.size_extract]; unfold maxLen; omega)).mono ?_
  rintro e wc7 ⟨ja, jc, qa, qc, lo1, hi1, lo2, hi2, rfl, ho, hq, e1, e2, e3, e4, e5, -, hb⟩
  have O := jj (show OwnI wc7 lo1 hi1 ja (srL (t.extract n t.size)) from ⟨ho, e3⟩)
  have Q := jj (show ROwnI 4 senc wc7 lo2 hi2 qa (srS (t.extract n t.size)) from ⟨hq, e4⟩)
  clear ho hq
  replace R := jj (R.out.below hb)
  replace D := jj (D.out.below hb)
  replace T := jj (T.out.below hb)
  replace Y := jj (Y.out.below hb)
  replace M := jj (M.out.below hb)
  replace NV := jj (NV.out.below hb)
  have Zc0 := hb.size
  clear hb
  go_wp2_with fail
  refine hK.out _ _ (by exact ⟨T.out.c3.1, Y.out.c1⟩) (fun hHeld => ?_)
  clear hK K
  try walk_nrm
  obtain ⟨nv0, nv1, nv2, nv3, nv4, nf0, nf1, nf2, nf3, nf4, nl⟩ := NV.out.all
  refine rd 9 (fun K hK => ?_)
  go_simp
  have hw := (((((Within.refl gb (gb + 1) wc7).setCell (p := ⟨gb, 0, none⟩) (Nat.le_refl _) (Nat.lt_succ_self _) (.slice ja (srL (t.extract n t.size)).length jc)).setCell (p := ⟨gb, 1, none⟩) (Nat.le_refl _) (Nat.lt_succ_self _) (.slice qa (srS (t.extract n t.size)).length qc)).setCell (p := ⟨gb, 2, none⟩) (Nat.le_refl _) (Nat.lt_succ_self _) (.int .i64 0)).setCell (p := ⟨gb, 3, none⟩) (Nat.le_refl _) (Nat.lt_succ_self _) (.int .i64 0)).setCell (p := ⟨gb, 4, none⟩) (Nat.le_refl _) (Nat.lt_succ_self _) (.int .i64 (srC (t.extract n t.size)))
  have V := jj (NV.out.store (.slice ja (srL (t.extract n t.size)).length jc) (.slice qa (srS (t.extract n t.size)).length qc) (.int .i64 0) (.int .i64 0) (.int .i64 (srC (t.extract n t.size))))
  replace R := jj (R.out.within hw (by omega))
  replace D := jj (D.out.within hw (by omega))
  replace T := jj (T.out.within hw (by omega))
  replace Y := jj (Y.out.within hw (by omega))
  replace M := jj (M.out.within hw (by omega))
  replace O := jj (O.out.within hw (by omega))
  replace Q := jj (Q.out.within hw (by omega))
  have Zs : wc7.heap.size ≤ (World.setCell (World.setCell (World.setCell (World.setCell (World.setCell wc7 ⟨gb, 0, none⟩ (.slice ja (srL (t.extract n t.size)).length jc)) ⟨gb, 1, none⟩ (.slice qa (srS (t.extract n t.size)).length qc)) ⟨gb, 2, none⟩ (.int .i64 0)) ⟨gb, 3, none⟩ (.int .i64 0)) ⟨gb, 4, none⟩ (.int .i64 (srC (t.extract n t.size)))).heap.size := hw.size
  clear hw NV nv0 nv1 nv2 nv3 nv4 nf0 nf1 nf2 nf3 nf4 nl
  generalize (World.setCell (World.setCell (World.setCell (World.setCell (World.setCell wc7 ⟨gb, 0, none⟩ (.slice ja (srL (t.extract n t.size)).length jc)) ⟨gb, 1, none⟩ (.slice qa (srS (t.extract n t.size)).length qc)) ⟨gb, 2, none⟩ (.int .i64 0)) ⟨gb, 3, none⟩ (.int .i64 0)) ⟨gb, 4, none⟩ (.int .i64 (srC (t.extract n t.size)))) = wz at V Zs R D T Y M O Q ⊢
  refine hK.out _ _ (by exact ⟨T.out.c3.1, Y.out.c1⟩) (fun hHeld => ?_)
  clear hK K
  try walk_nrm
  refine rx ?_
  obtain ⟨x0, v1x, v2x, v3x, v4x⟩ : wz.cell? ⟨gb, 0, none⟩ = some (.slice ja (srL (t.extract n t.size)).length jc) ∧ wz.cell? ⟨gb, 1, none⟩ = some (.slice qa (srS (t.extract n t.size)).length qc) ∧ wz.cell? ⟨gb, 2, none⟩ = some (.int .i64 0) ∧ wz.cell? ⟨gb, 3, none⟩ = some (.int .i64 0) ∧ wz.cell? ⟨gb, 4, none⟩ = some (.int .i64 (srC (t.extract n t.size))) := ⟨V.out.c0, V.out.c1, V.out.c2, V.out.c3, V.out.c4⟩
  have ugb := V.out.lt
  obtain ⟨m0, m1, m2, m3, m4, m5, m6, m7, f0, f1, f2, f3, f4, f5, f6, f7⟩ := M.out.c8
  go_upto_region 13 with fail
  have hw := (one_store wz gm 6 (.slice ja (srL (t.extract n t.size)).length jc)).trans (one_store _ gm 7 (.slice qa (srS (t.extract n t.size)).length qc))
  replace M := jj (show Cells _ _ [.int .i64 x1, .int .i64 x2, .int .i64 x3, .int .i64 x4, .string ky, .int .i64 x6, .slice ja (srL (t.extract n t.size)).length jc, .slice qa (srS (t.extract n t.size)).length qc] from (M.out.set 6 (by simp) (.slice ja (srL (t.extract n t.size)).length jc)).set 7 (by simp) (.slice qa (srS (t.extract n t.size)).length qc))
  replace R := jj (R.out.within hw (by omega))
  replace D := jj (D.out.within hw (by omega))
  replace Y := jj (Y.out.within hw (by omega))
  replace O := jj (O.out.within hw (by omega))
  replace Q := jj (Q.out.within hw (by omega))
  replace V := jj (V.out.within hw (by omega))
  have zw := hw.size
  clear hw m0 f0 m1 f1 m2 f2 m3 f3 m4 f4 m5 f5 m6 f6 m7 f7 x0 v1x v2x v3x v4x
  generalize (wz.setCell ⟨gm, 6, none⟩ (.slice ja (srL (t.extract n t.size)).length jc)).setCell ⟨gm, 7, none⟩ (.slice qa (srS (t.extract n t.size)).length qc) = wy at R D Y M O Q V zw ⊢
  cases hb6 : q6.2
  rotate_left
  · have HN := jj (show mr s = none from spec_no G1.out G2.out G3.out G4.out G5.out G6.out hn6 (fun h => by rw [hb6] at h; exact absurd h.1 (by decide)))
    have y2 := Y.out.c2
    rw [hb6] at y2
    clear hb6
    obtain ⟨r0, r1, r2, r3, r4, r5, r6, r7, r8, g0, g1, g2, g3, g4, g5, g6, g7, g8⟩ := R.out.c9
    go_wp2
    have hw := within_set9 wy w.heap.size (.int .i64 0) (.int .i64 0) (.int .i64 0) (.int .i64 0) (.string ⟨#[]⟩) (.int .i64 0) (.slice none 0 0) (.slice none 0 0) (.int .i64 3)
    have R2 := cells_set9 R.out (.int .i64 0) (.int .i64 0) (.int .i64 0) (.int .i64 0) (.string ⟨#[]⟩) (.int .i64 0) (.slice none 0 0) (.slice none 0 0) (.int .i64 3)
    obtain ⟨q0, q1, q2, q3, q4, q5, q6, q7, q8, _⟩ := R2.c9
    refine bodyPost_ret (v := .agg #[.int .i64 0, .int .i64 0, .int .i64 0, .int .i64 0, .string ⟨#[]⟩, .int .i64 0, .slice none 0 0, .slice none 0 0, .int .i64 3]) (by simp [results, Tryz.results8, go_sem, q0, q1, q2, q3, q4, q5, q6, q7, q8]) rfl ?_
    exact read_no HN.out (mrC_three HU.out HN.out) (givesMO_no 3 (D.out.within hw (by omega)))
  have y2 := Y.out.c2
  rw [hb6] at y2
  by_cases hc6 : srC (t.extract n t.size) = 0
  rotate_left
  · have HN := jj (show mr s = none from spec_no G1.out G2.out G3.out G4.out G5.out G6.out hn6 (fun h => by rw [HT.out] at h; exact absurd h.2.1 hc6))
    have x4 := V.out.c4
    obtain ⟨C6, hC6⟩ : ∃ C, srC (t.extract n t.size) = C := ⟨_, rfl⟩
    rw [hC6] at x4 hc6
    clear hC6 hb6
    obtain ⟨r0, r1, r2, r3, r4, r5, r6, r7, r8, g0, g1, g2, g3, g4, g5, g6, g7, g8⟩ := R.out.c9
    go_wp2
    have hw := within_set9 wy w.heap.size (.int .i64 0) (.int .i64 0) (.int .i64 0) (.int .i64 0) (.string ⟨#[]⟩) (.int .i64 0) (.slice none 0 0) (.slice none 0 0) (.int .i64 3)
    have R2 := cells_set9 R.out (.int .i64 0) (.int .i64 0) (.int .i64 0) (.int .i64 0) (.string ⟨#[]⟩) (.int .i64 0) (.slice none 0 0) (.slice none 0 0) (.int .i64 3)
    obtain ⟨q0, q1, q2, q3, q4, q5, q6, q7, q8, _⟩ := R2.c9
    refine bodyPost_ret (v := .agg #[.int .i64 0, .int .i64 0, .int .i64 0, .int .i64 0, .string ⟨#[]⟩, .int .i64 0, .slice none 0 0, .slice none 0 0, .int .i64 3]) (by simp [results, Tryz.results8, go_sem, q0, q1, q2, q3, q4, q5, q6, q7, q8]) rfl ?_
    exact read_no HN.out (mrC_three HU.out HN.out) (givesMO_no 3 (D.out.within hw (by omega)))
  have x4 := V.out.c4
  rw [hc6] at x4
  obtain ⟨m0, m1, m2, m3, m4, m5, m6, m7, _⟩ := M.out.c8
  go_wp2_with fail
  clear m0 m1 m2 m3 m4 m5 m6 m7 x4 y2
  have hlen := sr_len (s := (t.extract n t.size))
  refine (spec_msgBytes x1 x2 x3 x4 ky x6 ja qa jc qc (srL (t.extract n t.size)) (srS (t.extract n t.size)) wy (by unfold maxLen; omega) (by unfold maxLen; omega) (sr_small _) (by unfold maxLen; omega) O.out.at_ Q.out.at_).mono ?_
  rintro e wx ⟨rfl, hb⟩
  replace R := jj (R.out.below hb)
  replace D := jj (D.out.below hb)
  replace M := jj (M.out.below hb)
  replace O := jj (O.out.below hb)
  replace Q := jj (Q.out.below hb)
  have zx := hb.size
  clear hb
  by_cases hbs : msgBytes x1 x2 x3 x4 ky x6 (srL (t.extract n t.size)) (srS (t.extract n t.size)) = s
  rotate_left
  · have HN := jj (show mr s = none from spec_no G1.out G2.out G3.out G4.out G5.out G6.out hn6 (fun h => by rw [HT.out] at h; exact hbs h.2.2))
    have hne := list_ne hbs
    obtain ⟨B, hB⟩ : ∃ B, msgBytes x1 x2 x3 x4 ky x6 (srL (t.extract n t.size)) (srS (t.extract n t.size)) = B := ⟨_, rfl⟩
    rw [hB] at hne hbs ⊢
    clear hB
    obtain ⟨r0, r1, r2, r3, r4, r5, r6, r7, r8, g0, g1, g2, g3, g4, g5, g6, g7, g8⟩ := R.out.c9
    go_wp2
    have hw := within_set9 wx w.heap.size (.int .i64 0) (.int .i64 0) (.int .i64 0) (.int .i64 0) (.string ⟨#[]⟩) (.int .i64 0) (.slice none 0 0) (.slice none 0 0) (.int .i64 3)
    have R2 := cells_set9 R.out (.int .i64 0) (.int .i64 0) (.int .i64 0) (.int .i64 0) (.string ⟨#[]⟩) (.int .i64 0) (.slice none 0 0) (.slice none 0 0) (.int .i64 3)
    obtain ⟨q0, q1, q2, q3, q4, q5, q6, q7, q8, _⟩ := R2.c9
    refine bodyPost_ret (v := .agg #[.int .i64 0, .int .i64 0, .int .i64 0, .int .i64 0, .string ⟨#[]⟩, .int .i64 0, .slice none 0 0, .slice none 0 0, .int .i64 3]) (by simp [results, Tryz.results8, go_sem, q0, q1, q2, q3, q4, q5, q6, q7, q8]) rfl ?_
    exact read_no HN.out (mrC_three HU.out HN.out) (givesMO_no 3 (D.out.within hw (by omega)))
  have HY := jj (bytes_mr (m := ⟨x1, x2, x3, x4, ky, x6, srL (t.extract n t.size), srS (t.extract n t.size)⟩) HU.out hbs)
  rw [hbs]
  clear hbs
  obtain ⟨m0, m1, m2, m3, m4, m5, m6, m7, _⟩ := M.out.c8
  obtain ⟨r0, r1, r2, r3, r4, r5, r6, r7, r8, g0, g1, g2, g3, g4, g5, g6, g7, g8⟩ := R.out.c9
  go_wp2
  have hw := within_set9 wx w.heap.size (.int .i64 x1) (.int .i64 x2) (.int .i64 x3) (.int .i64 x4) (.string ky) (.int .i64 x6) (.slice ja (srL (t.extract n t.size)).length jc) (.slice qa (srS (t.extract n t.size)).length qc) (.int .i64 0)
  have R2 := cells_set9 R.out (.int .i64 x1) (.int .i64 x2) (.int .i64 x3) (.int .i64 x4) (.string ky) (.int .i64 x6) (.slice ja (srL (t.extract n t.size)).length jc) (.slice qa (srS (t.extract n t.size)).length qc) (.int .i64 0)
  obtain ⟨q0, q1, q2, q3, q4, q5, q6, q7, q8, _⟩ := R2.c9
  refine bodyPost_ret (v := .agg #[.int .i64 x1, .int .i64 x2, .int .i64 x3, .int .i64 x4, .string ky, .int .i64 x6, .slice ja (srL (t.extract n t.size)).length jc, .slice qa (srS (t.extract n t.size)).length qc, .int .i64 0]) (by simp [results, Tryz.results8, go_sem, q0, q1, q2, q3, q4, q5, q6, q7, q8]) rfl ?_
  exact read_yes HY.out ⟨ja, jc, qa, qc, lo1, hi1, lo2, hi2, rfl, (O.out.within hw (by omega)).1, (Q.out.within hw (by omega)).1, by omega, by omega, (O.out.within hw (by omega)).2, (Q.out.within hw (by omega)).2, by omega, D.out.within hw (by omega)⟩
end Go.Proofs.YtiaoifodaoifjaaGreat.Sb
