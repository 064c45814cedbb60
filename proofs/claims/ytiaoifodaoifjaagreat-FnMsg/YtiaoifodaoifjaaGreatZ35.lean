/- Parts of a law: MsgReadI2. Conditions: on sizes, as each says. -/
import Derived.Test.YtiaoifodaoifjaaGreatZ1
import Derived.Test.YtiaoifodaoifjaaGreatZ30
import Derived.Test.YtiaoifodaoifjaaGreatZ22
set_option linter.unusedSimpArgs false
set_option linter.unusedVariables false
namespace Go.Proofs.YtiaoifodaoifjaaGreat.Sb
open Go.RowKit Go.Proofs.YtiaoifodaoifjaaGreat.Mk Go.Proofs.YtiaoifodaoifjaaGreat.Rw Go.Proofs.YtiaoifodaoifjaaGreat.Ge Go.Proofs.YtiaoifodaoifjaaGreat.Pn Go.Proofs.YtiaoifodaoifjaaGreat.Se
set_option maxRecDepth 100000 in
set_option maxHeartbeats 4000000 in
theorem impl_msgRead (s : ByteArray) (w : World) (hs : s.size ≤ maxLen) : Calls Tryz.prog 7 #[.string s] w (GivesMO w (mrK s) (mrF s) (mrT s) (mrQ s) (mrY s) (mrO s) (mrL s) (mrS s) (mrC s)) := by
  have R := jj (Cells.new w #[.int .i64 0, .int .i64 0, .int .i64 0, .int .i64 0, .string ⟨#[]⟩, .int .i64 0, .slice none 0 0, .slice none 0 0, .int .i64 0] 33)
  have D := jj (show Base w _ from step_alloc w (.cells #[.int .i64 0, .int .i64 0, .int .i64 0, .int .i64 0, .string ⟨#[]⟩, .int .i64 0, .slice none 0 0, .slice none 0 0, .int .i64 0] 33))
  have hz : w.heap.size + 1 = (w.alloc (.cells #[.int .i64 0, .int .i64 0, .int .i64 0, .int .i64 0, .string ⟨#[]⟩, .int .i64 0, .slice none 0 0, .slice none 0 0, .int .i64 0] 33)).heap.size := by simp
  simp only [List.toList_toArray] at R
  go_enter Tryz.func7, Tryz.ntmps7
  go_wp2_with fail
  generalize w.alloc (.cells #[.int .i64 0, .int .i64 0, .int .i64 0, .int .i64 0, .string ⟨#[]⟩, .int .i64 0, .slice none 0 0, .slice none 0 0, .int .i64 0] 33) = w0 at R D hz ⊢
  refine (impl_Unseal s hs w0).mono ?_
  rintro e w1 ⟨rfl, hb⟩
  rw [un_is]
  unfold out
  replace R := jj (R.out.below hb)
  replace D := jj (D.out.below hb)
  replace hz := Nat.le_trans (Nat.le_of_eq hz) hb.size
  clear hb
  by_cases hu : unC s = 0
  rotate_left
  · obtain ⟨hn, hc⟩ := mrC_bad hu
    have HN := jj hn
    have HC := jj hc
    clear hn hc
    have hb := step_alloc w1 (.cells #[.string (unT s), .int .i64 0, .int .i64 (unC s)] 51)
    replace R := jj (R.out.below hb)
    replace D := jj (D.out.below hb)
    clear hb
    obtain ⟨C, hC⟩ : ∃ C, unC s = C := ⟨_, rfl⟩
    rw [hC] at hu HC R D ⊢
    clear hC
    obtain ⟨r0, r1, r2, r3, r4, r5, r6, r7, r8, g0, g1, g2, g3, g4, g5, g6, g7, g8⟩ := R.out.c9
    go_wp2
    have hw := within_set9 (w1.alloc (.cells #[.string (unT s), .int .i64 0, .int .i64 C] 51)) w.heap.size (.int .i64 0) (.int .i64 0) (.int .i64 0) (.int .i64 0) (.string ⟨#[]⟩) (.int .i64 0) (.slice none 0 0) (.slice none 0 0) (.int .i64 C)
    have R2 := cells_set9 R.out (.int .i64 0) (.int .i64 0) (.int .i64 0) (.int .i64 0) (.string ⟨#[]⟩) (.int .i64 0) (.slice none 0 0) (.slice none 0 0) (.int .i64 C)
    obtain ⟨q0, q1, q2, q3, q4, q5, q6, q7, q8, _⟩ := R2.c9
    refine bodyPost_ret (v := .agg #[.int .i64 0, .int .i64 0, .int .i64 0, .int .i64 0, .string ⟨#[]⟩, .int .i64 0, .slice none 0 0, .slice none 0 0, .int .i64 C]) (by simp [results, Tryz.results7, go_sem, q0, q1, q2, q3, q4, q5, q6, q7, q8]) rfl ?_
    exact read_no HN.out HC.out (givesMO_no C (D.out.within hw (by omega)))
  have HU := jj hu
  rw [hu]
  clear hu
  have ht := unT_size s
  obtain ⟨t, hte⟩ : ∃ t, unT s = t := ⟨_, rfl⟩
  have HT := jj hte
  rw [hte] at ht ⊢
  clear hte
  have hb := step_alloc w1 (.cells #[.string t, .int .i64 0, .int .i64 0] 51)
  replace R := jj (R.out.below hb)
  replace D := jj (D.out.below hb)
  have T := jj (Cells.new w1 #[.string t, .int .i64 0, .int .i64 0] 51)
  have z1 : w1.heap.size < (w1.alloc (.cells #[.string t, .int .i64 0, .int .i64 0] 51)).heap.size := by simp
  simp only [List.toList_toArray] at T
  clear hb
  go_wp2_with fail
  obtain ⟨gt, hgt⟩ : ∃ g, g = w1.heap.size := ⟨_, rfl⟩
  have lgt : w1.heap.size ≤ gt := by omega
  rw [← hgt] at T ⊢
  clear hgt
  generalize w1.alloc (.cells #[.string t, .int .i64 0, .int .i64 0] 51) = w2 at R D T z1 ⊢
  refine (impl_readMsg t 0 w2 (by unfold maxLen; omega) (by omega)).mono ?_
  rintro e w3 ⟨hb, ⟨m, b, ja, jc, qa, qc, lo1, hi1, lo2, hi2, hr, rfl, ho, hq, e1, e2, e3, e4, e5⟩ | ⟨hr, c, rfl⟩⟩
  rotate_left
  · have HN := jj (show mr s = none from mr_no fun m hm => by rw [HT.out, hr] at hm; cases hm)
    clear hr
    replace R := jj (R.out.below hb)
    replace D := jj (D.out.below hb)
    replace T := jj (T.out.below hb)
    replace hz := Nat.le_trans hz (Nat.le_trans (Nat.le_of_lt z1) hb.size)
    clear hb
    have hb := step_alloc w3 (.cells #[.int .i64 0, .int .i64 0, .int .i64 0, .int .i64 0, .string ⟨#[]⟩, .int .i64 0, .slice none 0 0, .slice none 0 0] 28)
    replace R := jj (R.out.below hb)
    replace D := jj (D.out.below hb)
    clear hb
    obtain ⟨r0, r1, r2, r3, r4, r5, r6, r7, r8, g0, g1, g2, g3, g4, g5, g6, g7, g8⟩ := R.out.c9
    go_wp2
    have hw := within_set9 (w3.alloc (.cells #[.int .i64 0, .int .i64 0, .int .i64 0, .int .i64 0, .string ⟨#[]⟩, .int .i64 0, .slice none 0 0, .slice none 0 0] 28)) w.heap.size (.int .i64 0) (.int .i64 0) (.int .i64 0) (.int .i64 0) (.string ⟨#[]⟩) (.int .i64 0) (.slice none 0 0) (.slice none 0 0) (.int .i64 3)
    have R2 := cells_set9 R.out (.int .i64 0) (.int .i64 0) (.int .i64 0) (.int .i64 0) (.string ⟨#[]⟩) (.int .i64 0) (.slice none 0 0) (.slice none 0 0) (.int .i64 3)
    obtain ⟨q0, q1, q2, q3, q4, q5, q6, q7, q8, _⟩ := R2.c9
    refine bodyPost_ret (v := .agg #[.int .i64 0, .int .i64 0, .int .i64 0, .int .i64 0, .string ⟨#[]⟩, .int .i64 0, .slice none 0 0, .slice none 0 0, .int .i64 3]) (by simp [results, Tryz.results7, go_sem, q0, q1, q2, q3, q4, q5, q6, q7, q8]) rfl ?_
    exact read_no HN.out (mrC_three HU.out HN.out) (givesMO_no 3 (D.out.within hw (by omega)))
  obtain ⟨_, _, hk, hsb⟩ := rdM_at hr
  have HSM := jj (set_small hsb)
  have b8 := (setOk_of hsb).2.1
  have b5 := right_len (setOk_of hsb).1
  have HR := jj hr
  have O := jj (show OwnI w3 lo1 hi1 ja m.l from ⟨ho, e3⟩)
  have Q := jj (show ROwnI 4 senc w3 lo2 hi2 qa m.s from ⟨hq, e4⟩)
  have z3 := hb.size
  replace R := jj (R.out.below hb)
  replace D := jj (D.out.below hb)
  replace T := jj (T.out.below hb)
  clear hb hr ho hq hsb
  have hb := step_alloc w3 (.cells #[.int .i64 m.kd, .int .i64 m.fr, .int .i64 m.tq, .int .i64 m.rq, .string m.ky, .int .i64 m.ow, .slice ja m.l.length jc, .slice qa m.s.length qc] 28)
  replace R := jj (R.out.below hb)
  replace D := jj (D.out.below hb)
  replace T := jj (T.out.below hb)
  replace O := jj (O.out.below hb)
  replace Q := jj (Q.out.below hb)
  have M := jj (Cells.new w3 #[.int .i64 m.kd, .int .i64 m.fr, .int .i64 m.tq, .int .i64 m.rq, .string m.ky, .int .i64 m.ow, .slice ja m.l.length jc, .slice qa m.s.length qc] 28)
  have z4 : w3.heap.size < (w3.alloc (.cells #[.int .i64 m.kd, .int .i64 m.fr, .int .i64 m.tq, .int .i64 m.rq, .string m.ky, .int .i64 m.ow, .slice ja m.l.length jc, .slice qa m.s.length qc] 28)).heap.size := by simp
  simp only [List.toList_toArray] at M
  clear hb
  go_upto_region 5 with fail
  obtain ⟨gm, hgm⟩ : ∃ g, g = w3.heap.size := ⟨_, rfl⟩
  have lgm : w3.heap.size ≤ gm := by omega
  rw [← hgm] at M ⊢
  clear hgm
  generalize w3.alloc (.cells #[.int .i64 m.kd, .int .i64 m.fr, .int .i64 m.tq, .int .i64 m.rq, .string m.ky, .int .i64 m.ow, .slice ja m.l.length jc, .slice qa m.s.length qc] 28) = w4 at R D T O Q M z4 ⊢
  obtain ⟨t0, t1, t2, _⟩ := T.out.c3
  obtain ⟨m0, m1, m2, m3, m4, m5, m6, m7, _⟩ := M.out.c8
  by_cases he : b = (t.size : Int)
  rotate_left
  · have HN := jj (show mr s = none from mr_no fun m' hm => by rw [HT.out, HR.out] at hm; simp only [Option.some.injEq, Prod.mk.injEq] at hm; exact absurd hm.2 he)
    obtain ⟨r0, r1, r2, r3, r4, r5, r6, r7, r8, g0, g1, g2, g3, g4, g5, g6, g7, g8⟩ := R.out.c9
    go_wp2
    have hw := within_set9 w4 w.heap.size (.int .i64 0) (.int .i64 0) (.int .i64 0) (.int .i64 0) (.string ⟨#[]⟩) (.int .i64 0) (.slice none 0 0) (.slice none 0 0) (.int .i64 3)
    have R2 := cells_set9 R.out (.int .i64 0) (.int .i64 0) (.int .i64 0) (.int .i64 0) (.string ⟨#[]⟩) (.int .i64 0) (.slice none 0 0) (.slice none 0 0) (.int .i64 3)
    obtain ⟨q0, q1, q2, q3, q4, q5, q6, q7, q8, _⟩ := R2.c9
    refine bodyPost_ret (v := .agg #[.int .i64 0, .int .i64 0, .int .i64 0, .int .i64 0, .string ⟨#[]⟩, .int .i64 0, .slice none 0 0, .slice none 0 0, .int .i64 3]) (by simp [results, Tryz.results7, go_sem, q0, q1, q2, q3, q4, q5, q6, q7, q8]) rfl ?_
    exact read_no HN.out (mrC_three HU.out HN.out) (givesMO_no 3 (D.out.within hw (by omega)))
  subst he
  go_wp2_with fail
  clear m0 m1 m2 m3 m4 m5 m6 m7 t0 t1 t2
  refine (impl_msgRight m.kd m.fr m.tq m.rq m.ky m.ow ja qa jc qc m.l m.s w4 (by unfold maxLen; omega) (by unfold maxLen; omega) (by unfold maxLen; omega) HSM.out.1 HSM.out.2 O.out.at_ Q.out.at_).mono ?_
  rintro e w5 ⟨rfl, hb⟩
  replace R := jj (R.out.below hb)
  replace D := jj (D.out.below hb)
  replace O := jj (O.out.below hb)
  replace Q := jj (Q.out.below hb)
  replace M := jj (M.out.below hb)
  have z5 := hb.size
  clear hb
  cases hm : msgB m.kd m.fr m.tq m.rq m.ky m.ow m.l m.s
  · have HN := jj (show mr s = none from mr_no fun m' hm' => by rw [HT.out, HR.out] at hm'; simp only [Option.some.injEq, Prod.mk.injEq] at hm'; rw [← hm'.1]; exact hm)
    clear hm
    obtain ⟨r0, r1, r2, r3, r4, r5, r6, r7, r8, g0, g1, g2, g3, g4, g5, g6, g7, g8⟩ := R.out.c9
    go_wp2
    have hw := within_set9 w5 w.heap.size (.int .i64 0) (.int .i64 0) (.int .i64 0) (.int .i64 0) (.string ⟨#[]⟩) (.int .i64 0) (.slice none 0 0) (.slice none 0 0) (.int .i64 3)
    have R2 := cells_set9 R.out (.int .i64 0) (.int .i64 0) (.int .i64 0) (.int .i64 0) (.string ⟨#[]⟩) (.int .i64 0) (.slice none 0 0) (.slice none 0 0) (.int .i64 3)
    obtain ⟨q0, q1, q2, q3, q4, q5, q6, q7, q8, _⟩ := R2.c9
    refine bodyPost_ret (v := .agg #[.int .i64 0, .int .i64 0, .int .i64 0, .int .i64 0, .string ⟨#[]⟩, .int .i64 0, .slice none 0 0, .slice none 0 0, .int .i64 3]) (by simp [results, Tryz.results7, go_sem, q0, q1, q2, q3, q4, q5, q6, q7, q8]) rfl ?_
    exact read_no HN.out (mrC_three HU.out HN.out) (givesMO_no 3 (D.out.within hw (by omega)))
  have HY := jj (show mr s = some m from mr_yes HU.out (by rw [HT.out]; exact HR.out) hm)
  clear hm
  obtain ⟨m0, m1, m2, m3, m4, m5, m6, m7, _⟩ := M.out.c8
  obtain ⟨r0, r1, r2, r3, r4, r5, r6, r7, r8, g0, g1, g2, g3, g4, g5, g6, g7, g8⟩ := R.out.c9
  go_wp2
  have hw := within_set9 w5 w.heap.size (.int .i64 m.kd) (.int .i64 m.fr) (.int .i64 m.tq) (.int .i64 m.rq) (.string m.ky) (.int .i64 m.ow) (.slice ja m.l.length jc) (.slice qa m.s.length qc) (.int .i64 0)
  have R2 := cells_set9 R.out (.int .i64 m.kd) (.int .i64 m.fr) (.int .i64 m.tq) (.int .i64 m.rq) (.string m.ky) (.int .i64 m.ow) (.slice ja m.l.length jc) (.slice qa m.s.length qc) (.int .i64 0)
  obtain ⟨q0, q1, q2, q3, q4, q5, q6, q7, q8, _⟩ := R2.c9
  refine bodyPost_ret (v := .agg #[.int .i64 m.kd, .int .i64 m.fr, .int .i64 m.tq, .int .i64 m.rq, .string m.ky, .int .i64 m.ow, .slice ja m.l.length jc, .slice qa m.s.length qc, .int .i64 0]) (by simp [results, Tryz.results7, go_sem, q0, q1, q2, q3, q4, q5, q6, q7, q8]) rfl ?_
  exact read_yes HY.out ⟨ja, jc, qa, qc, lo1, hi1, lo2, hi2, rfl, (O.out.within hw (by omega)).1, (Q.out.within hw (by omega)).1, by omega, by omega, (O.out.within hw (by omega)).2, (Q.out.within hw (by omega)).2, by omega, D.out.within hw (by omega)⟩
end Go.Proofs.YtiaoifodaoifjaaGreat.Sb
