/- Parts of a law: MsgTurnS. Conditions: on sizes, as each says. -/
import Derived.Test.YtiaoifodaoifjaaGreatZ1
import Derived.Test.YtiaoifodaoifjaaGreatZ22
import Derived.Test.YtiaoifodaoifjaaGreatZ27
set_option linter.unusedSimpArgs false
set_option linter.unusedVariables false
namespace Go.Proofs.YtiaoifodaoifjaaGreat.Sb
open Go.RowKit Go.Proofs.YtiaoifodaoifjaaGreat.Mk Go.Proofs.YtiaoifodaoifjaaGreat.Rw
set_option maxRecDepth 100000 in
set_option maxHeartbeats 4000000 in
theorem spec_l08Turn (kd fr tq rq : Int) (ky : ByteArray) (ow : Int) (n : Int) (a b a2 b2 : Option Addr) (cap cap' cap2 cap2' : Nat) (l : List (Int × Int)) (s : List Sib) (l2 : List (Int × Int)) (s2 : List Sib) (w : World) (hl2 : l2.length ≤ 1000000) (hs2 : s2.length ≤ 1000000) (h : MarksAt w a2 l2) (h' : SibsAt w b2 s2) :
    Calls Tryz.prog 46 #[.agg #[.int .i64 kd, .int .i64 fr, .int .i64 tq, .int .i64 rq, .string ky, .int .i64 ow, .slice a l.length cap, .slice b s.length cap'], .int .i64 n, .agg #[.slice a2 l2.length cap2, .slice b2 s2.length cap2']] w (GivesMT w n tq fr rq ky ow l2 s2) := by
  have H := jj h
  have H' := jj h'
  clear h h'
  have X := jj (((Cells.new w #[.int .i64 kd, .int .i64 fr, .int .i64 tq, .int .i64 rq, .string ky, .int .i64 ow, .slice a l.length cap, .slice b s.length cap'] 28).below (step_alloc _ (.cells #[.slice a2 l2.length cap2, .slice b2 s2.length cap2'] 26))).below (step_alloc _ (.cells #[.int .i64 0, .int .i64 0, .int .i64 0, .int .i64 0, .string ⟨#[]⟩, .int .i64 0, .slice none 0 0, .slice none 0 0] 28)))
  have Y := jj ((Cells.new (w.alloc (.cells #[.int .i64 kd, .int .i64 fr, .int .i64 tq, .int .i64 rq, .string ky, .int .i64 ow, .slice a l.length cap, .slice b s.length cap'] 28)) #[.slice a2 l2.length cap2, .slice b2 s2.length cap2'] 26).below (step_alloc _ (.cells #[.int .i64 0, .int .i64 0, .int .i64 0, .int .i64 0, .string ⟨#[]⟩, .int .i64 0, .slice none 0 0, .slice none 0 0] 28)))
  have R := jj (Cells.new ((w.alloc (.cells #[.int .i64 kd, .int .i64 fr, .int .i64 tq, .int .i64 rq, .string ky, .int .i64 ow, .slice a l.length cap, .slice b s.length cap'] 28)).alloc (.cells #[.slice a2 l2.length cap2, .slice b2 s2.length cap2'] 26)) #[.int .i64 0, .int .i64 0, .int .i64 0, .int .i64 0, .string ⟨#[]⟩, .int .i64 0, .slice none 0 0, .slice none 0 0] 28)
  have D := jj (show Base w _ from Base.below (Base.below (step_alloc w (.cells #[.int .i64 kd, .int .i64 fr, .int .i64 tq, .int .i64 rq, .string ky, .int .i64 ow, .slice a l.length cap, .slice b s.length cap'] 28)) (step_alloc _ (.cells #[.slice a2 l2.length cap2, .slice b2 s2.length cap2'] 26))) (step_alloc _ (.cells #[.int .i64 0, .int .i64 0, .int .i64 0, .int .i64 0, .string ⟨#[]⟩, .int .i64 0, .slice none 0 0, .slice none 0 0] 28)))
  have hz : w.heap.size + 3 = (((w.alloc (.cells #[.int .i64 kd, .int .i64 fr, .int .i64 tq, .int .i64 rq, .string ky, .int .i64 ow, .slice a l.length cap, .slice b s.length cap'] 28)).alloc (.cells #[.slice a2 l2.length cap2, .slice b2 s2.length cap2'] 26)).alloc (.cells #[.int .i64 0, .int .i64 0, .int .i64 0, .int .i64 0, .string ⟨#[]⟩, .int .i64 0, .slice none 0 0, .slice none 0 0] 28)).heap.size := by simp
  simp only [World.size_alloc, List.toList_toArray] at X Y R
  go_enter Tryz.func46, Tryz.ntmps46
  go_wp2_with fail
  generalize ((w.alloc (.cells #[.int .i64 kd, .int .i64 fr, .int .i64 tq, .int .i64 rq, .string ky, .int .i64 ow, .slice a l.length cap, .slice b s.length cap'] 28)).alloc (.cells #[.slice a2 l2.length cap2, .slice b2 s2.length cap2'] 26)).alloc (.cells #[.int .i64 0, .int .i64 0, .int .i64 0, .int .i64 0, .string ⟨#[]⟩, .int .i64 0, .slice none 0 0, .slice none 0 0] 28) = w0 at X Y R D hz ⊢
  replace X := jj (X.out.below (step_drew _))
  replace Y := jj (Y.out.below (step_drew _))
  replace R := jj (R.out.below (step_drew _))
  replace D := jj (D.out.below (step_drew _))
  replace hz : w.heap.size + 3 = w0.drew.heap.size := hz
  refine wp_region_held_drew (S := fun w' => w'.cell? ⟨w.heap.size, 1, none⟩ = some (.int .i64 fr) ∧ w'.cell? ⟨w.heap.size, 2, none⟩ = some (.int .i64 tq) ∧ w'.cell? ⟨w.heap.size, 3, none⟩ = some (.int .i64 rq) ∧ w'.cell? ⟨w.heap.size, 4, none⟩ = some (.string ky) ∧ w'.cell? ⟨w.heap.size, 5, none⟩ = some (.int .i64 ow) ∧ w'.cell? ⟨w.heap.size + 1, 0, none⟩ = some (.slice a2 l2.length cap2) ∧ w'.cell? ⟨w.heap.size + 1, 1, none⟩ = some (.slice b2 s2.length cap2')) (by kernel_rfl) (by (obtain ⟨p0, p1, p2, p3, p4, p5, p6, p7, _⟩ := X.out.c8; exact ⟨p1, p2, p3, p4, p5, Y.out.c2.1, Y.out.c2.2.1⟩)) (fun hHeld => ?_)
  refine tk 0 (v := ?_) ?_
  try walk_nrm
  refine tk 1 (v := ?_) ?_
  try walk_nrm
  refine tk 2 (v := ?_) ?_
  try walk_nrm
  refine tk 3 (v := ?_) ?_
  try walk_nrm
  refine tk 4 (v := ?_) ?_
  try walk_nrm
  refine tk 5 (v := ?_) ?_
  try walk_nrm
  refine tk 6 (v := ?_) ?_
  try walk_nrm
  refine tk 7 (v := ?_) ?_
  try walk_nrm
  refine tk 8 (v := ?_) ?_
  try walk_nrm
  refine tk 9 (v := ?_) ?_
  try walk_nrm
  refine tk 10 (v := ?_) ?_
  try walk_nrm
  refine tk 11 (v := ?_) ?_
  try walk_nrm
  refine rd 12 (fun K hK => ?_)
  go_simp
  go_at_call 77
  refine (spec_copy a2 b2 cap2 cap2' l2 s2 _ hl2 hs2 (H.out.mono D.out) (H'.out.mono D.out)).mono ?_
  rintro e w1 ⟨a1, c1, b1, d1, lo1, hi1, lo2, hi2, rfl, ho, hp, g1, g2, g3, g4, g5, hb⟩
  have O := jj (show OwnI w1 lo1 hi1 a1 l2 from ⟨ho, g3⟩)
  have P := jj (show ROwnI 4 senc w1 lo2 hi2 b1 s2 from ⟨hp, g4⟩)
  have z1 := hb.size
  replace X := jj (X.out.below hb)
  replace Y := jj (Y.out.below hb)
  replace R := jj (R.out.below hb)
  replace D := jj (D.out.below hb)
  clear hb ho hp
  go_wp2_with fail
  refine hK.out _ _ (by (obtain ⟨p0, p1, p2, p3, p4, p5, p6, p7, _⟩ := X.out.c8; exact ⟨p1, p2, p3, p4, p5, Y.out.c2.1, Y.out.c2.2.1⟩)) (fun hHeld => ?_)
  clear hK K
  try walk_nrm
  refine tk 13 (v := ?_) ?_
  try walk_nrm
  refine rd 14 (fun K hK => ?_)
  obtain ⟨r0, r1, r2, r3, r4, r5, r6, r7, f0, f1, f2, f3, f4, f5, f6, f7⟩ := R.out.c8
  go_simp
  have hw := within_into8 w1 (w.heap.size + 1 + 1) (.int .i64 n) (.int .i64 tq) (.int .i64 fr) (.int .i64 rq) (.string ky) (.int .i64 ow) (.slice a1 l2.length c1) (.slice b1 s2.length d1)
  have R2 := jj (cells_into8 R.out (.int .i64 n) (.int .i64 tq) (.int .i64 fr) (.int .i64 rq) (.string ky) (.int .i64 ow) (.slice a1 l2.length c1) (.slice b1 s2.length d1))
  clear r0 f0 r1 f1 r2 f2 r3 f3 r4 f4 r5 f5 r6 f6 r7 f7 R
  replace O := jj (O.out.within hw (by omega))
  replace P := jj (P.out.within hw (by omega))
  replace X := jj (X.out.within hw (by omega))
  replace Y := jj (Y.out.within hw (by omega))
  replace D := jj (D.out.within hw (by omega))
  have z3 := hw.size
  clear hw
  generalize ((((((((w1.setCell ⟨w.heap.size + 1 + 1, 0, none⟩ (.int .i64 n)).setCell ⟨w.heap.size + 1 + 1, 1, none⟩ (.int .i64 tq)).setCell ⟨w.heap.size + 1 + 1, 2, none⟩ (.int .i64 fr)).setCell ⟨w.heap.size + 1 + 1, 3, none⟩ (.int .i64 rq)).setCell ⟨w.heap.size + 1 + 1, 4, none⟩ (.string ky)).setCell ⟨w.heap.size + 1 + 1, 5, none⟩ (.int .i64 ow)).setCell ⟨w.heap.size + 1 + 1, 6, none⟩ (.slice a1 l2.length c1)).setCell ⟨w.heap.size + 1 + 1, 7, none⟩ (.slice b1 s2.length d1)) = w3 at O P X Y D z3 R2 ⊢
  have R := R2
  clear R2
  refine hK.out _ _ (by (obtain ⟨p0, p1, p2, p3, p4, p5, p6, p7, _⟩ := X.out.c8; exact ⟨p1, p2, p3, p4, p5, Y.out.c2.1, Y.out.c2.2.1⟩)) (fun hHeld => ?_)
  clear hK K
  try walk_nrm
  refine rx ?_
  obtain ⟨q0, q1, q2, q3, q4, q5, q6, q7, _⟩ := R.out.c8
  go_wp2
  refine bodyPost_ret (v := .agg #[.int .i64 n, .int .i64 tq, .int .i64 fr, .int .i64 rq, .string ky, .int .i64 ow, .slice a1 l2.length c1, .slice b1 s2.length d1]) (by simp [results, Tryz.results46, go_sem, q0, q1, q2, q3, q4, q5, q6, q7]) rfl ?_
  exact ⟨a1, c1, b1, d1, lo1, hi1, lo2, hi2, rfl, O.out.1, P.out.1, by omega, by omega, O.out.2, P.out.2, by omega, D.out⟩
set_option maxRecDepth 100000 in
set_option maxHeartbeats 4000000 in
theorem spec_msgTurn (kd fr tq rq : Int) (ky : ByteArray) (ow : Int) (n : Int) (a b a2 b2 : Option Addr) (cap cap' cap2 cap2' : Nat) (l : List (Int × Int)) (s : List Sib) (l2 : List (Int × Int)) (s2 : List Sib) (w : World) (hl : l.length ≤ maxLen) (hs : s.length ≤ maxLen) (hl2 : l2.length ≤ maxLen) (hs2 : s2.length ≤ maxLen) (hd : SmallData s) (hd2 : SmallData s2) (hy : ky.size ≤ maxLen) (h : MarksAt w a l) (h' : SibsAt w b s) (k : MarksAt w a2 l2) (k' : SibsAt w b2 s2) :
    Calls Tryz.prog 16 #[.agg #[.int .i64 kd, .int .i64 fr, .int .i64 tq, .int .i64 rq, .string ky, .int .i64 ow, .slice a l.length cap, .slice b s.length cap'], .int .i64 n, .agg #[.slice a2 l2.length cap2, .slice b2 s2.length cap2']] w (GivesMO w (tnK kd fr tq rq ky ow l s n l2 s2) (tnF kd fr tq rq ky ow l s n l2 s2) (tnT kd fr tq rq ky ow l s n l2 s2) (tnQ kd fr tq rq ky ow l s n l2 s2) (tnY kd fr tq rq ky ow l s n l2 s2) (tnO kd fr tq rq ky ow l s n l2 s2) (tnL kd fr tq rq ky ow l s n l2 s2) (tnS kd fr tq rq ky ow l s n l2 s2) (tnC kd fr tq rq ky ow l s n l2 s2)) := by
  have H := jj h
  have H' := jj h'
  have K := jj k
  have K' := jj k'
  have HS := jj hd
  have HS2 := jj hd2
  clear h h' k k' hd hd2
  have X := jj (((Cells.new w #[.int .i64 kd, .int .i64 fr, .int .i64 tq, .int .i64 rq, .string ky, .int .i64 ow, .slice a l.length cap, .slice b s.length cap'] 28).below (step_alloc _ (.cells #[.slice a2 l2.length cap2, .slice b2 s2.length cap2'] 26))).below (step_alloc _ (.cells #[.int .i64 0, .int .i64 0, .int .i64 0, .int .i64 0, .string ⟨#[]⟩, .int .i64 0, .slice none 0 0, .slice none 0 0, .int .i64 0] 33)))
  have Y := jj ((Cells.new (w.alloc (.cells #[.int .i64 kd, .int .i64 fr, .int .i64 tq, .int .i64 rq, .string ky, .int .i64 ow, .slice a l.length cap, .slice b s.length cap'] 28)) #[.slice a2 l2.length cap2, .slice b2 s2.length cap2'] 26).below (step_alloc _ (.cells #[.int .i64 0, .int .i64 0, .int .i64 0, .int .i64 0, .string ⟨#[]⟩, .int .i64 0, .slice none 0 0, .slice none 0 0, .int .i64 0] 33)))
  have R := jj (Cells.new ((w.alloc (.cells #[.int .i64 kd, .int .i64 fr, .int .i64 tq, .int .i64 rq, .string ky, .int .i64 ow, .slice a l.length cap, .slice b s.length cap'] 28)).alloc (.cells #[.slice a2 l2.length cap2, .slice b2 s2.length cap2'] 26)) #[.int .i64 0, .int .i64 0, .int .i64 0, .int .i64 0, .string ⟨#[]⟩, .int .i64 0, .slice none 0 0, .slice none 0 0, .int .i64 0] 33)
  have D := jj (show Base w _ from Base.below (Base.below (step_alloc w (.cells #[.int .i64 kd, .int .i64 fr, .int .i64 tq, .int .i64 rq, .string ky, .int .i64 ow, .slice a l.length cap, .slice b s.length cap'] 28)) (step_alloc _ (.cells #[.slice a2 l2.length cap2, .slice b2 s2.length cap2'] 26))) (step_alloc _ (.cells #[.int .i64 0, .int .i64 0, .int .i64 0, .int .i64 0, .string ⟨#[]⟩, .int .i64 0, .slice none 0 0, .slice none 0 0, .int .i64 0] 33)))
  have hz : w.heap.size + 3 = (((w.alloc (.cells #[.int .i64 kd, .int .i64 fr, .int .i64 tq, .int .i64 rq, .string ky, .int .i64 ow, .slice a l.length cap, .slice b s.length cap'] 28)).alloc (.cells #[.slice a2 l2.length cap2, .slice b2 s2.length cap2'] 26)).alloc (.cells #[.int .i64 0, .int .i64 0, .int .i64 0, .int .i64 0, .string ⟨#[]⟩, .int .i64 0, .slice none 0 0, .slice none 0 0, .int .i64 0] 33)).heap.size := by simp
  simp only [World.size_alloc, List.toList_toArray] at X Y R
  go_enter Tryz.func16, Tryz.ntmps16
  go_wp2_with fail
  generalize ((w.alloc (.cells #[.int .i64 kd, .int .i64 fr, .int .i64 tq, .int .i64 rq, .string ky, .int .i64 ow, .slice a l.length cap, .slice b s.length cap'] 28)).alloc (.cells #[.slice a2 l2.length cap2, .slice b2 s2.length cap2'] 26)).alloc (.cells #[.int .i64 0, .int .i64 0, .int .i64 0, .int .i64 0, .string ⟨#[]⟩, .int .i64 0, .slice none 0 0, .slice none 0 0, .int .i64 0] 33) = w0 at X Y R D hz ⊢
  refine (spec_msgRight kd fr tq rq ky ow a b cap cap' l s w0 hl hs HS.out hy (H.out.mono D.out) (H'.out.mono D.out)).mono ?_
  rintro e w1 ⟨rfl, hb⟩
  replace X := jj (X.out.below hb)
  replace Y := jj (Y.out.below hb)
  replace R := jj (R.out.below hb)
  replace D := jj (D.out.below hb)
  replace hz := Nat.le_trans (Nat.le_of_eq hz) hb.size
  clear hb
  cases c0 : msgB kd fr tq rq ky ow l s
  · have HB := jj (show tnB kd fr tq rq ky ow l s n l2 s2 = false by unfold tnB; rw [c0]; rfl)
    clear c0
    obtain ⟨r0, r1, r2, r3, r4, r5, r6, r7, r8, f0, f1, f2, f3, f4, f5, f6, f7, f8⟩ := R.out.c9
    go_wp2
    have hw := within_set9 w1 (w.heap.size + 1 + 1) (.int .i64 0) (.int .i64 0) (.int .i64 0) (.int .i64 0) (.string ⟨#[]⟩) (.int .i64 0) (.slice none 0 0) (.slice none 0 0) (.int .i64 1)
    have R2 := cells_set9 R.out (.int .i64 0) (.int .i64 0) (.int .i64 0) (.int .i64 0) (.string ⟨#[]⟩) (.int .i64 0) (.slice none 0 0) (.slice none 0 0) (.int .i64 1)
    obtain ⟨q0, q1, q2, q3, q4, q5, q6, q7, q8, _⟩ := R2.c9
    refine bodyPost_ret (v := .agg #[.int .i64 0, .int .i64 0, .int .i64 0, .int .i64 0, .string ⟨#[]⟩, .int .i64 0, .slice none 0 0, .slice none 0 0, .int .i64 1]) (by simp [results, Tryz.results16, go_sem, q0, q1, q2, q3, q4, q5, q6, q7, q8]) rfl ?_
    exact turn_no HB.out (givesMO_no 1 (D.out.within hw (by omega)))
  have C0 := jj c0
  clear c0
  obtain ⟨y0, y1, _⟩ := Y.out.c2
  go_wp2_with fail
  clear y0 y1
  refine (spec_setRight a2 b2 cap2 cap2' l2 s2 w1 hl2 hs2 HS2.out (K.out.mono D.out) (K'.out.mono D.out)).mono ?_
  rintro e w2 ⟨rfl, hb⟩
  replace X := jj (X.out.below hb)
  replace Y := jj (Y.out.below hb)
  replace R := jj (R.out.below hb)
  replace D := jj (D.out.below hb)
  replace hz := Nat.le_trans hz hb.size
  clear hb
  cases c1 : setB l2 s2
  · have HB := jj (show tnB kd fr tq rq ky ow l s n l2 s2 = false by unfold tnB msgB; rw [kind_ill c1]; simp)
    clear c1
    obtain ⟨r0, r1, r2, r3, r4, r5, r6, r7, r8, f0, f1, f2, f3, f4, f5, f6, f7, f8⟩ := R.out.c9
    go_wp2
    have hw := within_set9 w2 (w.heap.size + 1 + 1) (.int .i64 0) (.int .i64 0) (.int .i64 0) (.int .i64 0) (.string ⟨#[]⟩) (.int .i64 0) (.slice none 0 0) (.slice none 0 0) (.int .i64 1)
    have R2 := cells_set9 R.out (.int .i64 0) (.int .i64 0) (.int .i64 0) (.int .i64 0) (.string ⟨#[]⟩) (.int .i64 0) (.slice none 0 0) (.slice none 0 0) (.int .i64 1)
    obtain ⟨q0, q1, q2, q3, q4, q5, q6, q7, q8, _⟩ := R2.c9
    refine bodyPost_ret (v := .agg #[.int .i64 0, .int .i64 0, .int .i64 0, .int .i64 0, .string ⟨#[]⟩, .int .i64 0, .slice none 0 0, .slice none 0 0, .int .i64 1]) (by simp [results, Tryz.results16, go_sem, q0, q1, q2, q3, q4, q5, q6, q7, q8]) rfl ?_
    exact turn_no HB.out (givesMO_no 1 (D.out.within hw (by omega)))
  have C1 := jj c1
  have b8 := (setOk_of c1).2.1
  have b5 := right_len (setOk_of c1).1
  clear c1
  obtain ⟨y0, y1, _⟩ := Y.out.c2
  obtain ⟨x0, x1, x2, x3, x4, x5, x6, x7, _⟩ := X.out.c8
  go_wp2_with fail
  clear y0 y1 x0 x1 x2 x3 x4 x5 x6 x7
  refine (spec_l08Turn kd fr tq rq ky ow n a b a2 b2 cap cap' cap2 cap2' l s l2 s2 w2 (by omega) (by omega) (K.out.mono D.out) (K'.out.mono D.out)).mono ?_
  rintro e w3 ⟨a1, c1, b1, d1, lo1, hi1, lo2, hi2, rfl, ho, hp, g1, g2, g3, g4, g5, hb⟩
  have O := jj (show OwnI w3 lo1 hi1 a1 l2 from ⟨ho, g3⟩)
  have P := jj (show ROwnI 4 senc w3 lo2 hi2 b1 s2 from ⟨hp, g4⟩)
  have z3 := hb.size
  replace X := jj (X.out.below hb)
  replace Y := jj (Y.out.below hb)
  replace R := jj (R.out.below hb)
  replace D := jj (D.out.below hb)
  clear hb ho hp
  go_upto_region 4 with fail
  have hb := step_alloc w3 (.cells #[.int .i64 n, .int .i64 tq, .int .i64 fr, .int .i64 rq, .string ky, .int .i64 ow, .slice a1 l2.length c1, .slice b1 s2.length d1] 28)
  replace X := jj (X.out.below hb)
  replace Y := jj (Y.out.below hb)
  replace R := jj (R.out.below hb)
  replace D := jj (D.out.below hb)
  replace O := jj (O.out.below hb)
  replace P := jj (P.out.below hb)
  have V := jj (Cells.new w3 #[.int .i64 n, .int .i64 tq, .int .i64 fr, .int .i64 rq, .string ky, .int .i64 ow, .slice a1 l2.length c1, .slice b1 s2.length d1] 28)
  simp only [List.toList_toArray] at V
  have z4 : w3.heap.size < (w3.alloc (.cells #[.int .i64 n, .int .i64 tq, .int .i64 fr, .int .i64 rq, .string ky, .int .i64 ow, .slice a1 l2.length c1, .slice b1 s2.length d1] 28)).heap.size := by simp
  clear hb
  obtain ⟨gv, hgv⟩ : ∃ g, g = w3.heap.size := ⟨_, rfl⟩
  have lgv : w3.heap.size ≤ gv := by omega
  rw [← hgv] at V ⊢
  clear hgv
  generalize w3.alloc (.cells #[.int .i64 n, .int .i64 tq, .int .i64 fr, .int .i64 rq, .string ky, .int .i64 ow, .slice a1 l2.length c1, .slice b1 s2.length d1] 28) = w4 at X Y R D O P V z4 ⊢
  obtain ⟨v0, v1, v2, v3, v4, v5, v6, v7, _⟩ := V.out.c8
  go_wp2_with fail
  clear v0 v1 v2 v3 v4 v5 v6 v7
  refine (spec_msgRight n tq fr rq ky ow a1 b1 c1 d1 l2 s2 w4 hl2 hs2 HS2.out hy O.out.at_ P.out.at_).mono ?_
  rintro e w5 ⟨rfl, hb⟩
  replace X := jj (X.out.below hb)
  replace Y := jj (Y.out.below hb)
  replace R := jj (R.out.below hb)
  replace D := jj (D.out.below hb)
  replace O := jj (O.out.below hb)
  replace P := jj (P.out.below hb)
  replace V := jj (V.out.below hb)
  have z5 := hb.size
  clear hb
  cases c2 : msgB n tq fr rq ky ow l2 s2
  · have HB := jj (show tnB kd fr tq rq ky ow l s n l2 s2 = false by unfold tnB; rw [c2]; simp)
    clear c2
    obtain ⟨r0, r1, r2, r3, r4, r5, r6, r7, r8, f0, f1, f2, f3, f4, f5, f6, f7, f8⟩ := R.out.c9
    go_wp2
    have hw := within_set9 w5 (w.heap.size + 1 + 1) (.int .i64 0) (.int .i64 0) (.int .i64 0) (.int .i64 0) (.string ⟨#[]⟩) (.int .i64 0) (.slice none 0 0) (.slice none 0 0) (.int .i64 1)
    have R2 := cells_set9 R.out (.int .i64 0) (.int .i64 0) (.int .i64 0) (.int .i64 0) (.string ⟨#[]⟩) (.int .i64 0) (.slice none 0 0) (.slice none 0 0) (.int .i64 1)
    obtain ⟨q0, q1, q2, q3, q4, q5, q6, q7, q8, _⟩ := R2.c9
    refine bodyPost_ret (v := .agg #[.int .i64 0, .int .i64 0, .int .i64 0, .int .i64 0, .string ⟨#[]⟩, .int .i64 0, .slice none 0 0, .slice none 0 0, .int .i64 1]) (by simp [results, Tryz.results16, go_sem, q0, q1, q2, q3, q4, q5, q6, q7, q8]) rfl ?_
    exact turn_no HB.out (givesMO_no 1 (D.out.within hw (by omega)))
  have HB := jj (show tnB kd fr tq rq ky ow l s n l2 s2 = true by unfold tnB; rw [C0.out, c2]; rfl)
  clear c2
  obtain ⟨v0, v1, v2, v3, v4, v5, v6, v7, _⟩ := V.out.c8
  obtain ⟨r0, r1, r2, r3, r4, r5, r6, r7, r8, f0, f1, f2, f3, f4, f5, f6, f7, f8⟩ := R.out.c9
  go_wp2
  have hw := within_set9 w5 (w.heap.size + 1 + 1) (.int .i64 n) (.int .i64 tq) (.int .i64 fr) (.int .i64 rq) (.string ky) (.int .i64 ow) (.slice a1 l2.length c1) (.slice b1 s2.length d1) (.int .i64 0)
  have R2 := cells_set9 R.out (.int .i64 n) (.int .i64 tq) (.int .i64 fr) (.int .i64 rq) (.string ky) (.int .i64 ow) (.slice a1 l2.length c1) (.slice b1 s2.length d1) (.int .i64 0)
  obtain ⟨q0, q1, q2, q3, q4, q5, q6, q7, q8, _⟩ := R2.c9
  refine bodyPost_ret (v := .agg #[.int .i64 n, .int .i64 tq, .int .i64 fr, .int .i64 rq, .string ky, .int .i64 ow, .slice a1 l2.length c1, .slice b1 s2.length d1, .int .i64 0]) (by simp [results, Tryz.results16, go_sem, q0, q1, q2, q3, q4, q5, q6, q7, q8]) rfl ?_
  exact turn_yes HB.out ⟨a1, c1, b1, d1, lo1, hi1, lo2, hi2, rfl, (O.out.within hw (by omega)).1, (P.out.within hw (by omega)).1, by omega, by omega, (O.out.within hw (by omega)).2, (P.out.within hw (by omega)).2, by omega, D.out.within hw (by omega)⟩
end Go.Proofs.YtiaoifodaoifjaaGreat.Sb
