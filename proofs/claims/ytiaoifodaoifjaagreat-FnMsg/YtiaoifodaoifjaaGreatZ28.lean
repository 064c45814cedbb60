/- Parts of a law: MsgTurnI. Conditions: on sizes, as each says. -/
import Derived.Test.YtiaoifodaoifjaaGreatZ1
import Derived.Deep.RegionHeld3
import Derived.Test.YtiaoifodaoifjaaGreatZ23
import Derived.Test.YtiaoifodaoifjaaGreatZ15
set_option linter.unusedSimpArgs false
set_option linter.unusedVariables false
namespace Go.Proofs.YtiaoifodaoifjaaGreat.Sb
open Go.RowKit Go.Proofs.YtiaoifodaoifjaaGreat.Mk Go.Proofs.YtiaoifodaoifjaaGreat.Rw
def HasHead (M : Value) (fr tq rq : Int) (ky : ByteArray) (ow : Int) : Prop := ∃ va vb : Value, M = .iface 119 (.agg #[.int .i64 fr, .int .i64 tq, .int .i64 rq, .string ky, .int .i64 ow]) ∨ M = .iface 121 (.agg #[.int .i64 fr, .int .i64 tq, .int .i64 rq, .string ky, .int .i64 ow, va, vb]) ∨ M = .iface 122 (.agg #[.int .i64 fr, .int .i64 tq, .int .i64 rq, .string ky, .int .i64 ow, va, vb]) ∨ M = .iface 124 (.agg #[.int .i64 fr, .int .i64 tq, .int .i64 rq, .string ky, .int .i64 ow, va])
theorem msgV_head {kd fr tq rq : Int} {ky : ByteArray} {ow : Int} {l : List (Int × Int)} {s : List Sib} {va vb : Value} (h : msgB kd fr tq rq ky ow l s = true) : HasHead (msgV kd fr tq rq ky ow va vb l.length s.length) fr tq rq ky ow := by
  refine ⟨va, vb, ?_⟩
  unfold msgB kindB at h
  unfold msgV
  simp only [Bool.and_eq_true] at h
  obtain ⟨_, h⟩ := h
  split at h
  · simp only [Bool.and_eq_true, decide_eq_true_eq] at h
    rename_i hk
    rw [if_pos ⟨hk, h.2⟩]; exact .inl rfl
  · rename_i h1
    rw [if_neg (fun k => h1 k.1)]
    split at h
    · rename_i h2
      rw [if_pos h2]; exact .inr (.inl rfl)
    · rename_i h2
      rw [if_neg h2]
      split at h
      · rename_i h3
        rw [if_pos h3]; exact .inr (.inr (.inl rfl))
      · rename_i h3
        rw [if_neg h3]
        split at h
        · rename_i h4
          simp only [Bool.and_eq_true, decide_eq_true_eq] at h
          rw [if_pos ⟨h4, h.1⟩]; exact .inr (.inr (.inr rfl))
        · cases h
set_option maxRecDepth 100000 in
set_option maxHeartbeats 4000000 in
theorem closed_any (kd : Int) (fr tq rq : Int) (ky : ByteArray) (ow : Int) (a b : Option Addr) (cap cap' : Nat) (l : List (Int × Int)) (s : List Sib) (w : World) (hm : msgB kd fr tq rq ky ow l s = true) (hl : l.length ≤ 1000000) (hs : s.length ≤ 1000000) (h : MarksAt w a l) (h' : SibsAt w b s) :
    Calls Tryz.prog 45 #[msgV kd fr tq rq ky ow (.slice a l.length cap) (.slice b s.length cap') l.length s.length] w (GivesMT w kd fr tq rq ky ow l s) := by
  unfold msgB kindB at hm
  unfold msgV
  simp only [Bool.and_eq_true] at hm
  obtain ⟨_, hm⟩ := hm
  split at hm
  · simp only [Bool.and_eq_true, decide_eq_true_eq] at hm
    rename_i hk
    rw [if_pos ⟨hk, hm.2⟩]
    obtain rfl : l = [] := List.length_eq_zero_iff.1 hm.2.1
    obtain rfl : s = [] := List.length_eq_zero_iff.1 hm.2.2
    subst hk
    exact closed_1 fr tq rq ky ow w
  · rename_i h1
    rw [if_neg (fun k => h1 k.1)]
    split at hm
    · rename_i h2
      rw [if_pos h2]; subst h2; exact closed_2 fr tq rq ky ow a b cap cap' l s w hl hs h h'
    · rename_i h2
      rw [if_neg h2]
      split at hm
      · rename_i h3
        rw [if_pos h3]; subst h3; exact closed_3 fr tq rq ky ow a b cap cap' l s w hl hs h h'
      · rename_i h3
        rw [if_neg h3]
        split at hm
        · rename_i h4
          simp only [Bool.and_eq_true, decide_eq_true_eq] at hm
          rw [if_pos ⟨h4, hm.1⟩]
          obtain rfl : s = [] := List.length_eq_zero_iff.1 hm.1
          subst h4
          exact closed_4 fr tq rq ky ow a cap l w hl h
        · cases hm
set_option maxRecDepth 100000 in
set_option maxHeartbeats 4000000 in
theorem impl_msgTurn (kd fr tq rq : Int) (ky : ByteArray) (ow : Int) (n : Int) (a b a2 b2 : Option Addr) (cap cap' cap2 cap2' : Nat) (l : List (Int × Int)) (s : List Sib) (l2 : List (Int × Int)) (s2 : List Sib) (w : World) (hl : l.length ≤ maxLen) (hs : s.length ≤ maxLen) (hl2 : l2.length ≤ maxLen) (hs2 : s2.length ≤ maxLen) (hd : SmallData s) (hd2 : SmallData s2) (hy : ky.size ≤ maxLen) (hwd : WfDots s) (hwd2 : WfDots s2) (h : MarksAt w a l) (h' : SibsAt w b s) (k : MarksAt w a2 l2) (k' : SibsAt w b2 s2) :
    Calls Tryz.prog 15 #[.agg #[.int .i64 kd, .int .i64 fr, .int .i64 tq, .int .i64 rq, .string ky, .int .i64 ow, .slice a l.length cap, .slice b s.length cap'], .int .i64 n, .agg #[.slice a2 l2.length cap2, .slice b2 s2.length cap2']] w (GivesMO w (tnK kd fr tq rq ky ow l s n l2 s2) (tnF kd fr tq rq ky ow l s n l2 s2) (tnT kd fr tq rq ky ow l s n l2 s2) (tnQ kd fr tq rq ky ow l s n l2 s2) (tnY kd fr tq rq ky ow l s n l2 s2) (tnO kd fr tq rq ky ow l s n l2 s2) (tnL kd fr tq rq ky ow l s n l2 s2) (tnS kd fr tq rq ky ow l s n l2 s2) (tnC kd fr tq rq ky ow l s n l2 s2)) := by
  have HW := jj hwd
  have HW2 := jj hwd2
  clear hwd hwd2
  have H := jj h
  have H' := jj h'
  have K := jj k
  have K' := jj k'
  have HS := jj hd
  have HS2 := jj hd2
  clear h h' k k' hd hd2
  have X := jj (((Cells.new w #[.int .i64 kd, .int .i64 fr, .int .i64 tq, .int .i64 rq, .string ky, .int .i64 ow, .slice a l.length cap, .slice b s.length cap'] 28).below (step_alloc _ (.cells #[.slice a2 l2.length cap2, .slice b2 s2.length cap2'] 26))).below (step_alloc _ (.cells #[.int .i64 0, .int .i64 0, .int .i64 0, .int .i64 0, .string ⟨#[]⟩, .int .i64 0, .slice none 0 0, .slice none 0 0, .int .i64 0] 33)))
  have Y := jj ((Cells.new (w.alloc (.cells #[.int .i64 kd, .int .i64 fr, .int .i64 tq, .int .i64 rq, .string ky, .int .i64 ow, .slice a l.length cap, .slice b s.length cap'] 28)) #[.slice a2 l2.length cap2, .slice b2 s2.length cap2'] 26).below (step_alloc _ (.cells #[.int .i64 0, .int .i64 0, .int .i64 0, .int .i64 0, .string ⟨#[]⟩, .int .i64 0, .slice none 0 0, .slice none 0 0, .int .i64 0] 33)))
  have R := jj (Cells.new ((w.alloc (.cells #[.int .i64 kd, .int .i64 fr, .int .i64 tq, .int .i64 rq, .string ky, .int .i64 ow, .slice a l.length cap, .slice b s.length cap'] 28)).alloc (.cells #[.slice a2 l2.length cap2, .slice b2 s2.length cap2'] 26)) #[.int .i64 0, .int .i64 0, .int .i64 0, .int .i64 0, .string ⟨#[]⟩, .int .i64 0, .slice none 0 0, .slice none 0 0, .int .i64 0] 33)
  have D := jj (show Base w _ from Base.below (Base.below (step_alloc w (.cells #[.int .i64 kd, .int .i64 fr, .int .i64 tq, .int .i64 rq, .string ky, .int .i64 ow, .slice a l.length cap, .slice b s.length cap'] 28)) (step_alloc _ (.cells #[.slice a2 l2.length cap2, .slice b2 s2.length cap2'] 26))) (step_alloc _ (.cells #[.int .i64 0, .int .i64 0, .int .i64 0, .int .i64 0, .string ⟨#[]⟩, .int .i64 0, .slice none 0 0, .slice none 0 0, .int .i64 0] 33)))
  have hz : w.heap.size + 3 = (((w.alloc (.cells #[.int .i64 kd, .int .i64 fr, .int .i64 tq, .int .i64 rq, .string ky, .int .i64 ow, .slice a l.length cap, .slice b s.length cap'] 28)).alloc (.cells #[.slice a2 l2.length cap2, .slice b2 s2.length cap2'] 26)).alloc (.cells #[.int .i64 0, .int .i64 0, .int .i64 0, .int .i64 0, .string ⟨#[]⟩, .int .i64 0, .slice none 0 0, .slice none 0 0, .int .i64 0] 33)).heap.size := by simp
  simp only [World.size_alloc, List.toList_toArray] at X Y R
  have KA := K
  have KB := K'
  clear K K'
  go_enter Tryz.func15, Tryz.ntmps15
  go_wp2_with fail
  generalize ((w.alloc (.cells #[.int .i64 kd, .int .i64 fr, .int .i64 tq, .int .i64 rq, .string ky, .int .i64 ow, .slice a l.length cap, .slice b s.length cap'] 28)).alloc (.cells #[.slice a2 l2.length cap2, .slice b2 s2.length cap2'] 26)).alloc (.cells #[.int .i64 0, .int .i64 0, .int .i64 0, .int .i64 0, .string ⟨#[]⟩, .int .i64 0, .slice none 0 0, .slice none 0 0, .int .i64 0] 33) = w0 at X Y R D hz ⊢
  refine (openedMsg kd fr tq rq ky ow a b cap cap' l s w0 hy hl hs HS.out HW.out (H.out.mono D.out) (H'.out.mono D.out)).mono ?_
  rintro e w1 ⟨rfl, hb⟩
  replace Y := jj (Y.out.below hb)
  replace R := jj (R.out.below hb)
  replace D := jj (D.out.below hb)
  replace hz := Nat.le_trans (Nat.le_of_eq hz) hb.size
  clear hb X
  cases c0 : msgB kd fr tq rq ky ow l s
  · have HB := jj (show tnB kd fr tq rq ky ow l s n l2 s2 = false by unfold tnB; rw [c0]; rfl)
    clear c0
    obtain ⟨r0, r1, r2, r3, r4, r5, r6, r7, r8, f0, f1, f2, f3, f4, f5, f6, f7, f8⟩ := R.out.c9
    go_wp2
    have hw := within_set9 w1 (w.heap.size + 1 + 1) (.int .i64 0) (.int .i64 0) (.int .i64 0) (.int .i64 0) (.string ⟨#[]⟩) (.int .i64 0) (.slice none 0 0) (.slice none 0 0) (.int .i64 1)
    have R2 := cells_set9 R.out (.int .i64 0) (.int .i64 0) (.int .i64 0) (.int .i64 0) (.string ⟨#[]⟩) (.int .i64 0) (.slice none 0 0) (.slice none 0 0) (.int .i64 1)
    obtain ⟨q0, q1, q2, q3, q4, q5, q6, q7, q8, _⟩ := R2.c9
    refine bodyPost_ret (v := .agg #[.int .i64 0, .int .i64 0, .int .i64 0, .int .i64 0, .string ⟨#[]⟩, .int .i64 0, .slice none 0 0, .slice none 0 0, .int .i64 1]) (by simp [results, Tryz.results15, go_sem, q0, q1, q2, q3, q4, q5, q6, q7, q8]) rfl ?_
    exact turn_no HB.out (givesMO_no 1 (D.out.within hw (by omega)))
  have C0 := jj c0
  have HH := msgV_head (va := .slice a l.length cap) (vb := .slice b s.length cap') c0
  clear c0
  obtain ⟨M, hM⟩ : ∃ M, msgV kd fr tq rq ky ow (.slice a l.length cap) (.slice b s.length cap') l.length s.length = M := ⟨_, rfl⟩
  rw [hM] at HH ⊢
  clear hM
  replace Y := jj (Y.out.below (step_drew _))
  replace R := jj (R.out.below (step_drew _))
  replace D := jj (D.out.below (step_drew _))
  replace hz : w.heap.size + 3 ≤ w1.drew.heap.size := hz
  obtain ⟨va, vb, rfl | rfl | rfl | rfl⟩ := HH
  · go_wp2_with fail
    refine wp_region_held_drew (S := fun w' => w'.cell? ⟨w.heap.size + 1, 0, none⟩ = some (.slice a2 l2.length cap2) ∧ w'.cell? ⟨w.heap.size + 1, 1, none⟩ = some (.slice b2 s2.length cap2')) (by kernel_rfl) (by exact ⟨Y.out.c2.1, Y.out.c2.2.1⟩) (fun hHeld => ?_)
    refine tk 0 (v := ?_) ?_
    try walk_nrm
    refine tk 1 (v := ?_) ?_
    try walk_nrm
    refine tk 4 (v := ?_) ?_
    try walk_nrm
    refine rd 2 (fun K hK => ?_)
    go_simp
    go_wp2_with fail
    refine (hd_head fr tq rq ky ow _).mono ?_
    rintro e w2 ⟨rfl, hb⟩
    replace Y := jj (Y.out.below hb)
    replace R := jj (R.out.below hb)
    replace D := jj (D.out.below hb)
    clear hb
    go_wp2_with fail
    refine hK.out _ _ (by exact ⟨Y.out.c2.1, Y.out.c2.2.1⟩) (fun hHeld => ?_)
    clear hK K
    try walk_nrm
    refine rd 3 (fun K hK => ?_)
    go_simp
    go_at_call 44
    refine (hd_turned fr tq rq ky ow _).mono ?_
    rintro e w3 ⟨rfl, hb⟩
    replace Y := jj (Y.out.below hb)
    replace R := jj (R.out.below hb)
    replace D := jj (D.out.below hb)
    clear hb
    go_wp2_with fail
    refine hK.out _ _ (by exact ⟨Y.out.c2.1, Y.out.c2.2.1⟩) (fun hHeld => ?_)
    clear hK K
    try walk_nrm
    refine rd 5 (fun K hK => ?_)
    go_simp
    go_at_call 43
    refine (messageOf n tq fr rq ky ow a2 b2 cap2 cap2' l2 s2 _ hy hl2 hs2 HS2.out HW2.out (KA.out.mono D.out) (KB.out.mono D.out)).mono ?_
    rintro e w4 ⟨rfl, hb⟩
    replace Y := jj (Y.out.below hb)
    replace R := jj (R.out.below hb)
    replace D := jj (D.out.below hb)
    clear hb
    obtain ⟨M2, hM2⟩ : ∃ M2, msgV n tq fr rq ky ow (.slice a2 l2.length cap2) (.slice b2 s2.length cap2') l2.length s2.length = M2 := ⟨_, rfl⟩
    obtain ⟨R2, hR2⟩ : ∃ R2, msgB n tq fr rq ky ow l2 s2 = R2 := ⟨_, rfl⟩
    have HM2 := jj hM2
    have HR2 := jj hR2
    rw [hM2, hR2]
    clear hM2 hR2
    go_wp2_with fail
    refine hK.out _ _ (by exact ⟨Y.out.c2.1, Y.out.c2.2.1⟩) (fun hHeld => ?_)
    clear hK K
    try walk_nrm
    refine tk 6 (v := ?_) ?_
    try walk_nrm
    refine tk 7 (v := ?_) ?_
    try walk_nrm
    refine tk 8 (v := ?_) ?_
    try walk_nrm
    refine tk 9 (v := ?_) ?_
    try walk_nrm
    refine tk 10 (v := ?_) ?_
    try walk_nrm
    refine rx ?_
    cases R2
    · have HB := jj (show tnB kd fr tq rq ky ow l s n l2 s2 = false by unfold tnB; rw [HR2.out]; simp)
      clear HM2
      obtain ⟨r0, r1, r2, r3, r4, r5, r6, r7, r8, f0, f1, f2, f3, f4, f5, f6, f7, f8⟩ := R.out.c9
      go_wp2
      have hw := within_set9 w4 (w.heap.size + 1 + 1) (.int .i64 0) (.int .i64 0) (.int .i64 0) (.int .i64 0) (.string ⟨#[]⟩) (.int .i64 0) (.slice none 0 0) (.slice none 0 0) (.int .i64 1)
      have R2 := cells_set9 R.out (.int .i64 0) (.int .i64 0) (.int .i64 0) (.int .i64 0) (.string ⟨#[]⟩) (.int .i64 0) (.slice none 0 0) (.slice none 0 0) (.int .i64 1)
      obtain ⟨q0, q1, q2, q3, q4, q5, q6, q7, q8, _⟩ := R2.c9
      refine bodyPost_ret (v := .agg #[.int .i64 0, .int .i64 0, .int .i64 0, .int .i64 0, .string ⟨#[]⟩, .int .i64 0, .slice none 0 0, .slice none 0 0, .int .i64 1]) (by simp [results, Tryz.results15, go_sem, q0, q1, q2, q3, q4, q5, q6, q7, q8]) rfl ?_
      exact turn_no HB.out (givesMO_no 1 (D.out.within hw (by omega)))
    have HB := jj (show tnB kd fr tq rq ky ow l s n l2 s2 = true by unfold tnB; rw [C0.out, HR2.out]; rfl)
    obtain ⟨r0, r1, r2, r3, r4, r5, r6, r7, r8, f0, f1, f2, f3, f4, f5, f6, f7, f8⟩ := R.out.c9
    go_wp2_with fail
    clear r0 f0 r1 f1 r2 f2 r3 f3 r4 f4 r5 f5 r6 f6 r7 f7 r8 f8
    rw [← HM2.out]
    have b8 := (setOk_of (msgB_ok HR2.out).set).2.1
    have b5 := right_len (setOk_of (msgB_ok HR2.out).set).1
    refine (closed_any n tq fr rq ky ow a2 b2 cap2 cap2' l2 s2 w4 HR2.out (by omega) (by omega) (KA.out.mono D.out) (KB.out.mono D.out)).mono ?_
    rintro e w5 ⟨a1, c1, b1, d1, lo1, hi1, lo2, hi2, rfl, ho, hp, g1, g2, g3, g4, g5, hb⟩
    have O := jj (show OwnI w5 lo1 hi1 a1 l2 from ⟨ho, g3⟩)
    have P := jj (show ROwnI 4 senc w5 lo2 hi2 b1 s2 from ⟨hp, g4⟩)
    have z5 := hb.size
    have zR := R.out.lt
    replace Y := jj (Y.out.below hb)
    replace R := jj (R.out.below hb)
    replace D := jj (D.out.below hb)
    clear hb ho hp
    obtain ⟨r0, r1, r2, r3, r4, r5, r6, r7, r8, f0, f1, f2, f3, f4, f5, f6, f7, f8⟩ := R.out.c9
    go_wp2
    have hw := within_set9 w5 (w.heap.size + 1 + 1) (.int .i64 n) (.int .i64 tq) (.int .i64 fr) (.int .i64 rq) (.string ky) (.int .i64 ow) (.slice a1 l2.length c1) (.slice b1 s2.length d1) (.int .i64 0)
    have R3 := cells_set9 R.out (.int .i64 n) (.int .i64 tq) (.int .i64 fr) (.int .i64 rq) (.string ky) (.int .i64 ow) (.slice a1 l2.length c1) (.slice b1 s2.length d1) (.int .i64 0)
    obtain ⟨q0, q1, q2, q3, q4, q5, q6, q7, q8, _⟩ := R3.c9
    refine bodyPost_ret (v := .agg #[.int .i64 n, .int .i64 tq, .int .i64 fr, .int .i64 rq, .string ky, .int .i64 ow, .slice a1 l2.length c1, .slice b1 s2.length d1, .int .i64 0]) (by simp [results, Tryz.results15, go_sem, q0, q1, q2, q3, q4, q5, q6, q7, q8]) rfl ?_
    exact turn_yes HB.out ⟨a1, c1, b1, d1, lo1, hi1, lo2, hi2, rfl, (O.out.within hw (by omega)).1, (P.out.within hw (by omega)).1, by omega, by omega, (O.out.within hw (by omega)).2, (P.out.within hw (by omega)).2, by omega, D.out.within hw (by omega)⟩
  · go_wp2_with fail
    refine wp_region_held_drew (S := fun w' => w'.cell? ⟨w.heap.size + 1, 0, none⟩ = some (.slice a2 l2.length cap2) ∧ w'.cell? ⟨w.heap.size + 1, 1, none⟩ = some (.slice b2 s2.length cap2')) (by kernel_rfl) (by exact ⟨Y.out.c2.1, Y.out.c2.2.1⟩) (fun hHeld => ?_)
    refine tk 0 (v := ?_) ?_
    try walk_nrm
    refine tk 1 (v := ?_) ?_
    try walk_nrm
    refine tk 4 (v := ?_) ?_
    try walk_nrm
    refine rd 2 (fun K hK => ?_)
    go_simp
    go_wp2_with fail
    refine (hd_head fr tq rq ky ow _).mono ?_
    rintro e w2 ⟨rfl, hb⟩
    replace Y := jj (Y.out.below hb)
    replace R := jj (R.out.below hb)
    replace D := jj (D.out.below hb)
    clear hb
    go_wp2_with fail
    refine hK.out _ _ (by exact ⟨Y.out.c2.1, Y.out.c2.2.1⟩) (fun hHeld => ?_)
    clear hK K
    try walk_nrm
    refine rd 3 (fun K hK => ?_)
    go_simp
    go_at_call 44
    refine (hd_turned fr tq rq ky ow _).mono ?_
    rintro e w3 ⟨rfl, hb⟩
    replace Y := jj (Y.out.below hb)
    replace R := jj (R.out.below hb)
    replace D := jj (D.out.below hb)
    clear hb
    go_wp2_with fail
    refine hK.out _ _ (by exact ⟨Y.out.c2.1, Y.out.c2.2.1⟩) (fun hHeld => ?_)
    clear hK K
    try walk_nrm
    refine rd 5 (fun K hK => ?_)
    go_simp
    go_at_call 43
    refine (messageOf n tq fr rq ky ow a2 b2 cap2 cap2' l2 s2 _ hy hl2 hs2 HS2.out HW2.out (KA.out.mono D.out) (KB.out.mono D.out)).mono ?_
    rintro e w4 ⟨rfl, hb⟩
    replace Y := jj (Y.out.below hb)
    replace R := jj (R.out.below hb)
    replace D := jj (D.out.below hb)
    clear hb
    obtain ⟨M2, hM2⟩ : ∃ M2, msgV n tq fr rq ky ow (.slice a2 l2.length cap2) (.slice b2 s2.length cap2') l2.length s2.length = M2 := ⟨_, rfl⟩
    obtain ⟨R2, hR2⟩ : ∃ R2, msgB n tq fr rq ky ow l2 s2 = R2 := ⟨_, rfl⟩
    have HM2 := jj hM2
    have HR2 := jj hR2
    rw [hM2, hR2]
    clear hM2 hR2
    go_wp2_with fail
    refine hK.out _ _ (by exact ⟨Y.out.c2.1, Y.out.c2.2.1⟩) (fun hHeld => ?_)
    clear hK K
    try walk_nrm
    refine tk 6 (v := ?_) ?_
    try walk_nrm
    refine tk 7 (v := ?_) ?_
    try walk_nrm
    refine tk 8 (v := ?_) ?_
    try walk_nrm
    refine tk 9 (v := ?_) ?_
    try walk_nrm
    refine tk 10 (v := ?_) ?_
    try walk_nrm
    refine rx ?_
    cases R2
    · have HB := jj (show tnB kd fr tq rq ky ow l s n l2 s2 = false by unfold tnB; rw [HR2.out]; simp)
      clear HM2
      obtain ⟨r0, r1, r2, r3, r4, r5, r6, r7, r8, f0, f1, f2, f3, f4, f5, f6, f7, f8⟩ := R.out.c9
      go_wp2
      have hw := within_set9 w4 (w.heap.size + 1 + 1) (.int .i64 0) (.int .i64 0) (.int .i64 0) (.int .i64 0) (.string ⟨#[]⟩) (.int .i64 0) (.slice none 0 0) (.slice none 0 0) (.int .i64 1)
      have R2 := cells_set9 R.out (.int .i64 0) (.int .i64 0) (.int .i64 0) (.int .i64 0) (.string ⟨#[]⟩) (.int .i64 0) (.slice none 0 0) (.slice none 0 0) (.int .i64 1)
      obtain ⟨q0, q1, q2, q3, q4, q5, q6, q7, q8, _⟩ := R2.c9
      refine bodyPost_ret (v := .agg #[.int .i64 0, .int .i64 0, .int .i64 0, .int .i64 0, .string ⟨#[]⟩, .int .i64 0, .slice none 0 0, .slice none 0 0, .int .i64 1]) (by simp [results, Tryz.results15, go_sem, q0, q1, q2, q3, q4, q5, q6, q7, q8]) rfl ?_
      exact turn_no HB.out (givesMO_no 1 (D.out.within hw (by omega)))
    have HB := jj (show tnB kd fr tq rq ky ow l s n l2 s2 = true by unfold tnB; rw [C0.out, HR2.out]; rfl)
    obtain ⟨r0, r1, r2, r3, r4, r5, r6, r7, r8, f0, f1, f2, f3, f4, f5, f6, f7, f8⟩ := R.out.c9
    go_wp2_with fail
    clear r0 f0 r1 f1 r2 f2 r3 f3 r4 f4 r5 f5 r6 f6 r7 f7 r8 f8
    rw [← HM2.out]
    have b8 := (setOk_of (msgB_ok HR2.out).set).2.1
    have b5 := right_len (setOk_of (msgB_ok HR2.out).set).1
    refine (closed_any n tq fr rq ky ow a2 b2 cap2 cap2' l2 s2 w4 HR2.out (by omega) (by omega) (KA.out.mono D.out) (KB.out.mono D.out)).mono ?_
    rintro e w5 ⟨a1, c1, b1, d1, lo1, hi1, lo2, hi2, rfl, ho, hp, g1, g2, g3, g4, g5, hb⟩
    have O := jj (show OwnI w5 lo1 hi1 a1 l2 from ⟨ho, g3⟩)
    have P := jj (show ROwnI 4 senc w5 lo2 hi2 b1 s2 from ⟨hp, g4⟩)
    have z5 := hb.size
    have zR := R.out.lt
    replace Y := jj (Y.out.below hb)
    replace R := jj (R.out.below hb)
    replace D := jj (D.out.below hb)
    clear hb ho hp
    obtain ⟨r0, r1, r2, r3, r4, r5, r6, r7, r8, f0, f1, f2, f3, f4, f5, f6, f7, f8⟩ := R.out.c9
    go_wp2
    have hw := within_set9 w5 (w.heap.size + 1 + 1) (.int .i64 n) (.int .i64 tq) (.int .i64 fr) (.int .i64 rq) (.string ky) (.int .i64 ow) (.slice a1 l2.length c1) (.slice b1 s2.length d1) (.int .i64 0)
    have R3 := cells_set9 R.out (.int .i64 n) (.int .i64 tq) (.int .i64 fr) (.int .i64 rq) (.string ky) (.int .i64 ow) (.slice a1 l2.length c1) (.slice b1 s2.length d1) (.int .i64 0)
    obtain ⟨q0, q1, q2, q3, q4, q5, q6, q7, q8, _⟩ := R3.c9
    refine bodyPost_ret (v := .agg #[.int .i64 n, .int .i64 tq, .int .i64 fr, .int .i64 rq, .string ky, .int .i64 ow, .slice a1 l2.length c1, .slice b1 s2.length d1, .int .i64 0]) (by simp [results, Tryz.results15, go_sem, q0, q1, q2, q3, q4, q5, q6, q7, q8]) rfl ?_
    exact turn_yes HB.out ⟨a1, c1, b1, d1, lo1, hi1, lo2, hi2, rfl, (O.out.within hw (by omega)).1, (P.out.within hw (by omega)).1, by omega, by omega, (O.out.within hw (by omega)).2, (P.out.within hw (by omega)).2, by omega, D.out.within hw (by omega)⟩
  · go_wp2_with fail
    refine wp_region_held_drew (S := fun w' => w'.cell? ⟨w.heap.size + 1, 0, none⟩ = some (.slice a2 l2.length cap2) ∧ w'.cell? ⟨w.heap.size + 1, 1, none⟩ = some (.slice b2 s2.length cap2')) (by kernel_rfl) (by exact ⟨Y.out.c2.1, Y.out.c2.2.1⟩) (fun hHeld => ?_)
    refine tk 0 (v := ?_) ?_
    try walk_nrm
    refine tk 1 (v := ?_) ?_
    try walk_nrm
    refine tk 4 (v := ?_) ?_
    try walk_nrm
    refine rd 2 (fun K hK => ?_)
    go_simp
    go_wp2_with fail
    refine (hd_head fr tq rq ky ow _).mono ?_
    rintro e w2 ⟨rfl, hb⟩
    replace Y := jj (Y.out.below hb)
    replace R := jj (R.out.below hb)
    replace D := jj (D.out.below hb)
    clear hb
    go_wp2_with fail
    refine hK.out _ _ (by exact ⟨Y.out.c2.1, Y.out.c2.2.1⟩) (fun hHeld => ?_)
    clear hK K
    try walk_nrm
    refine rd 3 (fun K hK => ?_)
    go_simp
    go_at_call 44
    refine (hd_turned fr tq rq ky ow _).mono ?_
    rintro e w3 ⟨rfl, hb⟩
    replace Y := jj (Y.out.below hb)
    replace R := jj (R.out.below hb)
    replace D := jj (D.out.below hb)
    clear hb
    go_wp2_with fail
    refine hK.out _ _ (by exact ⟨Y.out.c2.1, Y.out.c2.2.1⟩) (fun hHeld => ?_)
    clear hK K
    try walk_nrm
    refine rd 5 (fun K hK => ?_)
    go_simp
    go_at_call 43
    refine (messageOf n tq fr rq ky ow a2 b2 cap2 cap2' l2 s2 _ hy hl2 hs2 HS2.out HW2.out (KA.out.mono D.out) (KB.out.mono D.out)).mono ?_
    rintro e w4 ⟨rfl, hb⟩
    replace Y := jj (Y.out.below hb)
    replace R := jj (R.out.below hb)
    replace D := jj (D.out.below hb)
    clear hb
    obtain ⟨M2, hM2⟩ : ∃ M2, msgV n tq fr rq ky ow (.slice a2 l2.length cap2) (.slice b2 s2.length cap2') l2.length s2.length = M2 := ⟨_, rfl⟩
    obtain ⟨R2, hR2⟩ : ∃ R2, msgB n tq fr rq ky ow l2 s2 = R2 := ⟨_, rfl⟩
    have HM2 := jj hM2
    have HR2 := jj hR2
    rw [hM2, hR2]
    clear hM2 hR2
    go_wp2_with fail
    refine hK.out _ _ (by exact ⟨Y.out.c2.1, Y.out.c2.2.1⟩) (fun hHeld => ?_)
    clear hK K
    try walk_nrm
    refine tk 6 (v := ?_) ?_
    try walk_nrm
    refine tk 7 (v := ?_) ?_
    try walk_nrm
    refine tk 8 (v := ?_) ?_
    try walk_nrm
    refine tk 9 (v := ?_) ?_
    try walk_nrm
    refine tk 10 (v := ?_) ?_
    try walk_nrm
    refine rx ?_
    cases R2
    · have HB := jj (show tnB kd fr tq rq ky ow l s n l2 s2 = false by unfold tnB; rw [HR2.out]; simp)
      clear HM2
      obtain ⟨r0, r1, r2, r3, r4, r5, r6, r7, r8, f0, f1, f2, f3, f4, f5, f6, f7, f8⟩ := R.out.c9
      go_wp2
      have hw := within_set9 w4 (w.heap.size + 1 + 1) (.int .i64 0) (.int .i64 0) (.int .i64 0) (.int .i64 0) (.string ⟨#[]⟩) (.int .i64 0) (.slice none 0 0) (.slice none 0 0) (.int .i64 1)
      have R2 := cells_set9 R.out (.int .i64 0) (.int .i64 0) (.int .i64 0) (.int .i64 0) (.string ⟨#[]⟩) (.int .i64 0) (.slice none 0 0) (.slice none 0 0) (.int .i64 1)
      obtain ⟨q0, q1, q2, q3, q4, q5, q6, q7, q8, _⟩ := R2.c9
      refine bodyPost_ret (v := .agg #[.int .i64 0, .int .i64 0, .int .i64 0, .int .i64 0, .string ⟨#[]⟩, .int .i64 0, .slice none 0 0, .slice none 0 0, .int .i64 1]) (by simp [results, Tryz.results15, go_sem, q0, q1, q2, q3, q4, q5, q6, q7, q8]) rfl ?_
      exact turn_no HB.out (givesMO_no 1 (D.out.within hw (by omega)))
    have HB := jj (show tnB kd fr tq rq ky ow l s n l2 s2 = true by unfold tnB; rw [C0.out, HR2.out]; rfl)
    obtain ⟨r0, r1, r2, r3, r4, r5, r6, r7, r8, f0, f1, f2, f3, f4, f5, f6, f7, f8⟩ := R.out.c9
    go_wp2_with fail
    clear r0 f0 r1 f1 r2 f2 r3 f3 r4 f4 r5 f5 r6 f6 r7 f7 r8 f8
    rw [← HM2.out]
    have b8 := (setOk_of (msgB_ok HR2.out).set).2.1
    have b5 := right_len (setOk_of (msgB_ok HR2.out).set).1
    refine (closed_any n tq fr rq ky ow a2 b2 cap2 cap2' l2 s2 w4 HR2.out (by omega) (by omega) (KA.out.mono D.out) (KB.out.mono D.out)).mono ?_
    rintro e w5 ⟨a1, c1, b1, d1, lo1, hi1, lo2, hi2, rfl, ho, hp, g1, g2, g3, g4, g5, hb⟩
    have O := jj (show OwnI w5 lo1 hi1 a1 l2 from ⟨ho, g3⟩)
    have P := jj (show ROwnI 4 senc w5 lo2 hi2 b1 s2 from ⟨hp, g4⟩)
    have z5 := hb.size
    have zR := R.out.lt
    replace Y := jj (Y.out.below hb)
    replace R := jj (R.out.below hb)
    replace D := jj (D.out.below hb)
    clear hb ho hp
    obtain ⟨r0, r1, r2, r3, r4, r5, r6, r7, r8, f0, f1, f2, f3, f4, f5, f6, f7, f8⟩ := R.out.c9
    go_wp2
    have hw := within_set9 w5 (w.heap.size + 1 + 1) (.int .i64 n) (.int .i64 tq) (.int .i64 fr) (.int .i64 rq) (.string ky) (.int .i64 ow) (.slice a1 l2.length c1) (.slice b1 s2.length d1) (.int .i64 0)
    have R3 := cells_set9 R.out (.int .i64 n) (.int .i64 tq) (.int .i64 fr) (.int .i64 rq) (.string ky) (.int .i64 ow) (.slice a1 l2.length c1) (.slice b1 s2.length d1) (.int .i64 0)
    obtain ⟨q0, q1, q2, q3, q4, q5, q6, q7, q8, _⟩ := R3.c9
    refine bodyPost_ret (v := .agg #[.int .i64 n, .int .i64 tq, .int .i64 fr, .int .i64 rq, .string ky, .int .i64 ow, .slice a1 l2.length c1, .slice b1 s2.length d1, .int .i64 0]) (by simp [results, Tryz.results15, go_sem, q0, q1, q2, q3, q4, q5, q6, q7, q8]) rfl ?_
    exact turn_yes HB.out ⟨a1, c1, b1, d1, lo1, hi1, lo2, hi2, rfl, (O.out.within hw (by omega)).1, (P.out.within hw (by omega)).1, by omega, by omega, (O.out.within hw (by omega)).2, (P.out.within hw (by omega)).2, by omega, D.out.within hw (by omega)⟩
  · go_wp2_with fail
    refine wp_region_held_drew (S := fun w' => w'.cell? ⟨w.heap.size + 1, 0, none⟩ = some (.slice a2 l2.length cap2) ∧ w'.cell? ⟨w.heap.size + 1, 1, none⟩ = some (.slice b2 s2.length cap2')) (by kernel_rfl) (by exact ⟨Y.out.c2.1, Y.out.c2.2.1⟩) (fun hHeld => ?_)
    refine tk 0 (v := ?_) ?_
    try walk_nrm
    refine tk 1 (v := ?_) ?_
    try walk_nrm
    refine tk 4 (v := ?_) ?_
    try walk_nrm
    refine rd 2 (fun K hK => ?_)
    go_simp
    go_wp2_with fail
    refine (hd_head fr tq rq ky ow _).mono ?_
    rintro e w2 ⟨rfl, hb⟩
    replace Y := jj (Y.out.below hb)
    replace R := jj (R.out.below hb)
    replace D := jj (D.out.below hb)
    clear hb
    go_wp2_with fail
    refine hK.out _ _ (by exact ⟨Y.out.c2.1, Y.out.c2.2.1⟩) (fun hHeld => ?_)
    clear hK K
    try walk_nrm
    refine rd 3 (fun K hK => ?_)
    go_simp
    go_at_call 44
    refine (hd_turned fr tq rq ky ow _).mono ?_
    rintro e w3 ⟨rfl, hb⟩
    replace Y := jj (Y.out.below hb)
    replace R := jj (R.out.below hb)
    replace D := jj (D.out.below hb)
    clear hb
    go_wp2_with fail
    refine hK.out _ _ (by exact ⟨Y.out.c2.1, Y.out.c2.2.1⟩) (fun hHeld => ?_)
    clear hK K
    try walk_nrm
    refine rd 5 (fun K hK => ?_)
    go_simp
    go_at_call 43
    refine (messageOf n tq fr rq ky ow a2 b2 cap2 cap2' l2 s2 _ hy hl2 hs2 HS2.out HW2.out (KA.out.mono D.out) (KB.out.mono D.out)).mono ?_
    rintro e w4 ⟨rfl, hb⟩
    replace Y := jj (Y.out.below hb)
    replace R := jj (R.out.below hb)
    replace D := jj (D.out.below hb)
    clear hb
    obtain ⟨M2, hM2⟩ : ∃ M2, msgV n tq fr rq ky ow (.slice a2 l2.length cap2) (.slice b2 s2.length cap2') l2.length s2.length = M2 := ⟨_, rfl⟩
    obtain ⟨R2, hR2⟩ : ∃ R2, msgB n tq fr rq ky ow l2 s2 = R2 := ⟨_, rfl⟩
    have HM2 := jj hM2
    have HR2 := jj hR2
    rw [hM2, hR2]
    clear hM2 hR2
    go_wp2_with fail
    refine hK.out _ _ (by exact ⟨Y.out.c2.1, Y.out.c2.2.1⟩) (fun hHeld => ?_)
    clear hK K
    try walk_nrm
    refine tk 6 (v := ?_) ?_
    try walk_nrm
    refine tk 7 (v := ?_) ?_
    try walk_nrm
    refine tk 8 (v := ?_) ?_
    try walk_nrm
    refine tk 9 (v := ?_) ?_
    try walk_nrm
    refine tk 10 (v := ?_) ?_
    try walk_nrm
    refine rx ?_
    cases R2
    · have HB := jj (show tnB kd fr tq rq ky ow l s n l2 s2 = false by unfold tnB; rw [HR2.out]; simp)
      clear HM2
      obtain ⟨r0, r1, r2, r3, r4, r5, r6, r7, r8, f0, f1, f2, f3, f4, f5, f6, f7, f8⟩ := R.out.c9
      go_wp2
      have hw := within_set9 w4 (w.heap.size + 1 + 1) (.int .i64 0) (.int .i64 0) (.int .i64 0) (.int .i64 0) (.string ⟨#[]⟩) (.int .i64 0) (.slice none 0 0) (.slice none 0 0) (.int .i64 1)
      have R2 := cells_set9 R.out (.int .i64 0) (.int .i64 0) (.int .i64 0) (.int .i64 0) (.string ⟨#[]⟩) (.int .i64 0) (.slice none 0 0) (.slice none 0 0) (.int .i64 1)
      obtain ⟨q0, q1, q2, q3, q4, q5, q6, q7, q8, _⟩ := R2.c9
      refine bodyPost_ret (v := .agg #[.int .i64 0, .int .i64 0, .int .i64 0, .int .i64 0, .string ⟨#[]⟩, .int .i64 0, .slice none 0 0, .slice none 0 0, .int .i64 1]) (by simp [results, Tryz.results15, go_sem, q0, q1, q2, q3, q4, q5, q6, q7, q8]) rfl ?_
      exact turn_no HB.out (givesMO_no 1 (D.out.within hw (by omega)))
    have HB := jj (show tnB kd fr tq rq ky ow l s n l2 s2 = true by unfold tnB; rw [C0.out, HR2.out]; rfl)
    obtain ⟨r0, r1, r2, r3, r4, r5, r6, r7, r8, f0, f1, f2, f3, f4, f5, f6, f7, f8⟩ := R.out.c9
    go_wp2_with fail
    clear r0 f0 r1 f1 r2 f2 r3 f3 r4 f4 r5 f5 r6 f6 r7 f7 r8 f8
    rw [← HM2.out]
    have b8 := (setOk_of (msgB_ok HR2.out).set).2.1
    have b5 := right_len (setOk_of (msgB_ok HR2.out).set).1
    refine (closed_any n tq fr rq ky ow a2 b2 cap2 cap2' l2 s2 w4 HR2.out (by omega) (by omega) (KA.out.mono D.out) (KB.out.mono D.out)).mono ?_
    rintro e w5 ⟨a1, c1, b1, d1, lo1, hi1, lo2, hi2, rfl, ho, hp, g1, g2, g3, g4, g5, hb⟩
    have O := jj (show OwnI w5 lo1 hi1 a1 l2 from ⟨ho, g3⟩)
    have P := jj (show ROwnI 4 senc w5 lo2 hi2 b1 s2 from ⟨hp, g4⟩)
    have z5 := hb.size
    have zR := R.out.lt
    replace Y := jj (Y.out.below hb)
    replace R := jj (R.out.below hb)
    replace D := jj (D.out.below hb)
    clear hb ho hp
    obtain ⟨r0, r1, r2, r3, r4, r5, r6, r7, r8, f0, f1, f2, f3, f4, f5, f6, f7, f8⟩ := R.out.c9
    go_wp2
    have hw := within_set9 w5 (w.heap.size + 1 + 1) (.int .i64 n) (.int .i64 tq) (.int .i64 fr) (.int .i64 rq) (.string ky) (.int .i64 ow) (.slice a1 l2.length c1) (.slice b1 s2.length d1) (.int .i64 0)
    have R3 := cells_set9 R.out (.int .i64 n) (.int .i64 tq) (.int .i64 fr) (.int .i64 rq) (.string ky) (.int .i64 ow) (.slice a1 l2.length c1) (.slice b1 s2.length d1) (.int .i64 0)
    obtain ⟨q0, q1, q2, q3, q4, q5, q6, q7, q8, _⟩ := R3.c9
    refine bodyPost_ret (v := .agg #[.int .i64 n, .int .i64 tq, .int .i64 fr, .int .i64 rq, .string ky, .int .i64 ow, .slice a1 l2.length c1, .slice b1 s2.length d1, .int .i64 0]) (by simp [results, Tryz.results15, go_sem, q0, q1, q2, q3, q4, q5, q6, q7, q8]) rfl ?_
    exact turn_yes HB.out ⟨a1, c1, b1, d1, lo1, hi1, lo2, hi2, rfl, (O.out.within hw (by omega)).1, (P.out.within hw (by omega)).1, by omega, by omega, (O.out.within hw (by omega)).2, (P.out.within hw (by omega)).2, by omega, D.out.within hw (by omega)⟩
end Go.Proofs.YtiaoifodaoifjaaGreat.Sb
