/- Parts of a law: MsgBytesI. Conditions: on sizes, as each says. -/
import Derived.Test.YtiaoifodaoifjaaGreatZ1
import Derived.Test.YtiaoifodaoifjaaGreatZ12
import Derived.Test.YtiaoifodaoifjaaGreatZ15
import Derived.Test.YtiaoifodaoifjaaGreatZ20
import Derived.Test.YtiaoifodaoifjaaGreatZ36
set_option linter.unusedSimpArgs false
set_option linter.unusedVariables false
namespace Go.Proofs.YtiaoifodaoifjaaGreat.Sb
open Go.RowKit Go.Proofs.YtiaoifodaoifjaaGreat.Mk Go.Proofs.YtiaoifodaoifjaaGreat.Rw
theorem cat_four (s t u v : ByteArray) : ByteArray.mk (Nu.cat [s, t, u, v]).toArray = s ++ t ++ u ++ v := by
  apply ByteArray.ext; rw [ByteArray.data_append, ByteArray.data_append, ByteArray.data_append]; simp [Nu.cat]
theorem cat_len4 (s t u v : ByteArray) : (Nu.cat [s, t, u, v]).length = s.size + t.size + u.size + v.size := by simp [Nu.cat, ← Nat.add_assoc]
theorem joined_four (s t u v : ByteArray) (w : World) (h : s.size + t.size + u.size + v.size ≤ 1000000) :
    Calls Tryz.prog 19 #[.slice (some ⟨w.heap.size, 0, none⟩) 4 4] (w.alloc (.cells #[.string s, .string t, .string u, .string v] 9)) fun e w' => e = .returned (.string (s ++ t ++ u ++ v)) ∧ Below w.heap.size w w' := by
  have hb : Below w.heap.size w (w.alloc (.cells #[.string s, .string t, .string u, .string v] 9)) := (Below.refl _ _).alloc (Nat.le_refl _) _
  refine (Nu.joined_any w.heap.size [s, t, u, v] 4 _ (by simp) (by rw [cat_len4]; exact h) (fun i hi => ?_)).mono fun e w' he => ?_
  · rw [World.cell?_alloc_mark]
    match i, hi with
    | 0, _ | 1, _ | 2, _ | 3, _ => rfl
  · rw [cat_four] at he
    exact ⟨he.1, hb.trans (he.2.mono hb.size)⟩
set_option maxRecDepth 100000 in
set_option maxHeartbeats 4000000 in
theorem impl_msgBytes (kd fr tq rq : Int) (ky : ByteArray) (ow : Int) (a b : Option Addr) (cap cap' : Nat) (l : List (Int × Int)) (s : List Sib) (w : World) (hy : ky.size ≤ maxLen) (hl : l.length ≤ maxLen) (hs : s.length ≤ maxLen) (hd : SmallData s) (hwd : WfDots s) (h : MarksAt w a l) (h' : SibsAt w b s) :
    Calls Tryz.prog 5 #[.agg #[.int .i64 kd, .int .i64 fr, .int .i64 tq, .int .i64 rq, .string ky, .int .i64 ow, .slice a l.length cap, .slice b s.length cap']] w fun e w' => e = .returned (.string (msgBytes kd fr tq rq ky ow l s)) ∧ Below w.heap.size w w' := by
  have H := jj h
  have H' := jj h'
  have HS := jj hd
  have D := jj (show Base w _ from step_alloc w (.cells #[.int .i64 kd, .int .i64 fr, .int .i64 tq, .int .i64 rq, .string ky, .int .i64 ow, .slice a l.length cap, .slice b s.length cap'] 28))
  have X := jj (Cells.new w #[.int .i64 kd, .int .i64 fr, .int .i64 tq, .int .i64 rq, .string ky, .int .i64 ow, .slice a l.length cap, .slice b s.length cap'] 28)
  simp only [List.toList_toArray] at X
  have HW := jj hwd
  clear h h' hd hwd
  go_enter Tryz.func5, Tryz.ntmps5
  go_wp2_with fail
  generalize w.alloc (.cells #[.int .i64 kd, .int .i64 fr, .int .i64 tq, .int .i64 rq, .string ky, .int .i64 ow, .slice a l.length cap, .slice b s.length cap'] 28) = w0 at D X ⊢
  refine (impl_msgRight kd fr tq rq ky ow a b cap cap' l s _ hy hl hs HS.out HW.out (H.out.mono D.out) (H'.out.mono D.out)).mono ?_
  rintro e w1 ⟨rfl, hb⟩
  replace X := jj (X.out.below hb)
  replace D := jj (D.out.below hb)
  clear hb
  cases hm : msgB kd fr tq rq ky ow l s
  · have HM := jj (show msgBytes kd fr tq rq ky ow l s = ⟨#[]⟩ from if_neg (by rw [hm]; simp))
    clear hm
    go_wp2
    go_ret
    exact ⟨Se.ret_str HM.out.symm, D.out⟩
  have HM := jj (show msgBytes kd fr tq rq ky ow l s = Se.sealed (msgBody kd fr tq rq ky ow l s) from if_pos hm)
  have HE := jj (show (Nu.numS kd ++ Nu.numS fr ++ Nu.numS tq ++ Nu.numS rq) ++ Nu.putText ky ++ Nu.numS ow ++ setBytes l s = msgBody kd fr tq rq ky ow l s from rfl)
  obtain ⟨k1, k2, k3, k4, k5, k6, k7, k8, k9, k10, kn, ks⟩ := msgB_ok hm
  obtain ⟨z1, z2, z3, z4, z5, z6, z7⟩ := (msgB_ok hm).sizes
  have kz := (name_size kn).2
  have HN := jj ks
  clear kn ks
  clear hm
  replace X := jj (X.out.below (step_drew _))
  replace D := jj (D.out.below (step_drew _))
  go_wp2_with fail
  refine wp_region_held_drew (S := fun w' => w'.cell? ⟨w.heap.size, 0, none⟩ = some (.int .i64 kd) ∧ w'.cell? ⟨w.heap.size, 1, none⟩ = some (.int .i64 fr) ∧ w'.cell? ⟨w.heap.size, 2, none⟩ = some (.int .i64 tq) ∧ w'.cell? ⟨w.heap.size, 3, none⟩ = some (.int .i64 rq) ∧ w'.cell? ⟨w.heap.size, 4, none⟩ = some (.string ky) ∧ w'.cell? ⟨w.heap.size, 5, none⟩ = some (.int .i64 ow) ∧ w'.cell? ⟨w.heap.size, 6, none⟩ = some (.slice a l.length cap) ∧ w'.cell? ⟨w.heap.size, 7, none⟩ = some (.slice b s.length cap')) (by kernel_rfl) (by exact cells_h8 X.out) (fun hHeld => ?_)
  refine tk 0 (v := ?_) ?_
  try walk_nrm
  refine tk 1 (v := ?_) ?_
  try walk_nrm
  refine tk 3 (v := ?_) ?_
  try walk_nrm
  refine tk 4 (v := ?_) ?_
  try walk_nrm
  refine tk 6 (v := ?_) ?_
  try walk_nrm
  refine tk 7 (v := ?_) ?_
  try walk_nrm
  refine tk 9 (v := ?_) ?_
  try walk_nrm
  refine tk 10 (v := ?_) ?_
  try walk_nrm
  refine rd 2 (fun K hK => ?_)
  go_simp
  go_at_call 20
  refine (Nu.impl_PutNum kd (WalkArith.wf_i64 (by omega)) _).mono ?_
  rintro e w2 ⟨rfl, hb⟩
  rw [Nu.numS_mk]
  replace X := jj (X.out.below hb)
  replace D := jj (D.out.below hb)
  clear hb
  go_wp2_with fail
  refine hK.out _ _ (by exact cells_h8 X.out) (fun hHeld => ?_)
  clear hK K
  try walk_nrm
  refine rd 5 (fun K hK => ?_)
  go_simp
  go_at_call 20
  refine (Nu.impl_PutNum fr (WalkArith.wf_i64 (by omega)) _).mono ?_
  rintro e w3 ⟨rfl, hb⟩
  rw [Nu.numS_mk]
  replace X := jj (X.out.below hb)
  replace D := jj (D.out.below hb)
  clear hb
  go_wp2_with fail
  refine hK.out _ _ (by exact cells_h8 X.out) (fun hHeld => ?_)
  clear hK K
  try walk_nrm
  refine rd 8 (fun K hK => ?_)
  go_simp
  go_at_call 20
  refine (Nu.impl_PutNum tq (WalkArith.wf_i64 (by omega)) _).mono ?_
  rintro e w4 ⟨rfl, hb⟩
  rw [Nu.numS_mk]
  replace X := jj (X.out.below hb)
  replace D := jj (D.out.below hb)
  clear hb
  go_wp2_with fail
  refine hK.out _ _ (by exact cells_h8 X.out) (fun hHeld => ?_)
  clear hK K
  try walk_nrm
  refine rd 11 (fun K hK => ?_)
  go_simp
  go_at_call 20
  refine (Nu.impl_PutNum rq (WalkArith.wf_i64 (by omega)) _).mono ?_
  rintro e w5 ⟨rfl, hb⟩
  rw [Nu.numS_mk]
  replace X := jj (X.out.below hb)
  replace D := jj (D.out.below hb)
  clear hb
  go_wp2_with fail
  refine hK.out _ _ (by exact cells_h8 X.out) (fun hHeld => ?_)
  clear hK K
  try walk_nrm
  refine rd 12 (fun K hK => ?_)
  go_simp
  --op
  have hb := step_alloc w5 (.cells #[.string (Nu.numS kd), .string (Nu.numS fr), .string (Nu.numS tq), .string (Nu.numS rq)] 9)
  have X3 := X
  have D3 := D
  replace X := jj (X.out.below hb)
  replace D := jj (D.out.below hb)
  clear hb
  refine hK.out _ _ (by exact cells_h8 X.out) (fun hHeld => ?_)
  clear hK K
  try walk_nrm
  refine rd 13 (fun K hK => ?_)
  go_simp
  go_at_call 19
  refine (joined_four (Nu.numS kd) (Nu.numS fr) (Nu.numS tq) (Nu.numS rq) w5 (by omega)).mono ?_
  rintro e w6 ⟨rfl, hb⟩
  clear X D
  have X := jj (X3.out.below hb)
  have D := jj (D3.out.below hb)
  clear hb
  go_wp2_with fail
  refine hK.out _ _ (by exact cells_h8 X.out) (fun hHeld => ?_)
  clear hK K
  try walk_nrm
  refine tk 14 (v := ?_) ?_
  try walk_nrm
  refine rx ?_
  replace X := jj (X.out.below (step_drew _))
  replace D := jj (D.out.below (step_drew _))
  clear X3 D3
  go_wp2_with fail
  refine wp_region_held_drew (S := fun w' => w'.cell? ⟨w.heap.size, 0, none⟩ = some (.int .i64 kd) ∧ w'.cell? ⟨w.heap.size, 1, none⟩ = some (.int .i64 fr) ∧ w'.cell? ⟨w.heap.size, 2, none⟩ = some (.int .i64 tq) ∧ w'.cell? ⟨w.heap.size, 3, none⟩ = some (.int .i64 rq) ∧ w'.cell? ⟨w.heap.size, 4, none⟩ = some (.string ky) ∧ w'.cell? ⟨w.heap.size, 5, none⟩ = some (.int .i64 ow) ∧ w'.cell? ⟨w.heap.size, 6, none⟩ = some (.slice a l.length cap) ∧ w'.cell? ⟨w.heap.size, 7, none⟩ = some (.slice b s.length cap')) (by kernel_rfl) (by exact cells_h8 X.out) (fun hHeld => ?_)
  refine tk 0 (v := ?_) ?_
  try walk_nrm
  refine tk 1 (v := ?_) ?_
  try walk_nrm
  refine tk 2 (v := ?_) ?_
  try walk_nrm
  refine tk 4 (v := ?_) ?_
  try walk_nrm
  refine tk 5 (v := ?_) ?_
  try walk_nrm
  refine tk 7 (v := ?_) ?_
  try walk_nrm
  refine tk 8 (v := ?_) ?_
  try walk_nrm
  refine rd 3 (fun K hK => ?_)
  go_simp
  go_at_call 22
  refine (Nu.impl_PutText ky (by unfold maxLen; omega) _).mono ?_
  rintro e w7 ⟨rfl, hb⟩
  replace X := jj (X.out.below hb)
  replace D := jj (D.out.below hb)
  clear hb
  go_wp2_with fail
  refine hK.out _ _ (by exact cells_h8 X.out) (fun hHeld => ?_)
  clear hK K
  try walk_nrm
  refine rd 6 (fun K hK => ?_)
  go_simp
  go_at_call 20
  refine (Nu.impl_PutNum ow (WalkArith.wf_i64 (by omega)) _).mono ?_
  rintro e w8 ⟨rfl, hb⟩
  rw [Nu.numS_mk]
  replace X := jj (X.out.below hb)
  replace D := jj (D.out.below hb)
  clear hb
  go_wp2_with fail
  refine hK.out _ _ (by exact cells_h8 X.out) (fun hHeld => ?_)
  clear hK K
  try walk_nrm
  refine rd 9 (fun K hK => ?_)
  go_simp
  go_at_call 23
  refine (impl_setBytes a b cap cap' l s _ hl hs HS.out HW.out (H.out.mono D.out) (H'.out.mono D.out)).mono ?_
  rintro e w9 ⟨rfl, hb⟩
  replace X := jj (X.out.below hb)
  replace D := jj (D.out.below hb)
  clear hb
  go_wp2_with fail
  refine hK.out _ _ (by exact cells_h8 X.out) (fun hHeld => ?_)
  clear hK K
  try walk_nrm
  refine rd 10 (fun K hK => ?_)
  go_simp
  --op
  have hb := step_alloc w9 (.cells #[.string (Nu.numS kd ++ Nu.numS fr ++ Nu.numS tq ++ Nu.numS rq), .string (Nu.putText ky), .string (Nu.numS ow), .string (setBytes l s)] 9)
  have X3 := X
  have D3 := D
  replace X := jj (X.out.below hb)
  replace D := jj (D.out.below hb)
  clear hb
  refine hK.out _ _ (by exact cells_h8 X.out) (fun hHeld => ?_)
  clear hK K
  try walk_nrm
  refine rd 11 (fun K hK => ?_)
  go_simp
  go_at_call 19
  refine (joined_four (Nu.numS kd ++ Nu.numS fr ++ Nu.numS tq ++ Nu.numS rq) (Nu.putText ky) (Nu.numS ow) (setBytes l s) w9 (by simp only [ByteArray.size_append]; omega)).mono ?_
  rintro e w10 ⟨rfl, hb⟩
  clear X D
  have X := jj (X3.out.below hb)
  have D := jj (D3.out.below hb)
  clear hb
  rw [HE.out]
  go_wp2_with fail
  refine hK.out _ _ (by exact cells_h8 X.out) (fun hHeld => ?_)
  clear hK K
  try walk_nrm
  refine rd 12 (fun K hK => ?_)
  go_simp
  go_at_call 21
  have ht : (msgBody kd fr tq rq ky ow l s).size ≤ maxLen := by unfold maxLen msgBody; simp only [ByteArray.size_append]; omega
  refine (Se.impl_Seal _ ht _).mono ?_
  rintro e w11 ⟨rfl, hb⟩
  replace X := jj (X.out.below hb)
  replace D := jj (D.out.below hb)
  clear hb
  go_wp2_with fail
  refine hK.out _ _ (by exact cells_h8 X.out) (fun hHeld => ?_)
  clear hK K
  try walk_nrm
  refine tk 13 (v := ?_) ?_
  try walk_nrm
  refine rx ?_
  go_wp2
  go_ret
  exact ⟨Se.ret_str HM.out.symm, D.out⟩
end Go.Proofs.YtiaoifodaoifjaaGreat.Sb
