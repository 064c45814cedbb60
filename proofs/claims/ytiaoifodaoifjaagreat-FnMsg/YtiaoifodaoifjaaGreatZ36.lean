/- Parts of a law: MsgBytesS. Conditions: on sizes, as each says. -/
import Derived.Test.YtiaoifodaoifjaaGreatZ1
import Derived.Deep.RegionHeld3
import Derived.Test.YtiaoifodaoifjaaGreatZ12
import Derived.Test.YtiaoifodaoifjaaGreatZ27
import Derived.Test.YtiaoifodaoifjaaGreatZ31
import Derived.Test.YtiaoifodaoifjaaGreatZ2
set_option linter.unusedSimpArgs false
set_option linter.unusedVariables false
namespace Go.Proofs.YtiaoifodaoifjaaGreat.Sb
open Go.RowKit Go.Proofs.YtiaoifodaoifjaaGreat.Mk Go.Proofs.YtiaoifodaoifjaaGreat.Rw
theorem cells_h8 {w : World} {g : Nat} {v0 v1 v2 v3 v4 v5 v6 v7 : Value} (h : Cells w g [v0, v1, v2, v3, v4, v5, v6, v7]) : w.cell? ⟨g, 0, none⟩ = some v0 ∧ w.cell? ⟨g, 1, none⟩ = some v1 ∧ w.cell? ⟨g, 2, none⟩ = some v2 ∧ w.cell? ⟨g, 3, none⟩ = some v3 ∧ w.cell? ⟨g, 4, none⟩ = some v4 ∧ w.cell? ⟨g, 5, none⟩ = some v5 ∧ w.cell? ⟨g, 6, none⟩ = some v6 ∧ w.cell? ⟨g, 7, none⟩ = some v7 :=
  ⟨h.cell 0 (by simp), h.cell 1 (by simp), h.cell 2 (by simp), h.cell 3 (by simp), h.cell 4 (by simp), h.cell 5 (by simp), h.cell 6 (by simp), h.cell 7 (by simp)⟩
set_option maxRecDepth 100000 in
set_option maxHeartbeats 4000000 in
theorem spec_l08Bytes (kd fr tq rq : Int) (ky : ByteArray) (ow : Int) (a b : Option Addr) (cap cap' : Nat) (l : List (Int × Int)) (s : List Sib) (w : World) (hm : msgB kd fr tq rq ky ow l s = true) (h : MarksAt w a l) (h' : SibsAt w b s) :
    Calls Tryz.prog 33 #[.agg #[.int .i64 kd, .int .i64 fr, .int .i64 tq, .int .i64 rq, .string ky, .int .i64 ow, .slice a l.length cap, .slice b s.length cap']] w fun e w' => e = .returned (.string (Se.sealed (msgBody kd fr tq rq ky ow l s))) ∧ Below w.heap.size w w' := by
  have H := jj h
  have H' := jj h'
  have D := jj (show Base w _ from step_alloc w (.cells #[.int .i64 kd, .int .i64 fr, .int .i64 tq, .int .i64 rq, .string ky, .int .i64 ow, .slice a l.length cap, .slice b s.length cap'] 28))
  have X := jj (Cells.new w #[.int .i64 kd, .int .i64 fr, .int .i64 tq, .int .i64 rq, .string ky, .int .i64 ow, .slice a l.length cap, .slice b s.length cap'] 28)
  simp only [List.toList_toArray] at X
  obtain ⟨k1, k2, k3, k4, k5, k6, k7, k8, k9, k10, kn, ks⟩ := msgB_ok hm
  obtain ⟨z1, z2, z3, z4, z5, z6, z7⟩ := (msgB_ok hm).sizes
  have kz := (name_size kn).2
  have HN := jj ks
  clear kn ks
  have y2 : ¬ 9223372036854775807 < (Nu.numS kd).size + (Nu.numS fr).size := by omega
  have y3 : ¬ 9223372036854775807 < (Nu.numS kd).size + (Nu.numS fr).size + (Nu.numS tq).size := by omega
  have y4 : ¬ 9223372036854775807 < (Nu.numS kd).size + (Nu.numS fr).size + (Nu.numS tq).size + (Nu.numS rq).size := by omega
  have y5 : ¬ 9223372036854775807 < (Nu.numS kd).size + (Nu.numS fr).size + (Nu.numS tq).size + (Nu.numS rq).size + (Nu.putText ky).size := by omega
  have y6 : ¬ 9223372036854775807 < (Nu.numS kd).size + (Nu.numS fr).size + (Nu.numS tq).size + (Nu.numS rq).size + (Nu.putText ky).size + (Nu.numS ow).size := by omega
  have y7 : ¬ 9223372036854775807 < (Nu.numS kd).size + (Nu.numS fr).size + (Nu.numS tq).size + (Nu.numS rq).size + (Nu.putText ky).size + (Nu.numS ow).size + (setBytes l s).size := by omega
  have HM := jj hm
  clear h h' hm
  replace X := jj (X.out.below (step_drew _))
  replace D := jj (D.out.below (step_drew _))
  go_enter Tryz.func33, Tryz.ntmps33
  go_wp2_with fail
  refine wp_region_held_drew (S := fun w' => w'.cell? ⟨w.heap.size, 0, none⟩ = some (.int .i64 kd) ∧ w'.cell? ⟨w.heap.size, 1, none⟩ = some (.int .i64 fr) ∧ w'.cell? ⟨w.heap.size, 2, none⟩ = some (.int .i64 tq) ∧ w'.cell? ⟨w.heap.size, 3, none⟩ = some (.int .i64 rq) ∧ w'.cell? ⟨w.heap.size, 4, none⟩ = some (.string ky) ∧ w'.cell? ⟨w.heap.size, 5, none⟩ = some (.int .i64 ow) ∧ w'.cell? ⟨w.heap.size, 6, none⟩ = some (.slice a l.length cap) ∧ w'.cell? ⟨w.heap.size, 7, none⟩ = some (.slice b s.length cap')) (by kernel_rfl) (by exact cells_h8 X.out) (fun hHeld => ?_)
  refine tk 0 (v := ?_) ?_
  try walk_nrm
  refine tk 1 (v := ?_) ?_
  try walk_nrm
  refine tk 3 (v := ?_) ?_
  try walk_nrm
  refine tk 4 (v := ?_) ?_
  try walk_nrm
  refine tk 7 (v := ?_) ?_
  try walk_nrm
  refine tk 8 (v := ?_) ?_
  try walk_nrm
  refine tk 11 (v := ?_) ?_
  try walk_nrm
  refine tk 12 (v := ?_) ?_
  try walk_nrm
  refine tk 15 (v := ?_) ?_
  try walk_nrm
  refine tk 16 (v := ?_) ?_
  try walk_nrm
  refine tk 19 (v := ?_) ?_
  try walk_nrm
  refine tk 20 (v := ?_) ?_
  try walk_nrm
  refine tk 23 (v := ?_) ?_
  try walk_nrm
  refine tk 24 (v := ?_) ?_
  try walk_nrm
  refine rd 2 (fun K hK => ?_)
  go_simp
  go_at_call 65
  refine (Nu.spec_PutNum kd (WalkArith.wf_i64 (by omega)) _).mono ?_
  rintro e w1 ⟨rfl, hb⟩
  rw [Nu.numS_mk]
  replace X := jj (X.out.below hb)
  replace D := jj (D.out.below hb)
  clear hb
  go_wp2_with fail
  refine hK.out _ _ (by exact cells_h8 X.out) (fun hHeld => ?_)
  clear hK K
  try walk_nrm
  refine rd 5 (fun K hK => ?_)
  go_simp
  go_at_call 65
  refine (Nu.spec_PutNum fr (WalkArith.wf_i64 (by omega)) _).mono ?_
  rintro e w2 ⟨rfl, hb⟩
  rw [Nu.numS_mk]
  replace X := jj (X.out.below hb)
  replace D := jj (D.out.below hb)
  clear hb
  go_wp2_with fail
  refine hK.out _ _ (by exact cells_h8 X.out) (fun hHeld => ?_)
  clear hK K
  try walk_nrm
  refine tk 6 (v := ?_) ?_
  try walk_nrm
  refine rd 9 (fun K hK => ?_)
  go_simp
  go_at_call 65
  refine (Nu.spec_PutNum tq (WalkArith.wf_i64 (by omega)) _).mono ?_
  rintro e w3 ⟨rfl, hb⟩
  rw [Nu.numS_mk]
  replace X := jj (X.out.below hb)
  replace D := jj (D.out.below hb)
  clear hb
  go_wp2_with fail
  refine hK.out _ _ (by exact cells_h8 X.out) (fun hHeld => ?_)
  clear hK K
  try walk_nrm
  refine tk 10 (v := ?_) ?_
  try walk_nrm
  refine rd 13 (fun K hK => ?_)
  go_simp
  go_at_call 65
  refine (Nu.spec_PutNum rq (WalkArith.wf_i64 (by omega)) _).mono ?_
  rintro e w4 ⟨rfl, hb⟩
  rw [Nu.numS_mk]
  replace X := jj (X.out.below hb)
  replace D := jj (D.out.below hb)
  clear hb
  go_wp2_with fail
  refine hK.out _ _ (by exact cells_h8 X.out) (fun hHeld => ?_)
  clear hK K
  try walk_nrm
  refine tk 14 (v := ?_) ?_
  try walk_nrm
  refine rd 17 (fun K hK => ?_)
  go_simp
  go_at_call 66
  refine (Nu.spec_PutText ky (by unfold maxLen; omega) _).mono ?_
  rintro e w5 ⟨rfl, hb⟩
  replace X := jj (X.out.below hb)
  replace D := jj (D.out.below hb)
  clear hb
  go_wp2_with fail
  refine hK.out _ _ (by exact cells_h8 X.out) (fun hHeld => ?_)
  clear hK K
  try walk_nrm
  refine tk 18 (v := ?_) ?_
  try walk_nrm
  refine rd 21 (fun K hK => ?_)
  go_simp
  go_at_call 65
  refine (Nu.spec_PutNum ow (WalkArith.wf_i64 (by omega)) _).mono ?_
  rintro e w6 ⟨rfl, hb⟩
  rw [Nu.numS_mk]
  replace X := jj (X.out.below hb)
  replace D := jj (D.out.below hb)
  clear hb
  go_wp2_with fail
  refine hK.out _ _ (by exact cells_h8 X.out) (fun hHeld => ?_)
  clear hK K
  try walk_nrm
  refine tk 22 (v := ?_) ?_
  try walk_nrm
  refine rd 25 (fun K hK => ?_)
  go_simp
  go_at_call 67
  refine (spec_bytesOf a b cap cap' l s _ HN.out (H.out.mono D.out) (H'.out.mono D.out)).mono ?_
  rintro e w7 ⟨rfl, hb⟩
  replace X := jj (X.out.below hb)
  replace D := jj (D.out.below hb)
  clear hb
  go_wp2_with fail
  refine hK.out _ _ (by exact cells_h8 X.out) (fun hHeld => ?_)
  clear hK K
  try walk_nrm
  refine tk 26 (v := ?_) ?_
  try walk_nrm
  refine rd 27 (fun K hK => ?_)
  go_simp
  go_at_call 26
  have ht : (msgBody kd fr tq rq ky ow l s).size ≤ maxLen := by unfold maxLen msgBody; simp only [ByteArray.size_append]; omega
  refine (Se.spec_Seal _ ht _).mono ?_
  rintro e w8 ⟨rfl, hb⟩
  replace X := jj (X.out.below hb)
  replace D := jj (D.out.below hb)
  clear hb
  go_wp2_with fail
  refine hK.out _ _ (by exact cells_h8 X.out) (fun hHeld => ?_)
  clear hK K
  try walk_nrm
  refine tk 28 (v := ?_) ?_
  try walk_nrm
  refine rx ?_
  go_wp2
  go_ret
  exact ⟨rfl, D.out⟩
set_option maxRecDepth 100000 in
set_option maxHeartbeats 4000000 in
theorem spec_msgBytes (kd fr tq rq : Int) (ky : ByteArray) (ow : Int) (a b : Option Addr) (cap cap' : Nat) (l : List (Int × Int)) (s : List Sib) (w : World) (hl : l.length ≤ maxLen) (hs : s.length ≤ maxLen) (hd : SmallData s) (hy : ky.size ≤ maxLen) (h : MarksAt w a l) (h' : SibsAt w b s) :
    Calls Tryz.prog 9 #[.agg #[.int .i64 kd, .int .i64 fr, .int .i64 tq, .int .i64 rq, .string ky, .int .i64 ow, .slice a l.length cap, .slice b s.length cap']] w fun e w' => e = .returned (.string (msgBytes kd fr tq rq ky ow l s)) ∧ Below w.heap.size w w' := by
  have H := jj h
  have H' := jj h'
  have HS := jj hd
  have D := jj (show Base w _ from step_alloc w (.cells #[.int .i64 kd, .int .i64 fr, .int .i64 tq, .int .i64 rq, .string ky, .int .i64 ow, .slice a l.length cap, .slice b s.length cap'] 28))
  have X := jj (Cells.new w #[.int .i64 kd, .int .i64 fr, .int .i64 tq, .int .i64 rq, .string ky, .int .i64 ow, .slice a l.length cap, .slice b s.length cap'] 28)
  simp only [List.toList_toArray] at X
  clear h h' hd
  go_enter Tryz.func9, Tryz.ntmps9
  go_wp2_with fail
  generalize w.alloc (.cells #[.int .i64 kd, .int .i64 fr, .int .i64 tq, .int .i64 rq, .string ky, .int .i64 ow, .slice a l.length cap, .slice b s.length cap'] 28) = w0 at D X ⊢
  refine (spec_msgRight kd fr tq rq ky ow a b cap cap' l s _ hl hs HS.out hy (H.out.mono D.out) (H'.out.mono D.out)).mono ?_
  rintro e w1 ⟨rfl, hb⟩
  replace X := jj (X.out.below hb)
  replace D := jj (D.out.below hb)
  clear hb
  cases hm : msgB kd fr tq rq ky ow l s
  · have HM := jj (show msgBytes kd fr tq rq ky ow l s = ⟨#[]⟩ from if_neg (by rw [hm]; simp))
    clear hm
    go_wp2
    go_ret
    exact ⟨Se.ret_str HM.out.symm, D.out⟩
  · have HM := jj (show msgBytes kd fr tq rq ky ow l s = Se.sealed (msgBody kd fr tq rq ky ow l s) from if_pos hm)
    have HB := jj hm
    clear hm
    obtain ⟨x0, x1, x2, x3, x4, x5, x6, x7⟩ := cells_h8 X.out
    go_wp2_with fail
    refine (spec_l08Bytes kd fr tq rq ky ow a b cap cap' l s _ HB.out (H.out.mono D.out) (H'.out.mono D.out)).mono ?_
    rintro e w2 ⟨rfl, hb⟩
    replace D := jj (D.out.below hb)
    clear hb
    go_wp2
    go_ret
    exact ⟨Se.ret_str HM.out.symm, D.out⟩
end Go.Proofs.YtiaoifodaoifjaaGreat.Sb
