/- Parts of a law: MsgTurnS, MsgTurnI, MsgTurnLaw. No condition of its own. -/
import Derived.Test.YtloenigleamcoaaMid1
import Derived.Deep.RegionHeld3
import Derived.Deep.DeepCutAuto
set_option linter.unusedSimpArgs false
set_option linter.unusedVariables false
namespace Go.Proofs.Ytloenigleamcoaa.Sb
open Go.RowKit Go.Proofs.Ytloenigleamcoaa.Mk Go.Proofs.Ytloenigleamcoaa.Rw

set_option maxRecDepth 100000 in
set_option maxHeartbeats 4000000 in
theorem spec_l08Turn (kd fr tq rq : Int) (ky : ByteArray) (ow : Int) (n : Int) (a b a2 b2 : Option Addr) (cap cap' cap2 cap2' : Nat) (l : List (Int × Int)) (s : List Sib) (l2 : List (Int × Int)) (s2 : List Sib) (w : World) (hl2 : l2.length ≤ 1000000) (hs2 : s2.length ≤ 1000000) (h : MarksAt w a2 l2) (h' : SibsAt w b2 s2) :
    Calls Try.prog 47 #[.agg #[.int .i64 kd, .int .i64 fr, .int .i64 tq, .int .i64 rq, .string ky, .int .i64 ow, .slice a l.length cap, .slice b s.length cap'], .int .i64 n, .agg #[.slice a2 l2.length cap2, .slice b2 s2.length cap2']] w (GivesMT w n tq fr rq ky ow l2 s2) := by
  have H := Lib.hid h
  have H' := Lib.hid h'
  clear h h'
  have X := Lib.hid (((Cells.new w #[.int .i64 kd, .int .i64 fr, .int .i64 tq, .int .i64 rq, .string ky, .int .i64 ow, .slice a l.length cap, .slice b s.length cap'] 35).below (step_alloc _ (.cells #[.slice a2 l2.length cap2, .slice b2 s2.length cap2'] 33))).below (step_alloc _ (.cells #[.int .i64 0, .int .i64 0, .int .i64 0, .int .i64 0, .string ⟨#[]⟩, .int .i64 0, .slice none 0 0, .slice none 0 0] 35)))
  have Y := Lib.hid ((Cells.new (w.alloc (.cells #[.int .i64 kd, .int .i64 fr, .int .i64 tq, .int .i64 rq, .string ky, .int .i64 ow, .slice a l.length cap, .slice b s.length cap'] 35)) #[.slice a2 l2.length cap2, .slice b2 s2.length cap2'] 33).below (step_alloc _ (.cells #[.int .i64 0, .int .i64 0, .int .i64 0, .int .i64 0, .string ⟨#[]⟩, .int .i64 0, .slice none 0 0, .slice none 0 0] 35)))
  have R := Lib.hid (Cells.new ((w.alloc (.cells #[.int .i64 kd, .int .i64 fr, .int .i64 tq, .int .i64 rq, .string ky, .int .i64 ow, .slice a l.length cap, .slice b s.length cap'] 35)).alloc (.cells #[.slice a2 l2.length cap2, .slice b2 s2.length cap2'] 33)) #[.int .i64 0, .int .i64 0, .int .i64 0, .int .i64 0, .string ⟨#[]⟩, .int .i64 0, .slice none 0 0, .slice none 0 0] 35)
  have D := Lib.hid (show Base w _ from Base.below (Base.below (step_alloc w (.cells #[.int .i64 kd, .int .i64 fr, .int .i64 tq, .int .i64 rq, .string ky, .int .i64 ow, .slice a l.length cap, .slice b s.length cap'] 35)) (step_alloc _ (.cells #[.slice a2 l2.length cap2, .slice b2 s2.length cap2'] 33))) (step_alloc _ (.cells #[.int .i64 0, .int .i64 0, .int .i64 0, .int .i64 0, .string ⟨#[]⟩, .int .i64 0, .slice none 0 0, .slice none 0 0] 35)))
  have hz : w.heap.size + 3 = (((w.alloc (.cells #[.int .i64 kd, .int .i64 fr, .int .i64 tq, .int .i64 rq, .string ky, .int .i64 ow, .slice a l.length cap, .slice b s.length cap'] 35)).alloc (.cells #[.slice a2 l2.length cap2, .slice b2 s2.length cap2'] 33)).alloc (.cells #[.int .i64 0, .int .i64 0, .int .i64 0, .int .i64 0, .string ⟨#[]⟩, .int .i64 0, .slice none 0 0, .slice none 0 0] 35)).heap.size := by simp
  simp only [World.size_alloc, List.toList_toArray] at X Y R
  go_enter Try.func47, Try.ntmps47
  go_wp2_with fail
  generalize ((w.alloc (.cells #[.int .i64 kd, .int .i64 fr, .int .i64 tq, .int .i64 rq, .string ky, .int .i64 ow, .slice a l.length cap, .slice b s.length cap'] 35)).alloc (.cells #[.slice a2 l2.length cap2, .slice b2 s2.length cap2'] 33)).alloc (.cells #[.int .i64 0, .int .i64 0, .int .i64 0, .int .i64 0, .string ⟨#[]⟩, .int .i64 0, .slice none 0 0, .slice none 0 0] 35) = w0 at X Y R D hz ⊢
  replace X := Lib.hid (X.out.below (step_drew _))
  replace Y := Lib.hid (Y.out.below (step_drew _))
  replace R := Lib.hid (R.out.below (step_drew _))
  replace D := Lib.hid (D.out.below (step_drew _))
  replace hz : w.heap.size + 3 = w0.drew.heap.size := hz
  refine wp_region_held_drew (S := fun w' => w'.cell? ⟨w.heap.size, 1, none⟩ = some (.int .i64 fr) ∧ w'.cell? ⟨w.heap.size, 2, none⟩ = some (.int .i64 tq) ∧ w'.cell? ⟨w.heap.size, 3, none⟩ = some (.int .i64 rq) ∧ w'.cell? ⟨w.heap.size, 4, none⟩ = some (.string ky) ∧ w'.cell? ⟨w.heap.size, 5, none⟩ = some (.int .i64 ow) ∧ w'.cell? ⟨w.heap.size + 1, 0, none⟩ = some (.slice a2 l2.length cap2) ∧ w'.cell? ⟨w.heap.size + 1, 1, none⟩ = some (.slice b2 s2.length cap2')) (by kernel_rfl) (by (obtain ⟨p0, p1, p2, p3, p4, p5, p6, p7, _⟩ := X.out.c8; exact ⟨p1, p2, p3, p4, p5, Y.out.c2.1, Y.out.c2.2.1⟩)) (fun hHeld => ?_)
  refine wpAnyH_take (i := 0) (v := ?_) rfl (by kernel_rfl) (by kernel_rfl) (by kernel_rfl) (fun _ _ _ h => h) (Or.inl ⟨by rfl, fun w hSw => by (try dsimp only at hSw); go_simp; (try with_reducible rfl)⟩) (by assumption) ?_
  try simp only [Act.put, List.setIfInBounds_toArray, List.set_cons_zero, List.set_cons_succ, List.getElem_toArray, List.getElem_cons_zero, List.getElem_cons_succ]
  refine wpAnyH_take (i := 1) (v := ?_) rfl (by kernel_rfl) (by kernel_rfl) (by kernel_rfl) (fun _ _ _ h => h) (Or.inl ⟨by rfl, fun w hSw => by (try dsimp only at hSw); go_simp; (try with_reducible rfl)⟩) (by assumption) ?_
  try simp only [Act.put, List.setIfInBounds_toArray, List.set_cons_zero, List.set_cons_succ, List.getElem_toArray, List.getElem_cons_zero, List.getElem_cons_succ]
  refine wpAnyH_take (i := 2) (v := ?_) rfl (by kernel_rfl) (by kernel_rfl) (by kernel_rfl) (fun _ _ _ h => h) (Or.inl ⟨by rfl, fun w hSw => by (try dsimp only at hSw); go_simp; (try with_reducible rfl)⟩) (by assumption) ?_
  try simp only [Act.put, List.setIfInBounds_toArray, List.set_cons_zero, List.set_cons_succ, List.getElem_toArray, List.getElem_cons_zero, List.getElem_cons_succ]
  refine wpAnyH_take (i := 3) (v := ?_) rfl (by kernel_rfl) (by kernel_rfl) (by kernel_rfl) (fun _ _ _ h => h) (Or.inl ⟨by rfl, fun w hSw => by (try dsimp only at hSw); go_simp; (try with_reducible rfl)⟩) (by assumption) ?_
  try simp only [Act.put, List.setIfInBounds_toArray, List.set_cons_zero, List.set_cons_succ, List.getElem_toArray, List.getElem_cons_zero, List.getElem_cons_succ]
  refine wpAnyH_take (i := 4) (v := ?_) rfl (by kernel_rfl) (by kernel_rfl) (by kernel_rfl) (fun _ _ _ h => h) (Or.inl ⟨by rfl, fun w hSw => by (try dsimp only at hSw); go_simp; (try with_reducible rfl)⟩) (by assumption) ?_
  try simp only [Act.put, List.setIfInBounds_toArray, List.set_cons_zero, List.set_cons_succ, List.getElem_toArray, List.getElem_cons_zero, List.getElem_cons_succ]
  refine wpAnyH_take (i := 5) (v := ?_) rfl (by kernel_rfl) (by kernel_rfl) (by kernel_rfl) (fun _ _ _ h => h) (Or.inl ⟨by rfl, fun w hSw => by (try dsimp only at hSw); go_simp; (try with_reducible rfl)⟩) (by assumption) ?_
  try simp only [Act.put, List.setIfInBounds_toArray, List.set_cons_zero, List.set_cons_succ, List.getElem_toArray, List.getElem_cons_zero, List.getElem_cons_succ]
  refine wpAnyH_take (i := 6) (v := ?_) rfl (by kernel_rfl) (by kernel_rfl) (by kernel_rfl) (fun _ _ _ h => h) (Or.inl ⟨by rfl, fun w hSw => by (try dsimp only at hSw); go_simp; (try with_reducible rfl)⟩) (by assumption) ?_
  try simp only [Act.put, List.setIfInBounds_toArray, List.set_cons_zero, List.set_cons_succ, List.getElem_toArray, List.getElem_cons_zero, List.getElem_cons_succ]
  refine wpAnyH_take (i := 7) (v := ?_) rfl (by kernel_rfl) (by kernel_rfl) (by kernel_rfl) (fun _ _ _ h => h) (Or.inl ⟨by rfl, fun w hSw => by (try dsimp only at hSw); go_simp; (try with_reducible rfl)⟩) (by assumption) ?_
  try simp only [Act.put, List.setIfInBounds_toArray, List.set_cons_zero, List.set_cons_succ, List.getElem_toArray, List.getElem_cons_zero, List.getElem_cons_succ]
  refine wpAnyH_take (i := 8) (v := ?_) rfl (by kernel_rfl) (by kernel_rfl) (by kernel_rfl) (fun _ _ _ h => h) (Or.inl ⟨by rfl, fun w hSw => by (try dsimp only at hSw); go_simp; (try with_reducible rfl)⟩) (by assumption) ?_
  try simp only [Act.put, List.setIfInBounds_toArray, List.set_cons_zero, List.set_cons_succ, List.getElem_toArray, List.getElem_cons_zero, List.getElem_cons_succ]
  refine wpAnyH_take (i := 9) (v := ?_) rfl (by kernel_rfl) (by kernel_rfl) (by kernel_rfl) (fun _ _ _ h => h) (Or.inl ⟨by rfl, fun w hSw => by (try dsimp only at hSw); go_simp; (try with_reducible rfl)⟩) (by assumption) ?_
  try simp only [Act.put, List.setIfInBounds_toArray, List.set_cons_zero, List.set_cons_succ, List.getElem_toArray, List.getElem_cons_zero, List.getElem_cons_succ]
  refine wpAnyH_take (i := 10) (v := ?_) rfl (by kernel_rfl) (by kernel_rfl) (by kernel_rfl) (fun _ _ _ h => h) (Or.inl ⟨by rfl, fun w hSw => by (try dsimp only at hSw); go_simp; (try with_reducible rfl)⟩) (by assumption) ?_
  try simp only [Act.put, List.setIfInBounds_toArray, List.set_cons_zero, List.set_cons_succ, List.getElem_toArray, List.getElem_cons_zero, List.getElem_cons_succ]
  refine wpAnyH_take (i := 11) (v := ?_) rfl (by kernel_rfl) (by kernel_rfl) (by kernel_rfl) (fun _ _ _ h => h) (Or.inl ⟨by rfl, fun w hSw => by (try dsimp only at hSw); go_simp; (try with_reducible rfl)⟩) (by assumption) ?_
  try simp only [Act.put, List.setIfInBounds_toArray, List.set_cons_zero, List.set_cons_succ, List.getElem_toArray, List.getElem_cons_zero, List.getElem_cons_succ]
  refine wpAnyH_ready (rs := [12]) (by kernel_rfl) (by simp) ?_
  refine AllReadyH.cons rfl (fun K hK => ?_) AllReadyH.nil
  go_simp
  go_at_call 82
  refine (spec_copy a2 b2 cap2 cap2' l2 s2 _ hl2 hs2 (H.out.mono D.out) (H'.out.mono D.out)).mono ?_
  rintro e w1 ⟨a1, c1, b1, d1, lo1, hi1, lo2, hi2, rfl, ho, hp, g1, g2, g3, g4, g5, hb⟩
  have O := Lib.hid (show OwnI w1 lo1 hi1 a1 l2 from ⟨ho, g3⟩)
  have P := Lib.hid (show ROwnI 4 senc w1 lo2 hi2 b1 s2 from ⟨hp, g4⟩)
  have z1 := hb.size
  replace X := Lib.hid (X.out.below hb)
  replace Y := Lib.hid (Y.out.below hb)
  replace R := Lib.hid (R.out.below hb)
  replace D := Lib.hid (D.out.below hb)
  clear hb ho hp
  go_wp2_with fail
  refine hK.out _ _ (by (obtain ⟨p0, p1, p2, p3, p4, p5, p6, p7, _⟩ := X.out.c8; exact ⟨p1, p2, p3, p4, p5, Y.out.c2.1, Y.out.c2.2.1⟩)) (fun hHeld => ?_)
  clear hK K
  try simp only [Act.put, List.setIfInBounds_toArray, List.set_cons_zero, List.set_cons_succ, List.getElem_toArray, List.getElem_cons_zero, List.getElem_cons_succ]
  refine wpAnyH_take (i := 13) (v := ?_) rfl (by kernel_rfl) (by kernel_rfl) (by kernel_rfl) (fun _ _ _ h => h) (Or.inl ⟨by rfl, fun w hSw => by (try dsimp only at hSw); go_simp; (try with_reducible rfl)⟩) (by assumption) ?_
  try simp only [Act.put, List.setIfInBounds_toArray, List.set_cons_zero, List.set_cons_succ, List.getElem_toArray, List.getElem_cons_zero, List.getElem_cons_succ]
  refine wpAnyH_ready (rs := [14]) (by kernel_rfl) (by simp) ?_
  refine AllReadyH.cons rfl (fun K hK => ?_) AllReadyH.nil
  obtain ⟨r0, r1, r2, r3, r4, r5, r6, r7, f0, f1, f2, f3, f4, f5, f6, f7⟩ := R.out.c8
  go_simp
  have hw := within_into8 w1 (w.heap.size + 1 + 1) (.int .i64 n) (.int .i64 tq) (.int .i64 fr) (.int .i64 rq) (.string ky) (.int .i64 ow) (.slice a1 l2.length c1) (.slice b1 s2.length d1)
  have R2 := Lib.hid (cells_into8 R.out (.int .i64 n) (.int .i64 tq) (.int .i64 fr) (.int .i64 rq) (.string ky) (.int .i64 ow) (.slice a1 l2.length c1) (.slice b1 s2.length d1))
  clear r0 f0 r1 f1 r2 f2 r3 f3 r4 f4 r5 f5 r6 f6 r7 f7 R
  replace O := Lib.hid (O.out.within hw (by omega))
  replace P := Lib.hid (P.out.within hw (by omega))
  replace X := Lib.hid (X.out.within hw (by omega))
  replace Y := Lib.hid (Y.out.within hw (by omega))
  replace D := Lib.hid (D.out.within hw (by omega))
  have z3 := hw.size
  clear hw
  generalize ((((((((w1.setCell ⟨w.heap.size + 1 + 1, 0, none⟩ (.int .i64 n)).setCell ⟨w.heap.size + 1 + 1, 1, none⟩ (.int .i64 tq)).setCell ⟨w.heap.size + 1 + 1, 2, none⟩ (.int .i64 fr)).setCell ⟨w.heap.size + 1 + 1, 3, none⟩ (.int .i64 rq)).setCell ⟨w.heap.size + 1 + 1, 4, none⟩ (.string ky)).setCell ⟨w.heap.size + 1 + 1, 5, none⟩ (.int .i64 ow)).setCell ⟨w.heap.size + 1 + 1, 6, none⟩ (.slice a1 l2.length c1)).setCell ⟨w.heap.size + 1 + 1, 7, none⟩ (.slice b1 s2.length d1)) = w3 at O P X Y D z3 R2 ⊢
  have R := R2
  clear R2
  refine hK.out _ _ (by (obtain ⟨p0, p1, p2, p3, p4, p5, p6, p7, _⟩ := X.out.c8; exact ⟨p1, p2, p3, p4, p5, Y.out.c2.1, Y.out.c2.2.1⟩)) (fun hHeld => ?_)
  clear hK K
  try simp only [Act.put, List.setIfInBounds_toArray, List.set_cons_zero, List.set_cons_succ, List.getElem_toArray, List.getElem_cons_zero, List.getElem_cons_succ]
  refine wpAnyH_done (by kernel_rfl) ?_ _
  obtain ⟨q0, q1, q2, q3, q4, q5, q6, q7, _⟩ := R.out.c8
  go_wp2
  refine bodyPost_ret (v := .agg #[.int .i64 n, .int .i64 tq, .int .i64 fr, .int .i64 rq, .string ky, .int .i64 ow, .slice a1 l2.length c1, .slice b1 s2.length d1]) (by simp [results, Try.results47, go_sem, q0, q1, q2, q3, q4, q5, q6, q7]) rfl ?_
  exact ⟨a1, c1, b1, d1, lo1, hi1, lo2, hi2, rfl, O.out.1, P.out.1, by omega, by omega, O.out.2, P.out.2, by omega, D.out⟩
set_option maxRecDepth 100000 in
set_option maxHeartbeats 4000000 in
theorem spec_msgTurn (kd fr tq rq : Int) (ky : ByteArray) (ow : Int) (n : Int) (a b a2 b2 : Option Addr) (cap cap' cap2 cap2' : Nat) (l : List (Int × Int)) (s : List Sib) (l2 : List (Int × Int)) (s2 : List Sib) (w : World) (hl : l.length ≤ maxLen) (hs : s.length ≤ maxLen) (hl2 : l2.length ≤ maxLen) (hs2 : s2.length ≤ maxLen) (hd : SmallData s) (hd2 : SmallData s2) (hy : ky.size ≤ maxLen) (h : MarksAt w a l) (h' : SibsAt w b s) (k : MarksAt w a2 l2) (k' : SibsAt w b2 s2) :
    Calls Try.prog 20 #[.agg #[.int .i64 kd, .int .i64 fr, .int .i64 tq, .int .i64 rq, .string ky, .int .i64 ow, .slice a l.length cap, .slice b s.length cap'], .int .i64 n, .agg #[.slice a2 l2.length cap2, .slice b2 s2.length cap2']] w (GivesMO w (tnK kd fr tq rq ky ow l s n l2 s2) (tnF kd fr tq rq ky ow l s n l2 s2) (tnT kd fr tq rq ky ow l s n l2 s2) (tnQ kd fr tq rq ky ow l s n l2 s2) (tnY kd fr tq rq ky ow l s n l2 s2) (tnO kd fr tq rq ky ow l s n l2 s2) (tnL kd fr tq rq ky ow l s n l2 s2) (tnS kd fr tq rq ky ow l s n l2 s2) (tnC kd fr tq rq ky ow l s n l2 s2)) := by
  have H := Lib.hid h
  have H' := Lib.hid h'
  have K := Lib.hid k
  have K' := Lib.hid k'
  have HS := Lib.hid hd
  have HS2 := Lib.hid hd2
  clear h h' k k' hd hd2
  have X := Lib.hid (((Cells.new w #[.int .i64 kd, .int .i64 fr, .int .i64 tq, .int .i64 rq, .string ky, .int .i64 ow, .slice a l.length cap, .slice b s.length cap'] 35).below (step_alloc _ (.cells #[.slice a2 l2.length cap2, .slice b2 s2.length cap2'] 33))).below (step_alloc _ (.cells #[.int .i64 0, .int .i64 0, .int .i64 0, .int .i64 0, .string ⟨#[]⟩, .int .i64 0, .slice none 0 0, .slice none 0 0, .int .i64 0] 41)))
  have Y := Lib.hid ((Cells.new (w.alloc (.cells #[.int .i64 kd, .int .i64 fr, .int .i64 tq, .int .i64 rq, .string ky, .int .i64 ow, .slice a l.length cap, .slice b s.length cap'] 35)) #[.slice a2 l2.length cap2, .slice b2 s2.length cap2'] 33).below (step_alloc _ (.cells #[.int .i64 0, .int .i64 0, .int .i64 0, .int .i64 0, .string ⟨#[]⟩, .int .i64 0, .slice none 0 0, .slice none 0 0, .int .i64 0] 41)))
  have R := Lib.hid (Cells.new ((w.alloc (.cells #[.int .i64 kd, .int .i64 fr, .int .i64 tq, .int .i64 rq, .string ky, .int .i64 ow, .slice a l.length cap, .slice b s.length cap'] 35)).alloc (.cells #[.slice a2 l2.length cap2, .slice b2 s2.length cap2'] 33)) #[.int .i64 0, .int .i64 0, .int .i64 0, .int .i64 0, .string ⟨#[]⟩, .int .i64 0, .slice none 0 0, .slice none 0 0, .int .i64 0] 41)
  have D := Lib.hid (show Base w _ from Base.below (Base.below (step_alloc w (.cells #[.int .i64 kd, .int .i64 fr, .int .i64 tq, .int .i64 rq, .string ky, .int .i64 ow, .slice a l.length cap, .slice b s.length cap'] 35)) (step_alloc _ (.cells #[.slice a2 l2.length cap2, .slice b2 s2.length cap2'] 33))) (step_alloc _ (.cells #[.int .i64 0, .int .i64 0, .int .i64 0, .int .i64 0, .string ⟨#[]⟩, .int .i64 0, .slice none 0 0, .slice none 0 0, .int .i64 0] 41)))
  have hz : w.heap.size + 3 = (((w.alloc (.cells #[.int .i64 kd, .int .i64 fr, .int .i64 tq, .int .i64 rq, .string ky, .int .i64 ow, .slice a l.length cap, .slice b s.length cap'] 35)).alloc (.cells #[.slice a2 l2.length cap2, .slice b2 s2.length cap2'] 33)).alloc (.cells #[.int .i64 0, .int .i64 0, .int .i64 0, .int .i64 0, .string ⟨#[]⟩, .int .i64 0, .slice none 0 0, .slice none 0 0, .int .i64 0] 41)).heap.size := by simp
  simp only [World.size_alloc, List.toList_toArray] at X Y R
  go_enter Try.func20, Try.ntmps20
  go_wp2_with fail
  generalize ((w.alloc (.cells #[.int .i64 kd, .int .i64 fr, .int .i64 tq, .int .i64 rq, .string ky, .int .i64 ow, .slice a l.length cap, .slice b s.length cap'] 35)).alloc (.cells #[.slice a2 l2.length cap2, .slice b2 s2.length cap2'] 33)).alloc (.cells #[.int .i64 0, .int .i64 0, .int .i64 0, .int .i64 0, .string ⟨#[]⟩, .int .i64 0, .slice none 0 0, .slice none 0 0, .int .i64 0] 41) = w0 at X Y R D hz ⊢
  refine (spec_msgRight kd fr tq rq ky ow a b cap cap' l s w0 hl hs HS.out hy (H.out.mono D.out) (H'.out.mono D.out)).mono ?_
  rintro e w1 ⟨rfl, hb⟩
  replace X := Lib.hid (X.out.below hb)
  replace Y := Lib.hid (Y.out.below hb)
  replace R := Lib.hid (R.out.below hb)
  replace D := Lib.hid (D.out.below hb)
  replace hz := Nat.le_trans (Nat.le_of_eq hz) hb.size
  clear hb
  cases c0 : msgB kd fr tq rq ky ow l s
  · have HB := Lib.hid (show tnB kd fr tq rq ky ow l s n l2 s2 = false by unfold tnB; rw [c0]; rfl)
    clear c0
    obtain ⟨r0, r1, r2, r3, r4, r5, r6, r7, r8, f0, f1, f2, f3, f4, f5, f6, f7, f8⟩ := R.out.c9
    go_wp2
    have hw := within_set9 w1 (w.heap.size + 1 + 1) (.int .i64 0) (.int .i64 0) (.int .i64 0) (.int .i64 0) (.string ⟨#[]⟩) (.int .i64 0) (.slice none 0 0) (.slice none 0 0) (.int .i64 1)
    have R2 := cells_set9 R.out (.int .i64 0) (.int .i64 0) (.int .i64 0) (.int .i64 0) (.string ⟨#[]⟩) (.int .i64 0) (.slice none 0 0) (.slice none 0 0) (.int .i64 1)
    obtain ⟨q0, q1, q2, q3, q4, q5, q6, q7, q8, _⟩ := R2.c9
    refine bodyPost_ret (v := .agg #[.int .i64 0, .int .i64 0, .int .i64 0, .int .i64 0, .string ⟨#[]⟩, .int .i64 0, .slice none 0 0, .slice none 0 0, .int .i64 1]) (by simp [results, Try.results20, go_sem, q0, q1, q2, q3, q4, q5, q6, q7, q8]) rfl ?_
    exact turn_no HB.out (givesMO_no 1 (D.out.within hw (by omega)))
  have C0 := Lib.hid c0
  clear c0
  obtain ⟨y0, y1, _⟩ := Y.out.c2
  go_wp2_with fail
  clear y0 y1
  refine (spec_setRight a2 b2 cap2 cap2' l2 s2 w1 hl2 hs2 HS2.out (K.out.mono D.out) (K'.out.mono D.out)).mono ?_
  rintro e w2 ⟨rfl, hb⟩
  replace X := Lib.hid (X.out.below hb)
  replace Y := Lib.hid (Y.out.below hb)
  replace R := Lib.hid (R.out.below hb)
  replace D := Lib.hid (D.out.below hb)
  replace hz := Nat.le_trans hz hb.size
  clear hb
  cases c1 : setB l2 s2
  · have HB := Lib.hid (show tnB kd fr tq rq ky ow l s n l2 s2 = false by unfold tnB msgB; rw [kind_ill c1]; simp)
    clear c1
    obtain ⟨r0, r1, r2, r3, r4, r5, r6, r7, r8, f0, f1, f2, f3, f4, f5, f6, f7, f8⟩ := R.out.c9
    go_wp2
    have hw := within_set9 w2 (w.heap.size + 1 + 1) (.int .i64 0) (.int .i64 0) (.int .i64 0) (.int .i64 0) (.string ⟨#[]⟩) (.int .i64 0) (.slice none 0 0) (.slice none 0 0) (.int .i64 1)
    have R2 := cells_set9 R.out (.int .i64 0) (.int .i64 0) (.int .i64 0) (.int .i64 0) (.string ⟨#[]⟩) (.int .i64 0) (.slice none 0 0) (.slice none 0 0) (.int .i64 1)
    obtain ⟨q0, q1, q2, q3, q4, q5, q6, q7, q8, _⟩ := R2.c9
    refine bodyPost_ret (v := .agg #[.int .i64 0, .int .i64 0, .int .i64 0, .int .i64 0, .string ⟨#[]⟩, .int .i64 0, .slice none 0 0, .slice none 0 0, .int .i64 1]) (by simp [results, Try.results20, go_sem, q0, q1, q2, q3, q4, q5, q6, q7, q8]) rfl ?_
    exact turn_no HB.out (givesMO_no 1 (D.out.within hw (by omega)))
  have C1 := Lib.hid c1
  have b8 := (setOk_of c1).2.1
  have b5 := right_len (setOk_of c1).1
  clear c1
  obtain ⟨y0, y1, _⟩ := Y.out.c2
  obtain ⟨x0, x1, x2, x3, x4, x5, x6, x7, _⟩ := X.out.c8
  go_wp2_with fail
  clear y0 y1 x0 x1 x2 x3 x4 x5 x6 x7
  refine (spec_l08Turn kd fr tq rq ky ow n a b a2 b2 cap cap' cap2 cap2' l s l2 s2 w2 (by omega) (by omega) (K.out.mono D.out) (K'.out.mono D.out)).mono ?_
  rintro e w3 ⟨a1, c1, b1, d1, lo1, hi1, lo2, hi2, rfl, ho, hp, g1, g2, g3, g4, g5, hb⟩
  have O := Lib.hid (show OwnI w3 lo1 hi1 a1 l2 from ⟨ho, g3⟩)
  have P := Lib.hid (show ROwnI 4 senc w3 lo2 hi2 b1 s2 from ⟨hp, g4⟩)
  have z3 := hb.size
  replace X := Lib.hid (X.out.below hb)
  replace Y := Lib.hid (Y.out.below hb)
  replace R := Lib.hid (R.out.below hb)
  replace D := Lib.hid (D.out.below hb)
  clear hb ho hp
  go_upto_region 4 with fail
  have hb := step_alloc w3 (.cells #[.int .i64 n, .int .i64 tq, .int .i64 fr, .int .i64 rq, .string ky, .int .i64 ow, .slice a1 l2.length c1, .slice b1 s2.length d1] 35)
  replace X := Lib.hid (X.out.below hb)
  replace Y := Lib.hid (Y.out.below hb)
  replace R := Lib.hid (R.out.below hb)
  replace D := Lib.hid (D.out.below hb)
  replace O := Lib.hid (O.out.below hb)
  replace P := Lib.hid (P.out.below hb)
  have V := Lib.hid (Cells.new w3 #[.int .i64 n, .int .i64 tq, .int .i64 fr, .int .i64 rq, .string ky, .int .i64 ow, .slice a1 l2.length c1, .slice b1 s2.length d1] 35)
  simp only [List.toList_toArray] at V
  have z4 : w3.heap.size < (w3.alloc (.cells #[.int .i64 n, .int .i64 tq, .int .i64 fr, .int .i64 rq, .string ky, .int .i64 ow, .slice a1 l2.length c1, .slice b1 s2.length d1] 35)).heap.size := by simp
  clear hb
  obtain ⟨gv, hgv⟩ : ∃ g, g = w3.heap.size := ⟨_, rfl⟩
  have lgv : w3.heap.size ≤ gv := by omega
  rw [← hgv] at V ⊢
  clear hgv
  generalize w3.alloc (.cells #[.int .i64 n, .int .i64 tq, .int .i64 fr, .int .i64 rq, .string ky, .int .i64 ow, .slice a1 l2.length c1, .slice b1 s2.length d1] 35) = w4 at X Y R D O P V z4 ⊢
  obtain ⟨v0, v1, v2, v3, v4, v5, v6, v7, _⟩ := V.out.c8
  go_wp2_with fail
  clear v0 v1 v2 v3 v4 v5 v6 v7
  refine (spec_msgRight n tq fr rq ky ow a1 b1 c1 d1 l2 s2 w4 hl2 hs2 HS2.out hy O.out.at_ P.out.at_).mono ?_
  rintro e w5 ⟨rfl, hb⟩
  replace X := Lib.hid (X.out.below hb)
  replace Y := Lib.hid (Y.out.below hb)
  replace R := Lib.hid (R.out.below hb)
  replace D := Lib.hid (D.out.below hb)
  replace O := Lib.hid (O.out.below hb)
  replace P := Lib.hid (P.out.below hb)
  replace V := Lib.hid (V.out.below hb)
  have z5 := hb.size
  clear hb
  cases c2 : msgB n tq fr rq ky ow l2 s2
  · have HB := Lib.hid (show tnB kd fr tq rq ky ow l s n l2 s2 = false by unfold tnB; rw [c2]; simp)
    clear c2
    obtain ⟨r0, r1, r2, r3, r4, r5, r6, r7, r8, f0, f1, f2, f3, f4, f5, f6, f7, f8⟩ := R.out.c9
    go_wp2
    have hw := within_set9 w5 (w.heap.size + 1 + 1) (.int .i64 0) (.int .i64 0) (.int .i64 0) (.int .i64 0) (.string ⟨#[]⟩) (.int .i64 0) (.slice none 0 0) (.slice none 0 0) (.int .i64 1)
    have R2 := cells_set9 R.out (.int .i64 0) (.int .i64 0) (.int .i64 0) (.int .i64 0) (.string ⟨#[]⟩) (.int .i64 0) (.slice none 0 0) (.slice none 0 0) (.int .i64 1)
    obtain ⟨q0, q1, q2, q3, q4, q5, q6, q7, q8, _⟩ := R2.c9
    refine bodyPost_ret (v := .agg #[.int .i64 0, .int .i64 0, .int .i64 0, .int .i64 0, .string ⟨#[]⟩, .int .i64 0, .slice none 0 0, .slice none 0 0, .int .i64 1]) (by simp [results, Try.results20, go_sem, q0, q1, q2, q3, q4, q5, q6, q7, q8]) rfl ?_
    exact turn_no HB.out (givesMO_no 1 (D.out.within hw (by omega)))
  have HB := Lib.hid (show tnB kd fr tq rq ky ow l s n l2 s2 = true by unfold tnB; rw [C0.out, c2]; rfl)
  clear c2
  obtain ⟨v0, v1, v2, v3, v4, v5, v6, v7, _⟩ := V.out.c8
  obtain ⟨r0, r1, r2, r3, r4, r5, r6, r7, r8, f0, f1, f2, f3, f4, f5, f6, f7, f8⟩ := R.out.c9
  go_wp2
  have hw := within_set9 w5 (w.heap.size + 1 + 1) (.int .i64 n) (.int .i64 tq) (.int .i64 fr) (.int .i64 rq) (.string ky) (.int .i64 ow) (.slice a1 l2.length c1) (.slice b1 s2.length d1) (.int .i64 0)
  have R2 := cells_set9 R.out (.int .i64 n) (.int .i64 tq) (.int .i64 fr) (.int .i64 rq) (.string ky) (.int .i64 ow) (.slice a1 l2.length c1) (.slice b1 s2.length d1) (.int .i64 0)
  obtain ⟨q0, q1, q2, q3, q4, q5, q6, q7, q8, _⟩ := R2.c9
  refine bodyPost_ret (v := .agg #[.int .i64 n, .int .i64 tq, .int .i64 fr, .int .i64 rq, .string ky, .int .i64 ow, .slice a1 l2.length c1, .slice b1 s2.length d1, .int .i64 0]) (by simp [results, Try.results20, go_sem, q0, q1, q2, q3, q4, q5, q6, q7, q8]) rfl ?_
  exact turn_yes HB.out ⟨a1, c1, b1, d1, lo1, hi1, lo2, hi2, rfl, (O.out.within hw (by omega)).1, (P.out.within hw (by omega)).1, by omega, by omega, (O.out.within hw (by omega)).2, (P.out.within hw (by omega)).2, by omega, D.out.within hw (by omega)⟩
end Go.Proofs.Ytloenigleamcoaa.Sb

set_option linter.unusedSimpArgs false
set_option linter.unusedVariables false
namespace Go.Proofs.Ytloenigleamcoaa.Sb
open Go.RowKit Go.Proofs.Ytloenigleamcoaa.Mk Go.Proofs.Ytloenigleamcoaa.Rw

/-- a message of impl's whose header is h -/
def HasHead (M : Value) (fr tq rq : Int) (ky : ByteArray) (ow : Int) : Prop := ∃ va vb : Value, M = .iface 132 (.agg #[.int .i64 fr, .int .i64 tq, .int .i64 rq, .string ky, .int .i64 ow]) ∨ M = .iface 134 (.agg #[.int .i64 fr, .int .i64 tq, .int .i64 rq, .string ky, .int .i64 ow, va, vb]) ∨ M = .iface 135 (.agg #[.int .i64 fr, .int .i64 tq, .int .i64 rq, .string ky, .int .i64 ow, va, vb]) ∨ M = .iface 137 (.agg #[.int .i64 fr, .int .i64 tq, .int .i64 rq, .string ky, .int .i64 ow, va])
theorem msgV_head {kd fr tq rq : Int} {ky : ByteArray} {ow : Int} {l : List (Int × Int)} {s : List Sib} {va vb : Value} (h : msgB kd fr tq rq ky ow l s = true) : HasHead (msgV kd fr tq rq ky ow va vb l.length s.length) fr tq rq ky ow := by
  refine ⟨va, vb, ?_⟩
  unfold msgB kindB at h
  unfold msgV
  simp only [Bool.and_eq_true] at h
  obtain ⟨_, h⟩ := h
  split at h
  · simp only [Bool.and_eq_true, decide_eq_true_eq] at h
    rename_i hk
    rw [if_pos ⟨hk, h.2⟩]; exact .inl rfl
  · rename_i h1
    rw [if_neg (fun k => h1 k.1)]
    split at h
    · rename_i h2
      rw [if_pos h2]; exact .inr (.inl rfl)
    · rename_i h2
      rw [if_neg h2]
      split at h
      · rename_i h3
        rw [if_pos h3]; exact .inr (.inr (.inl rfl))
      · rename_i h3
        rw [if_neg h3]
        split at h
        · rename_i h4
          simp only [Bool.and_eq_true, decide_eq_true_eq] at h
          rw [if_pos ⟨h4, h.1⟩]; exact .inr (.inr (.inr rfl))
        · cases h
set_option maxRecDepth 100000 in
set_option maxHeartbeats 4000000 in
theorem closed_any (kd : Int) (fr tq rq : Int) (ky : ByteArray) (ow : Int) (a b : Option Addr) (cap cap' : Nat) (l : List (Int × Int)) (s : List Sib) (w : World) (hm : msgB kd fr tq rq ky ow l s = true) (hl : l.length ≤ 1000000) (hs : s.length ≤ 1000000) (h : MarksAt w a l) (h' : SibsAt w b s) :
    Calls Try.prog 52 #[msgV kd fr tq rq ky ow (.slice a l.length cap) (.slice b s.length cap') l.length s.length] w (GivesMT w kd fr tq rq ky ow l s) := by
  unfold msgB kindB at hm
  unfold msgV
  simp only [Bool.and_eq_true] at hm
  obtain ⟨_, hm⟩ := hm
  split at hm
  · simp only [Bool.and_eq_true, decide_eq_true_eq] at hm
    rename_i hk
    rw [if_pos ⟨hk, hm.2⟩]
    obtain rfl : l = [] := List.length_eq_zero_iff.1 hm.2.1
    obtain rfl : s = [] := List.length_eq_zero_iff.1 hm.2.2
    subst hk
    exact closed_1 fr tq rq ky ow w
  · rename_i h1
    rw [if_neg (fun k => h1 k.1)]
    split at hm
    · rename_i h2
      rw [if_pos h2]; subst h2; exact closed_2 fr tq rq ky ow a b cap cap' l s w hl hs h h'
    · rename_i h2
      rw [if_neg h2]
      split at hm
      · rename_i h3
        rw [if_pos h3]; subst h3; exact closed_3 fr tq rq ky ow a b cap cap' l s w hl hs h h'
      · rename_i h3
        rw [if_neg h3]
        split at hm
        · rename_i h4
          simp only [Bool.and_eq_true, decide_eq_true_eq] at hm
          rw [if_pos ⟨h4, hm.1⟩]
          obtain rfl : s = [] := List.length_eq_zero_iff.1 hm.1
          subst h4
          exact closed_4 fr tq rq ky ow a cap l w hl h
        · cases hm
set_option maxRecDepth 100000 in
set_option maxHeartbeats 4000000 in
theorem impl_msgTurn (kd fr tq rq : Int) (ky : ByteArray) (ow : Int) (n : Int) (a b a2 b2 : Option Addr) (cap cap' cap2 cap2' : Nat) (l : List (Int × Int)) (s : List Sib) (l2 : List (Int × Int)) (s2 : List Sib) (w : World) (hl : l.length ≤ maxLen) (hs : s.length ≤ maxLen) (hl2 : l2.length ≤ maxLen) (hs2 : s2.length ≤ maxLen) (hd : SmallData s) (hd2 : SmallData s2) (hy : ky.size ≤ maxLen) (hwd : WfDots s) (hwd2 : WfDots s2) (h : MarksAt w a l) (h' : SibsAt w b s) (k : MarksAt w a2 l2) (k' : SibsAt w b2 s2) :
    Calls Try.prog 22 #[.agg #[.int .i64 kd, .int .i64 fr, .int .i64 tq, .int .i64 rq, .string ky, .int .i64 ow, .slice a l.length cap, .slice b s.length cap'], .int .i64 n, .agg #[.slice a2 l2.length cap2, .slice b2 s2.length cap2']] w (GivesMO w (tnK kd fr tq rq ky ow l s n l2 s2) (tnF kd fr tq rq ky ow l s n l2 s2) (tnT kd fr tq rq ky ow l s n l2 s2) (tnQ kd fr tq rq ky ow l s n l2 s2) (tnY kd fr tq rq ky ow l s n l2 s2) (tnO kd fr tq rq ky ow l s n l2 s2) (tnL kd fr tq rq ky ow l s n l2 s2) (tnS kd fr tq rq ky ow l s n l2 s2) (tnC kd fr tq rq ky ow l s n l2 s2)) := by
  have HW := Lib.hid hwd
  have HW2 := Lib.hid hwd2
  clear hwd hwd2
  have H := Lib.hid h
  have H' := Lib.hid h'
  have K := Lib.hid k
  have K' := Lib.hid k'
  have HS := Lib.hid hd
  have HS2 := Lib.hid hd2
  clear h h' k k' hd hd2
  have X := Lib.hid (((Cells.new w #[.int .i64 kd, .int .i64 fr, .int .i64 tq, .int .i64 rq, .string ky, .int .i64 ow, .slice a l.length cap, .slice b s.length cap'] 35).below (step_alloc _ (.cells #[.slice a2 l2.length cap2, .slice b2 s2.length cap2'] 33))).below (step_alloc _ (.cells #[.int .i64 0, .int .i64 0, .int .i64 0, .int .i64 0, .string ⟨#[]⟩, .int .i64 0, .slice none 0 0, .slice none 0 0, .int .i64 0] 41)))
  have Y := Lib.hid ((Cells.new (w.alloc (.cells #[.int .i64 kd, .int .i64 fr, .int .i64 tq, .int .i64 rq, .string ky, .int .i64 ow, .slice a l.length cap, .slice b s.length cap'] 35)) #[.slice a2 l2.length cap2, .slice b2 s2.length cap2'] 33).below (step_alloc _ (.cells #[.int .i64 0, .int .i64 0, .int .i64 0, .int .i64 0, .string ⟨#[]⟩, .int .i64 0, .slice none 0 0, .slice none 0 0, .int .i64 0] 41)))
  have R := Lib.hid (Cells.new ((w.alloc (.cells #[.int .i64 kd, .int .i64 fr, .int .i64 tq, .int .i64 rq, .string ky, .int .i64 ow, .slice a l.length cap, .slice b s.length cap'] 35)).alloc (.cells #[.slice a2 l2.length cap2, .slice b2 s2.length cap2'] 33)) #[.int .i64 0, .int .i64 0, .int .i64 0, .int .i64 0, .string ⟨#[]⟩, .int .i64 0, .slice none 0 0, .slice none 0 0, .int .i64 0] 41)
  have D := Lib.hid (show Base w _ from Base.below (Base.below (step_alloc w (.cells #[.int .i64 kd, .int .i64 fr, .int .i64 tq, .int .i64 rq, .string ky, .int .i64 ow, .slice a l.length cap, .slice b s.length cap'] 35)) (step_alloc _ (.cells #[.slice a2 l2.length cap2, .slice b2 s2.length cap2'] 33))) (step_alloc _ (.cells #[.int .i64 0, .int .i64 0, .int .i64 0, .int .i64 0, .string ⟨#[]⟩, .int .i64 0, .slice none 0 0, .slice none 0 0, .int .i64 0] 41)))
  have hz : w.heap.size + 3 = (((w.alloc (.cells #[.int .i64 kd, .int .i64 fr, .int .i64 tq, .int .i64 rq, .string ky, .int .i64 ow, .slice a l.length cap, .slice b s.length cap'] 35)).alloc (.cells #[.slice a2 l2.length cap2, .slice b2 s2.length cap2'] 33)).alloc (.cells #[.int .i64 0, .int .i64 0, .int .i64 0, .int .i64 0, .string ⟨#[]⟩, .int .i64 0, .slice none 0 0, .slice none 0 0, .int .i64 0] 41)).heap.size := by simp
  simp only [World.size_alloc, List.toList_toArray] at X Y R
  have KA := K
  have KB := K'
  clear K K'
  go_enter Try.func22, Try.ntmps22
  go_wp2_with fail
  generalize ((w.alloc (.cells #[.int .i64 kd, .int .i64 fr, .int .i64 tq, .int .i64 rq, .string ky, .int .i64 ow, .slice a l.length cap, .slice b s.length cap'] 35)).alloc (.cells #[.slice a2 l2.length cap2, .slice b2 s2.length cap2'] 33)).alloc (.cells #[.int .i64 0, .int .i64 0, .int .i64 0, .int .i64 0, .string ⟨#[]⟩, .int .i64 0, .slice none 0 0, .slice none 0 0, .int .i64 0] 41) = w0 at X Y R D hz ⊢
  refine (openedMsg kd fr tq rq ky ow a b cap cap' l s w0 hy hl hs HS.out HW.out (H.out.mono D.out) (H'.out.mono D.out)).mono ?_
  rintro e w1 ⟨rfl, hb⟩
  replace Y := Lib.hid (Y.out.below hb)
  replace R := Lib.hid (R.out.below hb)
  replace D := Lib.hid (D.out.below hb)
  replace hz := Nat.le_trans (Nat.le_of_eq hz) hb.size
  clear hb X
  cases c0 : msgB kd fr tq rq ky ow l s
  · have HB := Lib.hid (show tnB kd fr tq rq ky ow l s n l2 s2 = false by unfold tnB; rw [c0]; rfl)
    clear c0
    obtain ⟨r0, r1, r2, r3, r4, r5, r6, r7, r8, f0, f1, f2, f3, f4, f5, f6, f7, f8⟩ := R.out.c9
    go_wp2
    have hw := within_set9 w1 (w.heap.size + 1 + 1) (.int .i64 0) (.int .i64 0) (.int .i64 0) (.int .i64 0) (.string ⟨#[]⟩) (.int .i64 0) (.slice none 0 0) (.slice none 0 0) (.int .i64 1)
    have R2 := cells_set9 R.out (.int .i64 0) (.int .i64 0) (.int .i64 0) (.int .i64 0) (.string ⟨#[]⟩) (.int .i64 0) (.slice none 0 0) (.slice none 0 0) (.int .i64 1)
    obtain ⟨q0, q1, q2, q3, q4, q5, q6, q7, q8, _⟩ := R2.c9
    refine bodyPost_ret (v := .agg #[.int .i64 0, .int .i64 0, .int .i64 0, .int .i64 0, .string ⟨#[]⟩, .int .i64 0, .slice none 0 0, .slice none 0 0, .int .i64 1]) (by simp [results, Try.results22, go_sem, q0, q1, q2, q3, q4, q5, q6, q7, q8]) rfl ?_
    exact turn_no HB.out (givesMO_no 1 (D.out.within hw (by omega)))
  have C0 := Lib.hid c0
  have HH := msgV_head (va := .slice a l.length cap) (vb := .slice b s.length cap') c0
  clear c0
  obtain ⟨M, hM⟩ : ∃ M, msgV kd fr tq rq ky ow (.slice a l.length cap) (.slice b s.length cap') l.length s.length = M := ⟨_, rfl⟩
  rw [hM] at HH ⊢
  clear hM
  replace Y := Lib.hid (Y.out.below (step_drew _))
  replace R := Lib.hid (R.out.below (step_drew _))
  replace D := Lib.hid (D.out.below (step_drew _))
  replace hz : w.heap.size + 3 ≤ w1.drew.heap.size := hz
  obtain ⟨va, vb, rfl | rfl | rfl | rfl⟩ := HH
  · go_wp2_with fail
    refine wp_region_held_drew (S := fun w' => w'.cell? ⟨w.heap.size + 1, 0, none⟩ = some (.slice a2 l2.length cap2) ∧ w'.cell? ⟨w.heap.size + 1, 1, none⟩ = some (.slice b2 s2.length cap2')) (by kernel_rfl) (by exact ⟨Y.out.c2.1, Y.out.c2.2.1⟩) (fun hHeld => ?_)
    refine wpAnyH_take (i := 0) (v := ?_) rfl (by kernel_rfl) (by kernel_rfl) (by kernel_rfl) (fun _ _ _ h => h) (Or.inl ⟨by rfl, fun w hSw => by (try dsimp only at hSw); go_simp; (try with_reducible rfl)⟩) (by assumption) ?_
    try simp only [Act.put, List.setIfInBounds_toArray, List.set_cons_zero, List.set_cons_succ, List.getElem_toArray, List.getElem_cons_zero, List.getElem_cons_succ]
    refine wpAnyH_take (i := 1) (v := ?_) rfl (by kernel_rfl) (by kernel_rfl) (by kernel_rfl) (fun _ _ _ h => h) (Or.inl ⟨by rfl, fun w hSw => by (try dsimp only at hSw); go_simp; (try with_reducible rfl)⟩) (by assumption) ?_
    try simp only [Act.put, List.setIfInBounds_toArray, List.set_cons_zero, List.set_cons_succ, List.getElem_toArray, List.getElem_cons_zero, List.getElem_cons_succ]
    refine wpAnyH_take (i := 4) (v := ?_) rfl (by kernel_rfl) (by kernel_rfl) (by kernel_rfl) (fun _ _ _ h => h) (Or.inl ⟨by rfl, fun w hSw => by (try dsimp only at hSw); go_simp; (try with_reducible rfl)⟩) (by assumption) ?_
    try simp only [Act.put, List.setIfInBounds_toArray, List.set_cons_zero, List.set_cons_succ, List.getElem_toArray, List.getElem_cons_zero, List.getElem_cons_succ]
    refine wpAnyH_ready (rs := [2]) (by kernel_rfl) (by simp) ?_
    refine AllReadyH.cons rfl (fun K hK => ?_) AllReadyH.nil
    go_simp
    go_wp2_with fail
    refine (hd_head fr tq rq ky ow _).mono ?_
    rintro e w2 ⟨rfl, hb⟩
    replace Y := Lib.hid (Y.out.below hb)
    replace R := Lib.hid (R.out.below hb)
    replace D := Lib.hid (D.out.below hb)
    clear hb
    go_wp2_with fail
    refine hK.out _ _ (by exact ⟨Y.out.c2.1, Y.out.c2.2.1⟩) (fun hHeld => ?_)
    clear hK K
    try simp only [Act.put, List.setIfInBounds_toArray, List.set_cons_zero, List.set_cons_succ, List.getElem_toArray, List.getElem_cons_zero, List.getElem_cons_succ]
    refine wpAnyH_ready (rs := [3]) (by kernel_rfl) (by simp) ?_
    refine AllReadyH.cons rfl (fun K hK => ?_) AllReadyH.nil
    go_simp
    go_at_call 51
    refine (hd_turned fr tq rq ky ow _).mono ?_
    rintro e w3 ⟨rfl, hb⟩
    replace Y := Lib.hid (Y.out.below hb)
    replace R := Lib.hid (R.out.below hb)
    replace D := Lib.hid (D.out.below hb)
    clear hb
    go_wp2_with fail
    refine hK.out _ _ (by exact ⟨Y.out.c2.1, Y.out.c2.2.1⟩) (fun hHeld => ?_)
    clear hK K
    try simp only [Act.put, List.setIfInBounds_toArray, List.set_cons_zero, List.set_cons_succ, List.getElem_toArray, List.getElem_cons_zero, List.getElem_cons_succ]
    refine wpAnyH_ready (rs := [5]) (by kernel_rfl) (by simp) ?_
    refine AllReadyH.cons rfl (fun K hK => ?_) AllReadyH.nil
    go_simp
    go_at_call 50
    refine (messageOf n tq fr rq ky ow a2 b2 cap2 cap2' l2 s2 _ hy hl2 hs2 HS2.out HW2.out (KA.out.mono D.out) (KB.out.mono D.out)).mono ?_
    rintro e w4 ⟨rfl, hb⟩
    replace Y := Lib.hid (Y.out.below hb)
    replace R := Lib.hid (R.out.below hb)
    replace D := Lib.hid (D.out.below hb)
    clear hb
    obtain ⟨M2, hM2⟩ : ∃ M2, msgV n tq fr rq ky ow (.slice a2 l2.length cap2) (.slice b2 s2.length cap2') l2.length s2.length = M2 := ⟨_, rfl⟩
    obtain ⟨R2, hR2⟩ : ∃ R2, msgB n tq fr rq ky ow l2 s2 = R2 := ⟨_, rfl⟩
    have HM2 := Lib.hid hM2
    have HR2 := Lib.hid hR2
    rw [hM2, hR2]
    clear hM2 hR2
    go_wp2_with fail
    refine hK.out _ _ (by exact ⟨Y.out.c2.1, Y.out.c2.2.1⟩) (fun hHeld => ?_)
    clear hK K
    try simp only [Act.put, List.setIfInBounds_toArray, List.set_cons_zero, List.set_cons_succ, List.getElem_toArray, List.getElem_cons_zero, List.getElem_cons_succ]
    refine wpAnyH_take (i := 6) (v := ?_) rfl (by kernel_rfl) (by kernel_rfl) (by kernel_rfl) (fun _ _ _ h => h) (Or.inl ⟨by rfl, fun w hSw => by (try dsimp only at hSw); go_simp; (try with_reducible rfl)⟩) (by assumption) ?_
    try simp only [Act.put, List.setIfInBounds_toArray, List.set_cons_zero, List.set_cons_succ, List.getElem_toArray, List.getElem_cons_zero, List.getElem_cons_succ]
    refine wpAnyH_take (i := 7) (v := ?_) rfl (by kernel_rfl) (by kernel_rfl) (by kernel_rfl) (fun _ _ _ h => h) (Or.inl ⟨by rfl, fun w hSw => by (try dsimp only at hSw); go_simp; (try with_reducible rfl)⟩) (by assumption) ?_
    try simp only [Act.put, List.setIfInBounds_toArray, List.set_cons_zero, List.set_cons_succ, List.getElem_toArray, List.getElem_cons_zero, List.getElem_cons_succ]
    refine wpAnyH_take (i := 8) (v := ?_) rfl (by kernel_rfl) (by kernel_rfl) (by kernel_rfl) (fun _ _ _ h => h) (Or.inl ⟨by rfl, fun w hSw => by (try dsimp only at hSw); go_simp; (try with_reducible rfl)⟩) (by assumption) ?_
    try simp only [Act.put, List.setIfInBounds_toArray, List.set_cons_zero, List.set_cons_succ, List.getElem_toArray, List.getElem_cons_zero, List.getElem_cons_succ]
    refine wpAnyH_take (i := 9) (v := ?_) rfl (by kernel_rfl) (by kernel_rfl) (by kernel_rfl) (fun _ _ _ h => h) (Or.inl ⟨by rfl, fun w hSw => by (try dsimp only at hSw); go_simp; (try with_reducible rfl)⟩) (by assumption) ?_
    try simp only [Act.put, List.setIfInBounds_toArray, List.set_cons_zero, List.set_cons_succ, List.getElem_toArray, List.getElem_cons_zero, List.getElem_cons_succ]
    refine wpAnyH_take (i := 10) (v := ?_) rfl (by kernel_rfl) (by kernel_rfl) (by kernel_rfl) (fun _ _ _ h => h) (Or.inl ⟨by rfl, fun w hSw => by (try dsimp only at hSw); go_simp; (try with_reducible rfl)⟩) (by assumption) ?_
    try simp only [Act.put, List.setIfInBounds_toArray, List.set_cons_zero, List.set_cons_succ, List.getElem_toArray, List.getElem_cons_zero, List.getElem_cons_succ]
    refine wpAnyH_done (by kernel_rfl) ?_ _
    cases R2
    · have HB := Lib.hid (show tnB kd fr tq rq ky ow l s n l2 s2 = false by unfold tnB; rw [HR2.out]; simp)
      clear HM2
      obtain ⟨r0, r1, r2, r3, r4, r5, r6, r7, r8, f0, f1, f2, f3, f4, f5, f6, f7, f8⟩ := R.out.c9
      go_wp2
      have hw := within_set9 w4 (w.heap.size + 1 + 1) (.int .i64 0) (.int .i64 0) (.int .i64 0) (.int .i64 0) (.string ⟨#[]⟩) (.int .i64 0) (.slice none 0 0) (.slice none 0 0) (.int .i64 1)
      have R2 := cells_set9 R.out (.int .i64 0) (.int .i64 0) (.int .i64 0) (.int .i64 0) (.string ⟨#[]⟩) (.int .i64 0) (.slice none 0 0) (.slice none 0 0) (.int .i64 1)
      obtain ⟨q0, q1, q2, q3, q4, q5, q6, q7, q8, _⟩ := R2.c9
      refine bodyPost_ret (v := .agg #[.int .i64 0, .int .i64 0, .int .i64 0, .int .i64 0, .string ⟨#[]⟩, .int .i64 0, .slice none 0 0, .slice none 0 0, .int .i64 1]) (by simp [results, Try.results22, go_sem, q0, q1, q2, q3, q4, q5, q6, q7, q8]) rfl ?_
      exact turn_no HB.out (givesMO_no 1 (D.out.within hw (by omega)))
    have HB := Lib.hid (show tnB kd fr tq rq ky ow l s n l2 s2 = true by unfold tnB; rw [C0.out, HR2.out]; rfl)
    obtain ⟨r0, r1, r2, r3, r4, r5, r6, r7, r8, f0, f1, f2, f3, f4, f5, f6, f7, f8⟩ := R.out.c9
    go_wp2_with fail
    clear r0 f0 r1 f1 r2 f2 r3 f3 r4 f4 r5 f5 r6 f6 r7 f7 r8 f8
    rw [← HM2.out]
    have b8 := (setOk_of (msgB_ok HR2.out).set).2.1
    have b5 := right_len (setOk_of (msgB_ok HR2.out).set).1
    refine (closed_any n tq fr rq ky ow a2 b2 cap2 cap2' l2 s2 w4 HR2.out (by omega) (by omega) (KA.out.mono D.out) (KB.out.mono D.out)).mono ?_
    rintro e w5 ⟨a1, c1, b1, d1, lo1, hi1, lo2, hi2, rfl, ho, hp, g1, g2, g3, g4, g5, hb⟩
    have O := Lib.hid (show OwnI w5 lo1 hi1 a1 l2 from ⟨ho, g3⟩)
    have P := Lib.hid (show ROwnI 4 senc w5 lo2 hi2 b1 s2 from ⟨hp, g4⟩)
    have z5 := hb.size
    have zR := R.out.lt
    replace Y := Lib.hid (Y.out.below hb)
    replace R := Lib.hid (R.out.below hb)
    replace D := Lib.hid (D.out.below hb)
    clear hb ho hp
    obtain ⟨r0, r1, r2, r3, r4, r5, r6, r7, r8, f0, f1, f2, f3, f4, f5, f6, f7, f8⟩ := R.out.c9
    go_wp2
    have hw := within_set9 w5 (w.heap.size + 1 + 1) (.int .i64 n) (.int .i64 tq) (.int .i64 fr) (.int .i64 rq) (.string ky) (.int .i64 ow) (.slice a1 l2.length c1) (.slice b1 s2.length d1) (.int .i64 0)
    have R3 := cells_set9 R.out (.int .i64 n) (.int .i64 tq) (.int .i64 fr) (.int .i64 rq) (.string ky) (.int .i64 ow) (.slice a1 l2.length c1) (.slice b1 s2.length d1) (.int .i64 0)
    obtain ⟨q0, q1, q2, q3, q4, q5, q6, q7, q8, _⟩ := R3.c9
    refine bodyPost_ret (v := .agg #[.int .i64 n, .int .i64 tq, .int .i64 fr, .int .i64 rq, .string ky, .int .i64 ow, .slice a1 l2.length c1, .slice b1 s2.length d1, .int .i64 0]) (by simp [results, Try.results22, go_sem, q0, q1, q2, q3, q4, q5, q6, q7, q8]) rfl ?_
    exact turn_yes HB.out ⟨a1, c1, b1, d1, lo1, hi1, lo2, hi2, rfl, (O.out.within hw (by omega)).1, (P.out.within hw (by omega)).1, by omega, by omega, (O.out.within hw (by omega)).2, (P.out.within hw (by omega)).2, by omega, D.out.within hw (by omega)⟩
  · go_wp2_with fail
    refine wp_region_held_drew (S := fun w' => w'.cell? ⟨w.heap.size + 1, 0, none⟩ = some (.slice a2 l2.length cap2) ∧ w'.cell? ⟨w.heap.size + 1, 1, none⟩ = some (.slice b2 s2.length cap2')) (by kernel_rfl) (by exact ⟨Y.out.c2.1, Y.out.c2.2.1⟩) (fun hHeld => ?_)
    refine wpAnyH_take (i := 0) (v := ?_) rfl (by kernel_rfl) (by kernel_rfl) (by kernel_rfl) (fun _ _ _ h => h) (Or.inl ⟨by rfl, fun w hSw => by (try dsimp only at hSw); go_simp; (try with_reducible rfl)⟩) (by assumption) ?_
    try simp only [Act.put, List.setIfInBounds_toArray, List.set_cons_zero, List.set_cons_succ, List.getElem_toArray, List.getElem_cons_zero, List.getElem_cons_succ]
    refine wpAnyH_take (i := 1) (v := ?_) rfl (by kernel_rfl) (by kernel_rfl) (by kernel_rfl) (fun _ _ _ h => h) (Or.inl ⟨by rfl, fun w hSw => by (try dsimp only at hSw); go_simp; (try with_reducible rfl)⟩) (by assumption) ?_
    try simp only [Act.put, List.setIfInBounds_toArray, List.set_cons_zero, List.set_cons_succ, List.getElem_toArray, List.getElem_cons_zero, List.getElem_cons_succ]
    refine wpAnyH_take (i := 4) (v := ?_) rfl (by kernel_rfl) (by kernel_rfl) (by kernel_rfl) (fun _ _ _ h => h) (Or.inl ⟨by rfl, fun w hSw => by (try dsimp only at hSw); go_simp; (try with_reducible rfl)⟩) (by assumption) ?_
    try simp only [Act.put, List.setIfInBounds_toArray, List.set_cons_zero, List.set_cons_succ, List.getElem_toArray, List.getElem_cons_zero, List.getElem_cons_succ]
    refine wpAnyH_ready (rs := [2]) (by kernel_rfl) (by simp) ?_
    refine AllReadyH.cons rfl (fun K hK => ?_) AllReadyH.nil
    go_simp
    go_wp2_with fail
    refine (hd_head fr tq rq ky ow _).mono ?_
    rintro e w2 ⟨rfl, hb⟩
    replace Y := Lib.hid (Y.out.below hb)
    replace R := Lib.hid (R.out.below hb)
    replace D := Lib.hid (D.out.below hb)
    clear hb
    go_wp2_with fail
    refine hK.out _ _ (by exact ⟨Y.out.c2.1, Y.out.c2.2.1⟩) (fun hHeld => ?_)
    clear hK K
    try simp only [Act.put, List.setIfInBounds_toArray, List.set_cons_zero, List.set_cons_succ, List.getElem_toArray, List.getElem_cons_zero, List.getElem_cons_succ]
    refine wpAnyH_ready (rs := [3]) (by kernel_rfl) (by simp) ?_
    refine AllReadyH.cons rfl (fun K hK => ?_) AllReadyH.nil
    go_simp
    go_at_call 51
    refine (hd_turned fr tq rq ky ow _).mono ?_
    rintro e w3 ⟨rfl, hb⟩
    replace Y := Lib.hid (Y.out.below hb)
    replace R := Lib.hid (R.out.below hb)
    replace D := Lib.hid (D.out.below hb)
    clear hb
    go_wp2_with fail
    refine hK.out _ _ (by exact ⟨Y.out.c2.1, Y.out.c2.2.1⟩) (fun hHeld => ?_)
    clear hK K
    try simp only [Act.put, List.setIfInBounds_toArray, List.set_cons_zero, List.set_cons_succ, List.getElem_toArray, List.getElem_cons_zero, List.getElem_cons_succ]
    refine wpAnyH_ready (rs := [5]) (by kernel_rfl) (by simp) ?_
    refine AllReadyH.cons rfl (fun K hK => ?_) AllReadyH.nil
    go_simp
    go_at_call 50
    refine (messageOf n tq fr rq ky ow a2 b2 cap2 cap2' l2 s2 _ hy hl2 hs2 HS2.out HW2.out (KA.out.mono D.out) (KB.out.mono D.out)).mono ?_
    rintro e w4 ⟨rfl, hb⟩
    replace Y := Lib.hid (Y.out.below hb)
    replace R := Lib.hid (R.out.below hb)
    replace D := Lib.hid (D.out.below hb)
    clear hb
    obtain ⟨M2, hM2⟩ : ∃ M2, msgV n tq fr rq ky ow (.slice a2 l2.length cap2) (.slice b2 s2.length cap2') l2.length s2.length = M2 := ⟨_, rfl⟩
    obtain ⟨R2, hR2⟩ : ∃ R2, msgB n tq fr rq ky ow l2 s2 = R2 := ⟨_, rfl⟩
    have HM2 := Lib.hid hM2
    have HR2 := Lib.hid hR2
    rw [hM2, hR2]
    clear hM2 hR2
    go_wp2_with fail
    refine hK.out _ _ (by exact ⟨Y.out.c2.1, Y.out.c2.2.1⟩) (fun hHeld => ?_)
    clear hK K
    try simp only [Act.put, List.setIfInBounds_toArray, List.set_cons_zero, List.set_cons_succ, List.getElem_toArray, List.getElem_cons_zero, List.getElem_cons_succ]
    refine wpAnyH_take (i := 6) (v := ?_) rfl (by kernel_rfl) (by kernel_rfl) (by kernel_rfl) (fun _ _ _ h => h) (Or.inl ⟨by rfl, fun w hSw => by (try dsimp only at hSw); go_simp; (try with_reducible rfl)⟩) (by assumption) ?_
    try simp only [Act.put, List.setIfInBounds_toArray, List.set_cons_zero, List.set_cons_succ, List.getElem_toArray, List.getElem_cons_zero, List.getElem_cons_succ]
    refine wpAnyH_take (i := 7) (v := ?_) rfl (by kernel_rfl) (by kernel_rfl) (by kernel_rfl) (fun _ _ _ h => h) (Or.inl ⟨by rfl, fun w hSw => by (try dsimp only at hSw); go_simp; (try with_reducible rfl)⟩) (by assumption) ?_
    try simp only [Act.put, List.setIfInBounds_toArray, List.set_cons_zero, List.set_cons_succ, List.getElem_toArray, List.getElem_cons_zero, List.getElem_cons_succ]
    refine wpAnyH_take (i := 8) (v := ?_) rfl (by kernel_rfl) (by kernel_rfl) (by kernel_rfl) (fun _ _ _ h => h) (Or.inl ⟨by rfl, fun w hSw => by (try dsimp only at hSw); go_simp; (try with_reducible rfl)⟩) (by assumption) ?_
    try simp only [Act.put, List.setIfInBounds_toArray, List.set_cons_zero, List.set_cons_succ, List.getElem_toArray, List.getElem_cons_zero, List.getElem_cons_succ]
    refine wpAnyH_take (i := 9) (v := ?_) rfl (by kernel_rfl) (by kernel_rfl) (by kernel_rfl) (fun _ _ _ h => h) (Or.inl ⟨by rfl, fun w hSw => by (try dsimp only at hSw); go_simp; (try with_reducible rfl)⟩) (by assumption) ?_
    try simp only [Act.put, List.setIfInBounds_toArray, List.set_cons_zero, List.set_cons_succ, List.getElem_toArray, List.getElem_cons_zero, List.getElem_cons_succ]
    refine wpAnyH_take (i := 10) (v := ?_) rfl (by kernel_rfl) (by kernel_rfl) (by kernel_rfl) (fun _ _ _ h => h) (Or.inl ⟨by rfl, fun w hSw => by (try dsimp only at hSw); go_simp; (try with_reducible rfl)⟩) (by assumption) ?_
    try simp only [Act.put, List.setIfInBounds_toArray, List.set_cons_zero, List.set_cons_succ, List.getElem_toArray, List.getElem_cons_zero, List.getElem_cons_succ]
    refine wpAnyH_done (by kernel_rfl) ?_ _
    cases R2
    · have HB := Lib.hid (show tnB kd fr tq rq ky ow l s n l2 s2 = false by unfold tnB; rw [HR2.out]; simp)
      clear HM2
      obtain ⟨r0, r1, r2, r3, r4, r5, r6, r7, r8, f0, f1, f2, f3, f4, f5, f6, f7, f8⟩ := R.out.c9
      go_wp2
      have hw := within_set9 w4 (w.heap.size + 1 + 1) (.int .i64 0) (.int .i64 0) (.int .i64 0) (.int .i64 0) (.string ⟨#[]⟩) (.int .i64 0) (.slice none 0 0) (.slice none 0 0) (.int .i64 1)
      have R2 := cells_set9 R.out (.int .i64 0) (.int .i64 0) (.int .i64 0) (.int .i64 0) (.string ⟨#[]⟩) (.int .i64 0) (.slice none 0 0) (.slice none 0 0) (.int .i64 1)
      obtain ⟨q0, q1, q2, q3, q4, q5, q6, q7, q8, _⟩ := R2.c9
      refine bodyPost_ret (v := .agg #[.int .i64 0, .int .i64 0, .int .i64 0, .int .i64 0, .string ⟨#[]⟩, .int .i64 0, .slice none 0 0, .slice none 0 0, .int .i64 1]) (by simp [results, Try.results22, go_sem, q0, q1, q2, q3, q4, q5, q6, q7, q8]) rfl ?_
      exact turn_no HB.out (givesMO_no 1 (D.out.within hw (by omega)))
    have HB := Lib.hid (show tnB kd fr tq rq ky ow l s n l2 s2 = true by unfold tnB; rw [C0.out, HR2.out]; rfl)
    obtain ⟨r0, r1, r2, r3, r4, r5, r6, r7, r8, f0, f1, f2, f3, f4, f5, f6, f7, f8⟩ := R.out.c9
    go_wp2_with fail
    clear r0 f0 r1 f1 r2 f2 r3 f3 r4 f4 r5 f5 r6 f6 r7 f7 r8 f8
    rw [← HM2.out]
    have b8 := (setOk_of (msgB_ok HR2.out).set).2.1
    have b5 := right_len (setOk_of (msgB_ok HR2.out).set).1
    refine (closed_any n tq fr rq ky ow a2 b2 cap2 cap2' l2 s2 w4 HR2.out (by omega) (by omega) (KA.out.mono D.out) (KB.out.mono D.out)).mono ?_
    rintro e w5 ⟨a1, c1, b1, d1, lo1, hi1, lo2, hi2, rfl, ho, hp, g1, g2, g3, g4, g5, hb⟩
    have O := Lib.hid (show OwnI w5 lo1 hi1 a1 l2 from ⟨ho, g3⟩)
    have P := Lib.hid (show ROwnI 4 senc w5 lo2 hi2 b1 s2 from ⟨hp, g4⟩)
    have z5 := hb.size
    have zR := R.out.lt
    replace Y := Lib.hid (Y.out.below hb)
    replace R := Lib.hid (R.out.below hb)
    replace D := Lib.hid (D.out.below hb)
    clear hb ho hp
    obtain ⟨r0, r1, r2, r3, r4, r5, r6, r7, r8, f0, f1, f2, f3, f4, f5, f6, f7, f8⟩ := R.out.c9
    go_wp2
    have hw := within_set9 w5 (w.heap.size + 1 + 1) (.int .i64 n) (.int .i64 tq) (.int .i64 fr) (.int .i64 rq) (.string ky) (.int .i64 ow) (.slice a1 l2.length c1) (.slice b1 s2.length d1) (.int .i64 0)
    have R3 := cells_set9 R.out (.int .i64 n) (.int .i64 tq) (.int .i64 fr) (.int .i64 rq) (.string ky) (.int .i64 ow) (.slice a1 l2.length c1) (.slice b1 s2.length d1) (.int .i64 0)
    obtain ⟨q0, q1, q2, q3, q4, q5, q6, q7, q8, _⟩ := R3.c9
    refine bodyPost_ret (v := .agg #[.int .i64 n, .int .i64 tq, .int .i64 fr, .int .i64 rq, .string ky, .int .i64 ow, .slice a1 l2.length c1, .slice b1 s2.length d1, .int .i64 0]) (by simp [results, Try.results22, go_sem, q0, q1, q2, q3, q4, q5, q6, q7, q8]) rfl ?_
    exact turn_yes HB.out ⟨a1, c1, b1, d1, lo1, hi1, lo2, hi2, rfl, (O.out.within hw (by omega)).1, (P.out.within hw (by omega)).1, by omega, by omega, (O.out.within hw (by omega)).2, (P.out.within hw (by omega)).2, by omega, D.out.within hw (by omega)⟩
  · go_wp2_with fail
    refine wp_region_held_drew (S := fun w' => w'.cell? ⟨w.heap.size + 1, 0, none⟩ = some (.slice a2 l2.length cap2) ∧ w'.cell? ⟨w.heap.size + 1, 1, none⟩ = some (.slice b2 s2.length cap2')) (by kernel_rfl) (by exact ⟨Y.out.c2.1, Y.out.c2.2.1⟩) (fun hHeld => ?_)
    refine wpAnyH_take (i := 0) (v := ?_) rfl (by kernel_rfl) (by kernel_rfl) (by kernel_rfl) (fun _ _ _ h => h) (Or.inl ⟨by rfl, fun w hSw => by (try dsimp only at hSw); go_simp; (try with_reducible rfl)⟩) (by assumption) ?_
    try simp only [Act.put, List.setIfInBounds_toArray, List.set_cons_zero, List.set_cons_succ, List.getElem_toArray, List.getElem_cons_zero, List.getElem_cons_succ]
    refine wpAnyH_take (i := 1) (v := ?_) rfl (by kernel_rfl) (by kernel_rfl) (by kernel_rfl) (fun _ _ _ h => h) (Or.inl ⟨by rfl, fun w hSw => by (try dsimp only at hSw); go_simp; (try with_reducible rfl)⟩) (by assumption) ?_
    try simp only [Act.put, List.setIfInBounds_toArray, List.set_cons_zero, List.set_cons_succ, List.getElem_toArray, List.getElem_cons_zero, List.getElem_cons_succ]
    refine wpAnyH_take (i := 4) (v := ?_) rfl (by kernel_rfl) (by kernel_rfl) (by kernel_rfl) (fun _ _ _ h => h) (Or.inl ⟨by rfl, fun w hSw => by (try dsimp only at hSw); go_simp; (try with_reducible rfl)⟩) (by assumption) ?_
    try simp only [Act.put, List.setIfInBounds_toArray, List.set_cons_zero, List.set_cons_succ, List.getElem_toArray, List.getElem_cons_zero, List.getElem_cons_succ]
    refine wpAnyH_ready (rs := [2]) (by kernel_rfl) (by simp) ?_
    refine AllReadyH.cons rfl (fun K hK => ?_) AllReadyH.nil
    go_simp
    go_wp2_with fail
    refine (hd_head fr tq rq ky ow _).mono ?_
    rintro e w2 ⟨rfl, hb⟩
    replace Y := Lib.hid (Y.out.below hb)
    replace R := Lib.hid (R.out.below hb)
    replace D := Lib.hid (D.out.below hb)
    clear hb
    go_wp2_with fail
    refine hK.out _ _ (by exact ⟨Y.out.c2.1, Y.out.c2.2.1⟩) (fun hHeld => ?_)
    clear hK K
    try simp only [Act.put, List.setIfInBounds_toArray, List.set_cons_zero, List.set_cons_succ, List.getElem_toArray, List.getElem_cons_zero, List.getElem_cons_succ]
    refine wpAnyH_ready (rs := [3]) (by kernel_rfl) (by simp) ?_
    refine AllReadyH.cons rfl (fun K hK => ?_) AllReadyH.nil
    go_simp
    go_at_call 51
    refine (hd_turned fr tq rq ky ow _).mono ?_
    rintro e w3 ⟨rfl, hb⟩
    replace Y := Lib.hid (Y.out.below hb)
    replace R := Lib.hid (R.out.below hb)
    replace D := Lib.hid (D.out.below hb)
    clear hb
    go_wp2_with fail
    refine hK.out _ _ (by exact ⟨Y.out.c2.1, Y.out.c2.2.1⟩) (fun hHeld => ?_)
    clear hK K
    try simp only [Act.put, List.setIfInBounds_toArray, List.set_cons_zero, List.set_cons_succ, List.getElem_toArray, List.getElem_cons_zero, List.getElem_cons_succ]
    refine wpAnyH_ready (rs := [5]) (by kernel_rfl) (by simp) ?_
    refine AllReadyH.cons rfl (fun K hK => ?_) AllReadyH.nil
    go_simp
    go_at_call 50
    refine (messageOf n tq fr rq ky ow a2 b2 cap2 cap2' l2 s2 _ hy hl2 hs2 HS2.out HW2.out (KA.out.mono D.out) (KB.out.mono D.out)).mono ?_
    rintro e w4 ⟨rfl, hb⟩
    replace Y := Lib.hid (Y.out.below hb)
    replace R := Lib.hid (R.out.below hb)
    replace D := Lib.hid (D.out.below hb)
    clear hb
    obtain ⟨M2, hM2⟩ : ∃ M2, msgV n tq fr rq ky ow (.slice a2 l2.length cap2) (.slice b2 s2.length cap2') l2.length s2.length = M2 := ⟨_, rfl⟩
    obtain ⟨R2, hR2⟩ : ∃ R2, msgB n tq fr rq ky ow l2 s2 = R2 := ⟨_, rfl⟩
    have HM2 := Lib.hid hM2
    have HR2 := Lib.hid hR2
    rw [hM2, hR2]
    clear hM2 hR2
    go_wp2_with fail
    refine hK.out _ _ (by exact ⟨Y.out.c2.1, Y.out.c2.2.1⟩) (fun hHeld => ?_)
    clear hK K
    try simp only [Act.put, List.setIfInBounds_toArray, List.set_cons_zero, List.set_cons_succ, List.getElem_toArray, List.getElem_cons_zero, List.getElem_cons_succ]
    refine wpAnyH_take (i := 6) (v := ?_) rfl (by kernel_rfl) (by kernel_rfl) (by kernel_rfl) (fun _ _ _ h => h) (Or.inl ⟨by rfl, fun w hSw => by (try dsimp only at hSw); go_simp; (try with_reducible rfl)⟩) (by assumption) ?_
    try simp only [Act.put, List.setIfInBounds_toArray, List.set_cons_zero, List.set_cons_succ, List.getElem_toArray, List.getElem_cons_zero, List.getElem_cons_succ]
    refine wpAnyH_take (i := 7) (v := ?_) rfl (by kernel_rfl) (by kernel_rfl) (by kernel_rfl) (fun _ _ _ h => h) (Or.inl ⟨by rfl, fun w hSw => by (try dsimp only at hSw); go_simp; (try with_reducible rfl)⟩) (by assumption) ?_
    try simp only [Act.put, List.setIfInBounds_toArray, List.set_cons_zero, List.set_cons_succ, List.getElem_toArray, List.getElem_cons_zero, List.getElem_cons_succ]
    refine wpAnyH_take (i := 8) (v := ?_) rfl (by kernel_rfl) (by kernel_rfl) (by kernel_rfl) (fun _ _ _ h => h) (Or.inl ⟨by rfl, fun w hSw => by (try dsimp only at hSw); go_simp; (try with_reducible rfl)⟩) (by assumption) ?_
    try simp only [Act.put, List.setIfInBounds_toArray, List.set_cons_zero, List.set_cons_succ, List.getElem_toArray, List.getElem_cons_zero, List.getElem_cons_succ]
    refine wpAnyH_take (i := 9) (v := ?_) rfl (by kernel_rfl) (by kernel_rfl) (by kernel_rfl) (fun _ _ _ h => h) (Or.inl ⟨by rfl, fun w hSw => by (try dsimp only at hSw); go_simp; (try with_reducible rfl)⟩) (by assumption) ?_
    try simp only [Act.put, List.setIfInBounds_toArray, List.set_cons_zero, List.set_cons_succ, List.getElem_toArray, List.getElem_cons_zero, List.getElem_cons_succ]
    refine wpAnyH_take (i := 10) (v := ?_) rfl (by kernel_rfl) (by kernel_rfl) (by kernel_rfl) (fun _ _ _ h => h) (Or.inl ⟨by rfl, fun w hSw => by (try dsimp only at hSw); go_simp; (try with_reducible rfl)⟩) (by assumption) ?_
    try simp only [Act.put, List.setIfInBounds_toArray, List.set_cons_zero, List.set_cons_succ, List.getElem_toArray, List.getElem_cons_zero, List.getElem_cons_succ]
    refine wpAnyH_done (by kernel_rfl) ?_ _
    cases R2
    · have HB := Lib.hid (show tnB kd fr tq rq ky ow l s n l2 s2 = false by unfold tnB; rw [HR2.out]; simp)
      clear HM2
      obtain ⟨r0, r1, r2, r3, r4, r5, r6, r7, r8, f0, f1, f2, f3, f4, f5, f6, f7, f8⟩ := R.out.c9
      go_wp2
      have hw := within_set9 w4 (w.heap.size + 1 + 1) (.int .i64 0) (.int .i64 0) (.int .i64 0) (.int .i64 0) (.string ⟨#[]⟩) (.int .i64 0) (.slice none 0 0) (.slice none 0 0) (.int .i64 1)
      have R2 := cells_set9 R.out (.int .i64 0) (.int .i64 0) (.int .i64 0) (.int .i64 0) (.string ⟨#[]⟩) (.int .i64 0) (.slice none 0 0) (.slice none 0 0) (.int .i64 1)
      obtain ⟨q0, q1, q2, q3, q4, q5, q6, q7, q8, _⟩ := R2.c9
      refine bodyPost_ret (v := .agg #[.int .i64 0, .int .i64 0, .int .i64 0, .int .i64 0, .string ⟨#[]⟩, .int .i64 0, .slice none 0 0, .slice none 0 0, .int .i64 1]) (by simp [results, Try.results22, go_sem, q0, q1, q2, q3, q4, q5, q6, q7, q8]) rfl ?_
      exact turn_no HB.out (givesMO_no 1 (D.out.within hw (by omega)))
    have HB := Lib.hid (show tnB kd fr tq rq ky ow l s n l2 s2 = true by unfold tnB; rw [C0.out, HR2.out]; rfl)
    obtain ⟨r0, r1, r2, r3, r4, r5, r6, r7, r8, f0, f1, f2, f3, f4, f5, f6, f7, f8⟩ := R.out.c9
    go_wp2_with fail
    clear r0 f0 r1 f1 r2 f2 r3 f3 r4 f4 r5 f5 r6 f6 r7 f7 r8 f8
    rw [← HM2.out]
    have b8 := (setOk_of (msgB_ok HR2.out).set).2.1
    have b5 := right_len (setOk_of (msgB_ok HR2.out).set).1
    refine (closed_any n tq fr rq ky ow a2 b2 cap2 cap2' l2 s2 w4 HR2.out (by omega) (by omega) (KA.out.mono D.out) (KB.out.mono D.out)).mono ?_
    rintro e w5 ⟨a1, c1, b1, d1, lo1, hi1, lo2, hi2, rfl, ho, hp, g1, g2, g3, g4, g5, hb⟩
    have O := Lib.hid (show OwnI w5 lo1 hi1 a1 l2 from ⟨ho, g3⟩)
    have P := Lib.hid (show ROwnI 4 senc w5 lo2 hi2 b1 s2 from ⟨hp, g4⟩)
    have z5 := hb.size
    have zR := R.out.lt
    replace Y := Lib.hid (Y.out.below hb)
    replace R := Lib.hid (R.out.below hb)
    replace D := Lib.hid (D.out.below hb)
    clear hb ho hp
    obtain ⟨r0, r1, r2, r3, r4, r5, r6, r7, r8, f0, f1, f2, f3, f4, f5, f6, f7, f8⟩ := R.out.c9
    go_wp2
    have hw := within_set9 w5 (w.heap.size + 1 + 1) (.int .i64 n) (.int .i64 tq) (.int .i64 fr) (.int .i64 rq) (.string ky) (.int .i64 ow) (.slice a1 l2.length c1) (.slice b1 s2.length d1) (.int .i64 0)
    have R3 := cells_set9 R.out (.int .i64 n) (.int .i64 tq) (.int .i64 fr) (.int .i64 rq) (.string ky) (.int .i64 ow) (.slice a1 l2.length c1) (.slice b1 s2.length d1) (.int .i64 0)
    obtain ⟨q0, q1, q2, q3, q4, q5, q6, q7, q8, _⟩ := R3.c9
    refine bodyPost_ret (v := .agg #[.int .i64 n, .int .i64 tq, .int .i64 fr, .int .i64 rq, .string ky, .int .i64 ow, .slice a1 l2.length c1, .slice b1 s2.length d1, .int .i64 0]) (by simp [results, Try.results22, go_sem, q0, q1, q2, q3, q4, q5, q6, q7, q8]) rfl ?_
    exact turn_yes HB.out ⟨a1, c1, b1, d1, lo1, hi1, lo2, hi2, rfl, (O.out.within hw (by omega)).1, (P.out.within hw (by omega)).1, by omega, by omega, (O.out.within hw (by omega)).2, (P.out.within hw (by omega)).2, by omega, D.out.within hw (by omega)⟩
  · go_wp2_with fail
    refine wp_region_held_drew (S := fun w' => w'.cell? ⟨w.heap.size + 1, 0, none⟩ = some (.slice a2 l2.length cap2) ∧ w'.cell? ⟨w.heap.size + 1, 1, none⟩ = some (.slice b2 s2.length cap2')) (by kernel_rfl) (by exact ⟨Y.out.c2.1, Y.out.c2.2.1⟩) (fun hHeld => ?_)
    refine wpAnyH_take (i := 0) (v := ?_) rfl (by kernel_rfl) (by kernel_rfl) (by kernel_rfl) (fun _ _ _ h => h) (Or.inl ⟨by rfl, fun w hSw => by (try dsimp only at hSw); go_simp; (try with_reducible rfl)⟩) (by assumption) ?_
    try simp only [Act.put, List.setIfInBounds_toArray, List.set_cons_zero, List.set_cons_succ, List.getElem_toArray, List.getElem_cons_zero, List.getElem_cons_succ]
    refine wpAnyH_take (i := 1) (v := ?_) rfl (by kernel_rfl) (by kernel_rfl) (by kernel_rfl) (fun _ _ _ h => h) (Or.inl ⟨by rfl, fun w hSw => by (try dsimp only at hSw); go_simp; (try with_reducible rfl)⟩) (by assumption) ?_
    try simp only [Act.put, List.setIfInBounds_toArray, List.set_cons_zero, List.set_cons_succ, List.getElem_toArray, List.getElem_cons_zero, List.getElem_cons_succ]
    refine wpAnyH_take (i := 4) (v := ?_) rfl (by kernel_rfl) (by kernel_rfl) (by kernel_rfl) (fun _ _ _ h => h) (Or.inl ⟨by rfl, fun w hSw => by (try dsimp only at hSw); go_simp; (try with_reducible rfl)⟩) (by assumption) ?_
    try simp only [Act.put, List.setIfInBounds_toArray, List.set_cons_zero, List.set_cons_succ, List.getElem_toArray, List.getElem_cons_zero, List.getElem_cons_succ]
    refine wpAnyH_ready (rs := [2]) (by kernel_rfl) (by simp) ?_
    refine AllReadyH.cons rfl (fun K hK => ?_) AllReadyH.nil
    go_simp
    go_wp2_with fail
    refine (hd_head fr tq rq ky ow _).mono ?_
    rintro e w2 ⟨rfl, hb⟩
    replace Y := Lib.hid (Y.out.below hb)
    replace R := Lib.hid (R.out.below hb)
    replace D := Lib.hid (D.out.below hb)
    clear hb
    go_wp2_with fail
    refine hK.out _ _ (by exact ⟨Y.out.c2.1, Y.out.c2.2.1⟩) (fun hHeld => ?_)
    clear hK K
    try simp only [Act.put, List.setIfInBounds_toArray, List.set_cons_zero, List.set_cons_succ, List.getElem_toArray, List.getElem_cons_zero, List.getElem_cons_succ]
    refine wpAnyH_ready (rs := [3]) (by kernel_rfl) (by simp) ?_
    refine AllReadyH.cons rfl (fun K hK => ?_) AllReadyH.nil
    go_simp
    go_at_call 51
    refine (hd_turned fr tq rq ky ow _).mono ?_
    rintro e w3 ⟨rfl, hb⟩
    replace Y := Lib.hid (Y.out.below hb)
    replace R := Lib.hid (R.out.below hb)
    replace D := Lib.hid (D.out.below hb)
    clear hb
    go_wp2_with fail
    refine hK.out _ _ (by exact ⟨Y.out.c2.1, Y.out.c2.2.1⟩) (fun hHeld => ?_)
    clear hK K
    try simp only [Act.put, List.setIfInBounds_toArray, List.set_cons_zero, List.set_cons_succ, List.getElem_toArray, List.getElem_cons_zero, List.getElem_cons_succ]
    refine wpAnyH_ready (rs := [5]) (by kernel_rfl) (by simp) ?_
    refine AllReadyH.cons rfl (fun K hK => ?_) AllReadyH.nil
    go_simp
    go_at_call 50
    refine (messageOf n tq fr rq ky ow a2 b2 cap2 cap2' l2 s2 _ hy hl2 hs2 HS2.out HW2.out (KA.out.mono D.out) (KB.out.mono D.out)).mono ?_
    rintro e w4 ⟨rfl, hb⟩
    replace Y := Lib.hid (Y.out.below hb)
    replace R := Lib.hid (R.out.below hb)
    replace D := Lib.hid (D.out.below hb)
    clear hb
    obtain ⟨M2, hM2⟩ : ∃ M2, msgV n tq fr rq ky ow (.slice a2 l2.length cap2) (.slice b2 s2.length cap2') l2.length s2.length = M2 := ⟨_, rfl⟩
    obtain ⟨R2, hR2⟩ : ∃ R2, msgB n tq fr rq ky ow l2 s2 = R2 := ⟨_, rfl⟩
    have HM2 := Lib.hid hM2
    have HR2 := Lib.hid hR2
    rw [hM2, hR2]
    clear hM2 hR2
    go_wp2_with fail
    refine hK.out _ _ (by exact ⟨Y.out.c2.1, Y.out.c2.2.1⟩) (fun hHeld => ?_)
    clear hK K
    try simp only [Act.put, List.setIfInBounds_toArray, List.set_cons_zero, List.set_cons_succ, List.getElem_toArray, List.getElem_cons_zero, List.getElem_cons_succ]
    refine wpAnyH_take (i := 6) (v := ?_) rfl (by kernel_rfl) (by kernel_rfl) (by kernel_rfl) (fun _ _ _ h => h) (Or.inl ⟨by rfl, fun w hSw => by (try dsimp only at hSw); go_simp; (try with_reducible rfl)⟩) (by assumption) ?_
    try simp only [Act.put, List.setIfInBounds_toArray, List.set_cons_zero, List.set_cons_succ, List.getElem_toArray, List.getElem_cons_zero, List.getElem_cons_succ]
    refine wpAnyH_take (i := 7) (v := ?_) rfl (by kernel_rfl) (by kernel_rfl) (by kernel_rfl) (fun _ _ _ h => h) (Or.inl ⟨by rfl, fun w hSw => by (try dsimp only at hSw); go_simp; (try with_reducible rfl)⟩) (by assumption) ?_
    try simp only [Act.put, List.setIfInBounds_toArray, List.set_cons_zero, List.set_cons_succ, List.getElem_toArray, List.getElem_cons_zero, List.getElem_cons_succ]
    refine wpAnyH_take (i := 8) (v := ?_) rfl (by kernel_rfl) (by kernel_rfl) (by kernel_rfl) (fun _ _ _ h => h) (Or.inl ⟨by rfl, fun w hSw => by (try dsimp only at hSw); go_simp; (try with_reducible rfl)⟩) (by assumption) ?_
    try simp only [Act.put, List.setIfInBounds_toArray, List.set_cons_zero, List.set_cons_succ, List.getElem_toArray, List.getElem_cons_zero, List.getElem_cons_succ]
    refine wpAnyH_take (i := 9) (v := ?_) rfl (by kernel_rfl) (by kernel_rfl) (by kernel_rfl) (fun _ _ _ h => h) (Or.inl ⟨by rfl, fun w hSw => by (try dsimp only at hSw); go_simp; (try with_reducible rfl)⟩) (by assumption) ?_
    try simp only [Act.put, List.setIfInBounds_toArray, List.set_cons_zero, List.set_cons_succ, List.getElem_toArray, List.getElem_cons_zero, List.getElem_cons_succ]
    refine wpAnyH_take (i := 10) (v := ?_) rfl (by kernel_rfl) (by kernel_rfl) (by kernel_rfl) (fun _ _ _ h => h) (Or.inl ⟨by rfl, fun w hSw => by (try dsimp only at hSw); go_simp; (try with_reducible rfl)⟩) (by assumption) ?_
    try simp only [Act.put, List.setIfInBounds_toArray, List.set_cons_zero, List.set_cons_succ, List.getElem_toArray, List.getElem_cons_zero, List.getElem_cons_succ]
    refine wpAnyH_done (by kernel_rfl) ?_ _
    cases R2
    · have HB := Lib.hid (show tnB kd fr tq rq ky ow l s n l2 s2 = false by unfold tnB; rw [HR2.out]; simp)
      clear HM2
      obtain ⟨r0, r1, r2, r3, r4, r5, r6, r7, r8, f0, f1, f2, f3, f4, f5, f6, f7, f8⟩ := R.out.c9
      go_wp2
      have hw := within_set9 w4 (w.heap.size + 1 + 1) (.int .i64 0) (.int .i64 0) (.int .i64 0) (.int .i64 0) (.string ⟨#[]⟩) (.int .i64 0) (.slice none 0 0) (.slice none 0 0) (.int .i64 1)
      have R2 := cells_set9 R.out (.int .i64 0) (.int .i64 0) (.int .i64 0) (.int .i64 0) (.string ⟨#[]⟩) (.int .i64 0) (.slice none 0 0) (.slice none 0 0) (.int .i64 1)
      obtain ⟨q0, q1, q2, q3, q4, q5, q6, q7, q8, _⟩ := R2.c9
      refine bodyPost_ret (v := .agg #[.int .i64 0, .int .i64 0, .int .i64 0, .int .i64 0, .string ⟨#[]⟩, .int .i64 0, .slice none 0 0, .slice none 0 0, .int .i64 1]) (by simp [results, Try.results22, go_sem, q0, q1, q2, q3, q4, q5, q6, q7, q8]) rfl ?_
      exact turn_no HB.out (givesMO_no 1 (D.out.within hw (by omega)))
    have HB := Lib.hid (show tnB kd fr tq rq ky ow l s n l2 s2 = true by unfold tnB; rw [C0.out, HR2.out]; rfl)
    obtain ⟨r0, r1, r2, r3, r4, r5, r6, r7, r8, f0, f1, f2, f3, f4, f5, f6, f7, f8⟩ := R.out.c9
    go_wp2_with fail
    clear r0 f0 r1 f1 r2 f2 r3 f3 r4 f4 r5 f5 r6 f6 r7 f7 r8 f8
    rw [← HM2.out]
    have b8 := (setOk_of (msgB_ok HR2.out).set).2.1
    have b5 := right_len (setOk_of (msgB_ok HR2.out).set).1
    refine (closed_any n tq fr rq ky ow a2 b2 cap2 cap2' l2 s2 w4 HR2.out (by omega) (by omega) (KA.out.mono D.out) (KB.out.mono D.out)).mono ?_
    rintro e w5 ⟨a1, c1, b1, d1, lo1, hi1, lo2, hi2, rfl, ho, hp, g1, g2, g3, g4, g5, hb⟩
    have O := Lib.hid (show OwnI w5 lo1 hi1 a1 l2 from ⟨ho, g3⟩)
    have P := Lib.hid (show ROwnI 4 senc w5 lo2 hi2 b1 s2 from ⟨hp, g4⟩)
    have z5 := hb.size
    have zR := R.out.lt
    replace Y := Lib.hid (Y.out.below hb)
    replace R := Lib.hid (R.out.below hb)
    replace D := Lib.hid (D.out.below hb)
    clear hb ho hp
    obtain ⟨r0, r1, r2, r3, r4, r5, r6, r7, r8, f0, f1, f2, f3, f4, f5, f6, f7, f8⟩ := R.out.c9
    go_wp2
    have hw := within_set9 w5 (w.heap.size + 1 + 1) (.int .i64 n) (.int .i64 tq) (.int .i64 fr) (.int .i64 rq) (.string ky) (.int .i64 ow) (.slice a1 l2.length c1) (.slice b1 s2.length d1) (.int .i64 0)
    have R3 := cells_set9 R.out (.int .i64 n) (.int .i64 tq) (.int .i64 fr) (.int .i64 rq) (.string ky) (.int .i64 ow) (.slice a1 l2.length c1) (.slice b1 s2.length d1) (.int .i64 0)
    obtain ⟨q0, q1, q2, q3, q4, q5, q6, q7, q8, _⟩ := R3.c9
    refine bodyPost_ret (v := .agg #[.int .i64 n, .int .i64 tq, .int .i64 fr, .int .i64 rq, .string ky, .int .i64 ow, .slice a1 l2.length c1, .slice b1 s2.length d1, .int .i64 0]) (by simp [results, Try.results22, go_sem, q0, q1, q2, q3, q4, q5, q6, q7, q8]) rfl ?_
    exact turn_yes HB.out ⟨a1, c1, b1, d1, lo1, hi1, lo2, hi2, rfl, (O.out.within hw (by omega)).1, (P.out.within hw (by omega)).1, by omega, by omega, (O.out.within hw (by omega)).2, (P.out.within hw (by omega)).2, by omega, D.out.within hw (by omega)⟩
end Go.Proofs.Ytloenigleamcoaa.Sb

set_option linter.unusedSimpArgs false
set_option linter.unusedVariables false
namespace Go.Proofs.Ytloenigleamcoaa.Sb
open Go.RowKit Go.Proofs.Ytloenigleamcoaa.Mk Go.Proofs.Ytloenigleamcoaa.Rw

set_option maxRecDepth 100000 in
set_option maxHeartbeats 4000000 in
theorem law_MsgTurn (kd0 fr0 tq0 rq0 : Int) (ky0 : ByteArray) (ow0 : Int) (a0 : Option Addr) (cap0 : Nat) (l0 : List (Int × Int)) (b0 : Option Addr) (dap0 : Nat) (s0 : List Sib) (n1 : Int) (a2 : Option Addr) (cap2 : Nat) (l2 : List (Int × Int)) (b2 : Option Addr) (dap2 : Nat) (s2 : List Sib) (w : World) (h0 : CameMsg w kd0 fr0 tq0 rq0 ky0 ow0 a0 b0 l0 s0) (h1 : (Lit.int .i64 n1).wf = true) (h2 : CameSet w a2 b2 l2 s2) :
    Calls Try.prog 6 #[.agg #[.int .i64 kd0, .int .i64 fr0, .int .i64 tq0, .int .i64 rq0, .string ky0, .int .i64 ow0, .slice a0 l0.length cap0, .slice b0 s0.length dap0], .int .i64 n1, .agg #[.slice a2 l2.length cap2, .slice b2 s2.length dap2]] w fun e w' => e = .returned (.bool true) ∧ Below w.heap.size w w' := by
  obtain ⟨⟨⟨hm0, hl0, _⟩, hs0, hk0, hd0, hf0⟩, hi0, hi1, hi2, hi3, hi4, hi5⟩ := h0
  have H0 := Lib.hid (InAt.of hm0)
  have K0 := Lib.hid (RIn.of (by decide) hs0)
  have HD0 := Lib.hid hd0
  have HF0 := Lib.hid hf0
  have HY0 := Lib.hid hi4
  clear hm0 hs0 hd0 hf0 hi0 hi1 hi2 hi3 hi5
  unfold maxLen at hl0 hk0 hi4
  have Wn1 := Lib.hid h1
  clear h1
  obtain ⟨⟨hm2, hl2, _⟩, hs2, hk2, hd2, hf2⟩ := h2
  have H2 := Lib.hid (InAt.of hm2)
  have K2 := Lib.hid (RIn.of (by decide) hs2)
  have HD2 := Lib.hid hd2
  have HF2 := Lib.hid hf2
  clear hm2 hs2 hd2 hf2
  unfold maxLen at hl2 hk2
  have B := Lib.hid (show Base w w from Below.refl _ _)
  have hj := (tn_len kd0 fr0 tq0 rq0 ky0 ow0 l0 s0 n1 l2 s2).1
  have hj2 := (tn_len kd0 fr0 tq0 rq0 ky0 ow0 l0 s0 n1 l2 s2).2
  go_enter Try.func6, Try.ntmps6
  have hb := step_alloc w (.cells #[.int .i64 kd0, .int .i64 fr0, .int .i64 tq0, .int .i64 rq0, .string ky0, .int .i64 ow0, .slice a0 l0.length cap0, .slice b0 s0.length dap0] 27)
  replace B := Lib.hid (B.out.below hb)
  replace H0 := Lib.hid (H0.out.below hb)
  replace K0 := Lib.hid (K0.out.below hb)
  replace H2 := Lib.hid (H2.out.below hb)
  replace K2 := Lib.hid (K2.out.below hb)
  clear hb
  have Z1 : w.heap.size < (w.alloc (.cells #[.int .i64 kd0, .int .i64 fr0, .int .i64 tq0, .int .i64 rq0, .string ky0, .int .i64 ow0, .slice a0 l0.length cap0, .slice b0 s0.length dap0] 27)).heap.size := by simp
  have yZ1 : (w.alloc (.cells #[.int .i64 kd0, .int .i64 fr0, .int .i64 tq0, .int .i64 rq0, .string ky0, .int .i64 ow0, .slice a0 l0.length cap0, .slice b0 s0.length dap0] 27)).heap.size ≤ w.heap.size + 1 := by simp
  have V2 := Lib.hid (Var8.new w (.int .i64 kd0) (.int .i64 fr0) (.int .i64 tq0) (.int .i64 rq0) (.string ky0) (.int .i64 ow0) (.slice a0 l0.length cap0) (.slice b0 s0.length dap0) 27)
  have hb := step_alloc (w.alloc (.cells #[.int .i64 kd0, .int .i64 fr0, .int .i64 tq0, .int .i64 rq0, .string ky0, .int .i64 ow0, .slice a0 l0.length cap0, .slice b0 s0.length dap0] 27)) (.cells #[.slice a2 l2.length cap2, .slice b2 s2.length dap2] 25)
  replace B := Lib.hid (B.out.below hb)
  replace H0 := Lib.hid (H0.out.below hb)
  replace K0 := Lib.hid (K0.out.below hb)
  replace H2 := Lib.hid (H2.out.below hb)
  replace K2 := Lib.hid (K2.out.below hb)
  replace V2 := Lib.hid (V2.out.below hb)
  clear hb
  have Z3 : (w.alloc (.cells #[.int .i64 kd0, .int .i64 fr0, .int .i64 tq0, .int .i64 rq0, .string ky0, .int .i64 ow0, .slice a0 l0.length cap0, .slice b0 s0.length dap0] 27)).heap.size < ((w.alloc (.cells #[.int .i64 kd0, .int .i64 fr0, .int .i64 tq0, .int .i64 rq0, .string ky0, .int .i64 ow0, .slice a0 l0.length cap0, .slice b0 s0.length dap0] 27)).alloc (.cells #[.slice a2 l2.length cap2, .slice b2 s2.length dap2] 25)).heap.size := by simp
  have yZ3 : ((w.alloc (.cells #[.int .i64 kd0, .int .i64 fr0, .int .i64 tq0, .int .i64 rq0, .string ky0, .int .i64 ow0, .slice a0 l0.length cap0, .slice b0 s0.length dap0] 27)).alloc (.cells #[.slice a2 l2.length cap2, .slice b2 s2.length dap2] 25)).heap.size ≤ (w.alloc (.cells #[.int .i64 kd0, .int .i64 fr0, .int .i64 tq0, .int .i64 rq0, .string ky0, .int .i64 ow0, .slice a0 l0.length cap0, .slice b0 s0.length dap0] 27)).heap.size + 1 := by simp
  have V4 := Lib.hid (Var2.new (w.alloc (.cells #[.int .i64 kd0, .int .i64 fr0, .int .i64 tq0, .int .i64 rq0, .string ky0, .int .i64 ow0, .slice a0 l0.length cap0, .slice b0 s0.length dap0] 27)) (.slice a2 l2.length cap2) (.slice b2 s2.length dap2) 25)
  simp only [World.size_alloc] at V4
  obtain ⟨V2_c0, V2_c1, V2_c2, V2_c3, V2_c4, V2_c5, V2_c6, V2_c7, V2_l⟩ := V2.out
  obtain ⟨V4_c0, V4_c1, V4_l⟩ := V4.out
  go_wp2_with fail
  clear V2_c0 V2_c1 V2_c2 V2_c3 V2_c4 V2_c5 V2_c6 V2_c7 V2_l V4_c0 V4_c1 V4_l
  refine (szMsg (kd0) (fr0) (tq0) (rq0) (ky0) (ow0) a0 b0 cap0 dap0 (l0) (s0) (1048576) _ (by unfold maxLen; omega) (by unfold maxLen; omega) HD0.out HY0.out (by omega) (by omega) K0.out.at_).mono ?_
  rintro e wx5 ⟨r6, rfl, hr, hb⟩
  replace B := Lib.hid (B.out.below hb)
  replace H0 := Lib.hid (H0.out.below hb)
  replace K0 := Lib.hid (K0.out.below hb)
  replace H2 := Lib.hid (H2.out.below hb)
  replace K2 := Lib.hid (K2.out.below hb)
  replace V2 := Lib.hid (V2.out.below hb)
  replace V4 := Lib.hid (V4.out.below hb)
  have Z7 := hb.size
  clear hb
  simp at Z7
  rcases hr with rfl | ⟨q0r6, q1r6, q2r6, q3r6, q4r6⟩
  · go_wp2
    go_ret
    exact ⟨rfl, B.out⟩
  have hnr6 : ¬ r6 < 0 := by omega
  obtain ⟨V2_c0, V2_c1, V2_c2, V2_c3, V2_c4, V2_c5, V2_c6, V2_c7, V2_l⟩ := V2.out
  obtain ⟨V4_c0, V4_c1, V4_l⟩ := V4.out
  go_wp2_with fail
  clear V2_c0 V2_c1 V2_c2 V2_c3 V2_c4 V2_c5 V2_c6 V2_c7 V2_l V4_c0 V4_c1 V4_l
  refine (szSet a2 b2 cap2 dap2 (l2) (s2) (r6) _ (by unfold maxLen; omega) (by unfold maxLen; omega) HD2.out (by omega) (by omega) K2.out.at_).mono ?_
  rintro e wx8 ⟨r9, rfl, hr, hb⟩
  replace B := Lib.hid (B.out.below hb)
  replace H0 := Lib.hid (H0.out.below hb)
  replace K0 := Lib.hid (K0.out.below hb)
  replace H2 := Lib.hid (H2.out.below hb)
  replace K2 := Lib.hid (K2.out.below hb)
  replace V2 := Lib.hid (V2.out.below hb)
  replace V4 := Lib.hid (V4.out.below hb)
  have Z10 := hb.size
  clear hb
  rcases hr with rfl | ⟨q0r9, q1r9, q2r9, q3r9⟩
  · go_wp2
    go_ret
    exact ⟨rfl, B.out⟩
  have hnr9 : ¬ r9 < 0 := by omega
  obtain ⟨V2_c0, V2_c1, V2_c2, V2_c3, V2_c4, V2_c5, V2_c6, V2_c7, V2_l⟩ := V2.out
  obtain ⟨V4_c0, V4_c1, V4_l⟩ := V4.out
  go_upto_region 8 with fail
  clear V2_c0 V2_c1 V2_c2 V2_c3 V2_c4 V2_c5 V2_c6 V2_c7 V2_l V4_c0 V4_c1 V4_l
  go_cut [8] (fun s wx => ∃ (gg lo1 hi1 lo2 hi2 : Nat) (qa qb : Option Addr) (qc qd : Nat), s = .pointer (some ⟨gg, 0, none⟩) ∧ Var9 wx gg (.int .i64 (tnK (kd0) (fr0) (tq0) (rq0) (ky0) (ow0) (l0) (s0) (n1) (l2) (s2))) (.int .i64 (tnF (kd0) (fr0) (tq0) (rq0) (ky0) (ow0) (l0) (s0) (n1) (l2) (s2))) (.int .i64 (tnT (kd0) (fr0) (tq0) (rq0) (ky0) (ow0) (l0) (s0) (n1) (l2) (s2))) (.int .i64 (tnQ (kd0) (fr0) (tq0) (rq0) (ky0) (ow0) (l0) (s0) (n1) (l2) (s2))) (.string (tnY (kd0) (fr0) (tq0) (rq0) (ky0) (ow0) (l0) (s0) (n1) (l2) (s2))) (.int .i64 (tnO (kd0) (fr0) (tq0) (rq0) (ky0) (ow0) (l0) (s0) (n1) (l2) (s2))) (.slice qa (tnL (kd0) (fr0) (tq0) (rq0) (ky0) (ow0) (l0) (s0) (n1) (l2) (s2)).length qc) (.slice qb (tnS (kd0) (fr0) (tq0) (rq0) (ky0) (ow0) (l0) (s0) (n1) (l2) (s2)).length qd) (.int .i64 (tnC (kd0) (fr0) (tq0) (rq0) (ky0) (ow0) (l0) (s0) (n1) (l2) (s2))) ∧ OwnI wx lo1 hi1 qa (tnL (kd0) (fr0) (tq0) (rq0) (ky0) (ow0) (l0) (s0) (n1) (l2) (s2)) ∧ ROwnI 4 senc wx lo2 hi2 qb (tnS (kd0) (fr0) (tq0) (rq0) (ky0) (ow0) (l0) (s0) (n1) (l2) (s2)) ∧ Base wx8 wx ∧ wx8.heap.size ≤ lo1 ∧ wx8.heap.size ≤ lo2 ∧ (hi1 ≤ lo2 ∨ hi2 ≤ lo1) ∧ (gg < lo1 ∨ hi1 ≤ gg) ∧ (gg < lo2 ∨ hi2 ≤ gg) ∧ wx8.heap.size ≤ gg)
  case first =>
    have D := Lib.hid (show Base wx8 wx8 from Below.refl _ _)
    have hb := step_drew wx8
    replace H0 := Lib.hid (H0.out.below hb)
    replace K0 := Lib.hid (K0.out.below hb)
    replace H2 := Lib.hid (H2.out.below hb)
    replace K2 := Lib.hid (K2.out.below hb)
    replace V2 := Lib.hid (V2.out.below hb)
    replace V4 := Lib.hid (V4.out.below hb)
    replace D := Lib.hid (D.out.below hb)
    clear hb
    refine wp_region_held_drew (S := (fun w' => w'.cell? ⟨w.heap.size, 0, none⟩ = some (.int .i64 kd0) ∧ w'.cell? ⟨w.heap.size, 1, none⟩ = some (.int .i64 fr0) ∧ w'.cell? ⟨w.heap.size, 2, none⟩ = some (.int .i64 tq0) ∧ w'.cell? ⟨w.heap.size, 3, none⟩ = some (.int .i64 rq0) ∧ w'.cell? ⟨w.heap.size, 4, none⟩ = some (.string ky0) ∧ w'.cell? ⟨w.heap.size, 5, none⟩ = some (.int .i64 ow0) ∧ w'.cell? ⟨w.heap.size, 6, none⟩ = some (.slice a0 l0.length cap0) ∧ w'.cell? ⟨w.heap.size, 7, none⟩ = some (.slice b0 s0.length dap0) ∧ w'.cell? ⟨w.heap.size + 1, 0, none⟩ = some (.slice a2 l2.length cap2) ∧ w'.cell? ⟨w.heap.size + 1, 1, none⟩ = some (.slice b2 s2.length dap2))) (by kernel_rfl) (by exact ⟨V2.out.c0, V2.out.c1, V2.out.c2, V2.out.c3, V2.out.c4, V2.out.c5, V2.out.c6, V2.out.c7, V4.out.c0, V4.out.c1⟩) (fun hHeld => ?_)
    have Z12 : wx8.heap.size ≤ wx8.drew.heap.size := Nat.le_refl _
    generalize wx8.drew = wd13 at Z12 hHeld H0 K0 H2 K2 V2 V4 D ⊢
    refine wpAnyH_take (i := 0) (v := ?_) rfl (by kernel_rfl) (by kernel_rfl) (by kernel_rfl) (fun _ _ _ h => h) (Or.inl ⟨by rfl, fun w hSw => by (try dsimp only at hSw); go_simp; (try with_reducible rfl)⟩) (by assumption) ?_
    try simp only [Act.put, List.setIfInBounds_toArray, List.set_cons_zero, List.set_cons_succ, List.getElem_toArray, List.getElem_cons_zero, List.getElem_cons_succ]
    refine wpAnyH_take (i := 2) (v := ?_) rfl (by kernel_rfl) (by kernel_rfl) (by kernel_rfl) (fun _ _ _ h => h) (Or.inl ⟨by rfl, fun w hSw => by (try dsimp only at hSw); go_simp; (try with_reducible rfl)⟩) (by assumption) ?_
    try simp only [Act.put, List.setIfInBounds_toArray, List.set_cons_zero, List.set_cons_succ, List.getElem_toArray, List.getElem_cons_zero, List.getElem_cons_succ]
    refine wpAnyH_take (i := 3) (v := ?_) rfl (by kernel_rfl) (by kernel_rfl) (by kernel_rfl) (fun _ _ _ h => h) (Or.inl ⟨by rfl, fun w hSw => by (try dsimp only at hSw); go_simp; (try with_reducible rfl)⟩) (by assumption) ?_
    try simp only [Act.put, List.setIfInBounds_toArray, List.set_cons_zero, List.set_cons_succ, List.getElem_toArray, List.getElem_cons_zero, List.getElem_cons_succ]
    refine wpAnyH_ready (rs := [1, 6]) (by kernel_rfl) (by simp) ?_
    refine AllReadyH.cons rfl (fun K hK => ?_) ?_
    · go_simp
      refine (toMsg (kd0) (fr0) (tq0) (rq0) (ky0) (ow0) a0 b0 cap0 dap0 (l0) (s0) _ (by omega) (by omega) H0.out.at_ K0.out.at_).mono ?_
      rintro e wx19 ⟨qa14, qc15, qb16, qd17, mid18, rfl, ho, hs, hm1, hm2, hb⟩
      replace H0 := Lib.hid (H0.out.below hb)
      replace K0 := Lib.hid (K0.out.below hb)
      replace H2 := Lib.hid (H2.out.below hb)
      replace K2 := Lib.hid (K2.out.below hb)
      replace V2 := Lib.hid (V2.out.below hb)
      replace V4 := Lib.hid (V4.out.below hb)
      replace D := Lib.hid (D.out.below hb)
      have O20 := Lib.hid (show OwnI wx19 wd13.heap.size mid18 qa14 (l0) from ⟨ho, hm2⟩)
      have O21 := Lib.hid (show ROwnI 4 senc wx19 mid18 wx19.heap.size qb16 (s0) from ⟨hs, Nat.le_refl _⟩)
      have Z22 := hb.size
      have Z22a := hm1
      have Z22b := hm2
      clear hb ho hs hm1 hm2
      go_wp2_with fail
      refine hK.out _ _ (by exact ⟨V2.out.c0, V2.out.c1, V2.out.c2, V2.out.c3, V2.out.c4, V2.out.c5, V2.out.c6, V2.out.c7, V4.out.c0, V4.out.c1⟩) (fun hHeld => ?_)
      clear hK K
      try simp only [Act.put, List.setIfInBounds_toArray, List.set_cons_zero, List.set_cons_succ, List.getElem_toArray, List.getElem_cons_zero, List.getElem_cons_succ]
      refine wpAnyH_ready (rs := [4, 6]) (by kernel_rfl) (by simp) ?_
      refine AllReadyH.cons rfl (fun K hK => ?_) ?_
      · go_simp
        refine (toSet a2 b2 cap2 dap2 (l2) (s2) _ (by omega) (by omega) H2.out.at_ K2.out.at_).mono ?_
        rintro e wx28 ⟨qa23, qc24, qb25, qd26, mid27, rfl, ho, hs, hm1, hm2, hb⟩
        replace H0 := Lib.hid (H0.out.below hb)
        replace K0 := Lib.hid (K0.out.below hb)
        replace H2 := Lib.hid (H2.out.below hb)
        replace K2 := Lib.hid (K2.out.below hb)
        replace V2 := Lib.hid (V2.out.below hb)
        replace V4 := Lib.hid (V4.out.below hb)
        replace D := Lib.hid (D.out.below hb)
        replace O20 := Lib.hid (O20.out.below hb)
        replace O21 := Lib.hid (O21.out.below hb)
        have O29 := Lib.hid (show OwnI wx28 wx19.heap.size mid27 qa23 (l2) from ⟨ho, hm2⟩)
        have O30 := Lib.hid (show ROwnI 4 senc wx28 mid27 wx28.heap.size qb25 (s2) from ⟨hs, Nat.le_refl _⟩)
        have Z31 := hb.size
        have Z31a := hm1
        have Z31b := hm2
        clear hb ho hs hm1 hm2
        go_wp2_with fail
        refine hK.out _ _ (by exact ⟨V2.out.c0, V2.out.c1, V2.out.c2, V2.out.c3, V2.out.c4, V2.out.c5, V2.out.c6, V2.out.c7, V4.out.c0, V4.out.c1⟩) (fun hHeld => ?_)
        clear hK K
        try simp only [Act.put, List.setIfInBounds_toArray, List.set_cons_zero, List.set_cons_succ, List.getElem_toArray, List.getElem_cons_zero, List.getElem_cons_succ]
        refine wpAnyH_ready (rs := [5, 6]) (by kernel_rfl) (by simp) ?_
        refine AllReadyH.cons rfl (fun K hK => ?_) ?_
        · go_simp
          refine (spec_msgTurn (kd0) (fr0) (tq0) (rq0) (ky0) (ow0)  (n1) qa14 qb16 qa23 qb25 qc15 qd17 qc24 qd26 (l0) (s0) (l2) (s2) _ (by unfold maxLen; omega) (by unfold maxLen; omega) (by unfold maxLen; omega) (by unfold maxLen; omega) HD0.out HD2.out HY0.out O20.out.at_ O21.out.at_ O29.out.at_ O30.out.at_).mono ?_
          rintro e wx37 ⟨qa32, qc33, qb34, qd35, lo1k36, hi1k36, lo2k36, hi2k36, rfl, ho, hs, g1k36, g2k36, g3k36, g4k36, g5k36, hb⟩
          replace H0 := Lib.hid (H0.out.below hb)
          replace K0 := Lib.hid (K0.out.below hb)
          replace H2 := Lib.hid (H2.out.below hb)
          replace K2 := Lib.hid (K2.out.below hb)
          replace V2 := Lib.hid (V2.out.below hb)
          replace V4 := Lib.hid (V4.out.below hb)
          replace D := Lib.hid (D.out.below hb)
          replace O20 := Lib.hid (O20.out.below hb)
          replace O21 := Lib.hid (O21.out.below hb)
          replace O29 := Lib.hid (O29.out.below hb)
          replace O30 := Lib.hid (O30.out.below hb)
          have O38 := Lib.hid (show OwnI wx37 lo1k36 hi1k36 qa32 (tnL (kd0) (fr0) (tq0) (rq0) (ky0) (ow0) (l0) (s0) (n1) (l2) (s2)) from ⟨ho, g3k36⟩)
          have O39 := Lib.hid (show ROwnI 4 senc wx37 lo2k36 hi2k36 qb34 (tnS (kd0) (fr0) (tq0) (rq0) (ky0) (ow0) (l0) (s0) (n1) (l2) (s2)) from ⟨hs, g4k36⟩)
          have Z40 := hb.size
          clear hb ho hs
          go_wp2_with fail
          refine hK.out _ _ (by exact ⟨V2.out.c0, V2.out.c1, V2.out.c2, V2.out.c3, V2.out.c4, V2.out.c5, V2.out.c6, V2.out.c7, V4.out.c0, V4.out.c1⟩) (fun hHeld => ?_)
          clear hK K
          try simp only [Act.put, List.setIfInBounds_toArray, List.set_cons_zero, List.set_cons_succ, List.getElem_toArray, List.getElem_cons_zero, List.getElem_cons_succ]
          refine wpAnyH_ready (rs := [6]) (by kernel_rfl) (by simp) ?_
          refine AllReadyH.cons rfl (fun K hK => ?_) AllReadyH.nil
          go_simp
          have hb := step_alloc wx37 (.cells #[.int .i64 0, .int .i64 0, .int .i64 0, .int .i64 0, .string ⟨#[]⟩, .int .i64 0, .slice none 0 0, .slice none 0 0, .int .i64 0] 41)
          replace H0 := Lib.hid (H0.out.below hb)
          replace K0 := Lib.hid (K0.out.below hb)
          replace H2 := Lib.hid (H2.out.below hb)
          replace K2 := Lib.hid (K2.out.below hb)
          replace V2 := Lib.hid (V2.out.below hb)
          replace V4 := Lib.hid (V4.out.below hb)
          replace D := Lib.hid (D.out.below hb)
          replace O20 := Lib.hid (O20.out.below hb)
          replace O21 := Lib.hid (O21.out.below hb)
          replace O29 := Lib.hid (O29.out.below hb)
          replace O30 := Lib.hid (O30.out.below hb)
          replace O38 := Lib.hid (O38.out.below hb)
          replace O39 := Lib.hid (O39.out.below hb)
          clear hb
          have NV := Lib.hid (New9.new wx37 (.int .i64 0) (.int .i64 0) (.int .i64 0) (.int .i64 0) (.string ⟨#[]⟩) (.int .i64 0) (.slice none 0 0) (.slice none 0 0) (.int .i64 0) 41)
          have Z41 : wx37.heap.size < (wx37.alloc (.cells #[.int .i64 0, .int .i64 0, .int .i64 0, .int .i64 0, .string ⟨#[]⟩, .int .i64 0, .slice none 0 0, .slice none 0 0, .int .i64 0] 41)).heap.size := by simp
          obtain ⟨gb, hgb⟩ : ∃ gb, gb = wx37.heap.size := ⟨_, rfl⟩
          have QaZ41 : wx37.heap.size ≤ gb := by omega
          have QbZ41 : gb < (wx37.alloc (.cells #[.int .i64 0, .int .i64 0, .int .i64 0, .int .i64 0, .string ⟨#[]⟩, .int .i64 0, .slice none 0 0, .slice none 0 0, .int .i64 0] 41)).heap.size := by omega
          rw [← hgb] at NV ⊢
          clear hgb
          generalize wx37.alloc (.cells #[.int .i64 0, .int .i64 0, .int .i64 0, .int .i64 0, .string ⟨#[]⟩, .int .i64 0, .slice none 0 0, .slice none 0 0, .int .i64 0] 41) = wx42 at NV Z41 QbZ41 H0 K0 H2 K2 V2 V4 D O20 O21 O29 O30 O38 O39 ⊢
          refine hK.out _ _ (by exact ⟨V2.out.c0, V2.out.c1, V2.out.c2, V2.out.c3, V2.out.c4, V2.out.c5, V2.out.c6, V2.out.c7, V4.out.c0, V4.out.c1⟩) (fun hHeld => ?_)
          clear hK K
          try simp only [Act.put, List.setIfInBounds_toArray, List.set_cons_zero, List.set_cons_succ, List.getElem_toArray, List.getElem_cons_zero, List.getElem_cons_succ]
          obtain ⟨nv0, nv1, nv2, nv3, nv4, nv5, nv6, nv7, nv8, nf0, nf1, nf2, nf3, nf4, nf5, nf6, nf7, nf8, nl⟩ := NV.out.all
          refine wpAnyH_ready (rs := [7]) (by kernel_rfl) (by simp) ?_
          refine AllReadyH.cons rfl (fun K hK => ?_) AllReadyH.nil
          go_simp
          have hw := within_set9 wx42 gb (.int .i64 (tnK (kd0) (fr0) (tq0) (rq0) (ky0) (ow0) (l0) (s0) (n1) (l2) (s2))) (.int .i64 (tnF (kd0) (fr0) (tq0) (rq0) (ky0) (ow0) (l0) (s0) (n1) (l2) (s2))) (.int .i64 (tnT (kd0) (fr0) (tq0) (rq0) (ky0) (ow0) (l0) (s0) (n1) (l2) (s2))) (.int .i64 (tnQ (kd0) (fr0) (tq0) (rq0) (ky0) (ow0) (l0) (s0) (n1) (l2) (s2))) (.string (tnY (kd0) (fr0) (tq0) (rq0) (ky0) (ow0) (l0) (s0) (n1) (l2) (s2))) (.int .i64 (tnO (kd0) (fr0) (tq0) (rq0) (ky0) (ow0) (l0) (s0) (n1) (l2) (s2))) (.slice qa32 (tnL (kd0) (fr0) (tq0) (rq0) (ky0) (ow0) (l0) (s0) (n1) (l2) (s2)).length qc33) (.slice qb34 (tnS (kd0) (fr0) (tq0) (rq0) (ky0) (ow0) (l0) (s0) (n1) (l2) (s2)).length qd35) (.int .i64 (tnC (kd0) (fr0) (tq0) (rq0) (ky0) (ow0) (l0) (s0) (n1) (l2) (s2)))
          have VV := NV.out.store (.int .i64 (tnK (kd0) (fr0) (tq0) (rq0) (ky0) (ow0) (l0) (s0) (n1) (l2) (s2))) (.int .i64 (tnF (kd0) (fr0) (tq0) (rq0) (ky0) (ow0) (l0) (s0) (n1) (l2) (s2))) (.int .i64 (tnT (kd0) (fr0) (tq0) (rq0) (ky0) (ow0) (l0) (s0) (n1) (l2) (s2))) (.int .i64 (tnQ (kd0) (fr0) (tq0) (rq0) (ky0) (ow0) (l0) (s0) (n1) (l2) (s2))) (.string (tnY (kd0) (fr0) (tq0) (rq0) (ky0) (ow0) (l0) (s0) (n1) (l2) (s2))) (.int .i64 (tnO (kd0) (fr0) (tq0) (rq0) (ky0) (ow0) (l0) (s0) (n1) (l2) (s2))) (.slice qa32 (tnL (kd0) (fr0) (tq0) (rq0) (ky0) (ow0) (l0) (s0) (n1) (l2) (s2)).length qc33) (.slice qb34 (tnS (kd0) (fr0) (tq0) (rq0) (ky0) (ow0) (l0) (s0) (n1) (l2) (s2)).length qd35) (.int .i64 (tnC (kd0) (fr0) (tq0) (rq0) (ky0) (ow0) (l0) (s0) (n1) (l2) (s2)))
          replace H0 := Lib.hid (H0.out.within hw (by omega))
          replace K0 := Lib.hid (K0.out.within hw (by omega))
          replace H2 := Lib.hid (H2.out.within hw (by omega))
          replace K2 := Lib.hid (K2.out.within hw (by omega))
          replace V2 := Lib.hid (V2.out.within hw (by omega))
          replace V4 := Lib.hid (V4.out.within hw (by omega))
          replace D := Lib.hid (D.out.within hw (by omega))
          replace O20 := Lib.hid (O20.out.within hw (by omega))
          replace O21 := Lib.hid (O21.out.within hw (by omega))
          replace O29 := Lib.hid (O29.out.within hw (by omega))
          replace O30 := Lib.hid (O30.out.within hw (by omega))
          replace O38 := Lib.hid (O38.out.within hw (by omega))
          replace O39 := Lib.hid (O39.out.within hw (by omega))
          refine hK.out _ _ (by exact ⟨V2.out.c0, V2.out.c1, V2.out.c2, V2.out.c3, V2.out.c4, V2.out.c5, V2.out.c6, V2.out.c7, V4.out.c0, V4.out.c1⟩) (fun hHeld => ?_)
          refine wpAnyH_done (by kernel_rfl) ?_ _
          go_wp2_with fail
          go_meet
          exact ⟨gb, _, _, _, _, qa32, qb34, qc33, qd35, rfl, VV, O38.out, O39.out, D.out, by omega, by omega, by omega, by omega, by omega, by omega⟩
        refine AllReadyH.cons rfl (fun K hK => ?_) ?_
        · go_simp
          have hb := step_alloc wx28 (.cells #[.int .i64 0, .int .i64 0, .int .i64 0, .int .i64 0, .string ⟨#[]⟩, .int .i64 0, .slice none 0 0, .slice none 0 0, .int .i64 0] 41)
          replace H0 := Lib.hid (H0.out.below hb)
          replace K0 := Lib.hid (K0.out.below hb)
          replace H2 := Lib.hid (H2.out.below hb)
          replace K2 := Lib.hid (K2.out.below hb)
          replace V2 := Lib.hid (V2.out.below hb)
          replace V4 := Lib.hid (V4.out.below hb)
          replace D := Lib.hid (D.out.below hb)
          replace O20 := Lib.hid (O20.out.below hb)
          replace O21 := Lib.hid (O21.out.below hb)
          replace O29 := Lib.hid (O29.out.below hb)
          replace O30 := Lib.hid (O30.out.below hb)
          clear hb
          have NV := Lib.hid (New9.new wx28 (.int .i64 0) (.int .i64 0) (.int .i64 0) (.int .i64 0) (.string ⟨#[]⟩) (.int .i64 0) (.slice none 0 0) (.slice none 0 0) (.int .i64 0) 41)
          have Z43 : wx28.heap.size < (wx28.alloc (.cells #[.int .i64 0, .int .i64 0, .int .i64 0, .int .i64 0, .string ⟨#[]⟩, .int .i64 0, .slice none 0 0, .slice none 0 0, .int .i64 0] 41)).heap.size := by simp
          obtain ⟨gb, hgb⟩ : ∃ gb, gb = wx28.heap.size := ⟨_, rfl⟩
          have QaZ43 : wx28.heap.size ≤ gb := by omega
          have QbZ43 : gb < (wx28.alloc (.cells #[.int .i64 0, .int .i64 0, .int .i64 0, .int .i64 0, .string ⟨#[]⟩, .int .i64 0, .slice none 0 0, .slice none 0 0, .int .i64 0] 41)).heap.size := by omega
          rw [← hgb] at NV ⊢
          clear hgb
          generalize wx28.alloc (.cells #[.int .i64 0, .int .i64 0, .int .i64 0, .int .i64 0, .string ⟨#[]⟩, .int .i64 0, .slice none 0 0, .slice none 0 0, .int .i64 0] 41) = wx44 at NV Z43 QbZ43 H0 K0 H2 K2 V2 V4 D O20 O21 O29 O30 ⊢
          refine hK.out _ _ (by exact ⟨V2.out.c0, V2.out.c1, V2.out.c2, V2.out.c3, V2.out.c4, V2.out.c5, V2.out.c6, V2.out.c7, V4.out.c0, V4.out.c1⟩) (fun hHeld => ?_)
          clear hK K
          try simp only [Act.put, List.setIfInBounds_toArray, List.set_cons_zero, List.set_cons_succ, List.getElem_toArray, List.getElem_cons_zero, List.getElem_cons_succ]
          refine wpAnyH_ready (rs := [5]) (by kernel_rfl) (by simp) ?_
          refine AllReadyH.cons rfl (fun K hK => ?_) AllReadyH.nil
          go_simp
          refine (spec_msgTurn (kd0) (fr0) (tq0) (rq0) (ky0) (ow0)  (n1) qa14 qb16 qa23 qb25 qc15 qd17 qc24 qd26 (l0) (s0) (l2) (s2) _ (by unfold maxLen; omega) (by unfold maxLen; omega) (by unfold maxLen; omega) (by unfold maxLen; omega) HD0.out HD2.out HY0.out O20.out.at_ O21.out.at_ O29.out.at_ O30.out.at_).mono ?_
          rintro e wx50 ⟨qa45, qc46, qb47, qd48, lo1k49, hi1k49, lo2k49, hi2k49, rfl, ho, hs, g1k49, g2k49, g3k49, g4k49, g5k49, hb⟩
          replace H0 := Lib.hid (H0.out.below hb)
          replace K0 := Lib.hid (K0.out.below hb)
          replace H2 := Lib.hid (H2.out.below hb)
          replace K2 := Lib.hid (K2.out.below hb)
          replace V2 := Lib.hid (V2.out.below hb)
          replace V4 := Lib.hid (V4.out.below hb)
          replace D := Lib.hid (D.out.below hb)
          replace O20 := Lib.hid (O20.out.below hb)
          replace O21 := Lib.hid (O21.out.below hb)
          replace O29 := Lib.hid (O29.out.below hb)
          replace O30 := Lib.hid (O30.out.below hb)
          replace NV := Lib.hid (NV.out.below hb)
          have O51 := Lib.hid (show OwnI wx50 lo1k49 hi1k49 qa45 (tnL (kd0) (fr0) (tq0) (rq0) (ky0) (ow0) (l0) (s0) (n1) (l2) (s2)) from ⟨ho, g3k49⟩)
          have O52 := Lib.hid (show ROwnI 4 senc wx50 lo2k49 hi2k49 qb47 (tnS (kd0) (fr0) (tq0) (rq0) (ky0) (ow0) (l0) (s0) (n1) (l2) (s2)) from ⟨hs, g4k49⟩)
          have Z53 := hb.size
          clear hb ho hs
          go_wp2_with fail
          refine hK.out _ _ (by exact ⟨V2.out.c0, V2.out.c1, V2.out.c2, V2.out.c3, V2.out.c4, V2.out.c5, V2.out.c6, V2.out.c7, V4.out.c0, V4.out.c1⟩) (fun hHeld => ?_)
          clear hK K
          try simp only [Act.put, List.setIfInBounds_toArray, List.set_cons_zero, List.set_cons_succ, List.getElem_toArray, List.getElem_cons_zero, List.getElem_cons_succ]
          obtain ⟨nv0, nv1, nv2, nv3, nv4, nv5, nv6, nv7, nv8, nf0, nf1, nf2, nf3, nf4, nf5, nf6, nf7, nf8, nl⟩ := NV.out.all
          refine wpAnyH_ready (rs := [7]) (by kernel_rfl) (by simp) ?_
          refine AllReadyH.cons rfl (fun K hK => ?_) AllReadyH.nil
          go_simp
          have hw := within_set9 wx50 gb (.int .i64 (tnK (kd0) (fr0) (tq0) (rq0) (ky0) (ow0) (l0) (s0) (n1) (l2) (s2))) (.int .i64 (tnF (kd0) (fr0) (tq0) (rq0) (ky0) (ow0) (l0) (s0) (n1) (l2) (s2))) (.int .i64 (tnT (kd0) (fr0) (tq0) (rq0) (ky0) (ow0) (l0) (s0) (n1) (l2) (s2))) (.int .i64 (tnQ (kd0) (fr0) (tq0) (rq0) (ky0) (ow0) (l0) (s0) (n1) (l2) (s2))) (.string (tnY (kd0) (fr0) (tq0) (rq0) (ky0) (ow0) (l0) (s0) (n1) (l2) (s2))) (.int .i64 (tnO (kd0) (fr0) (tq0) (rq0) (ky0) (ow0) (l0) (s0) (n1) (l2) (s2))) (.slice qa45 (tnL (kd0) (fr0) (tq0) (rq0) (ky0) (ow0) (l0) (s0) (n1) (l2) (s2)).length qc46) (.slice qb47 (tnS (kd0) (fr0) (tq0) (rq0) (ky0) (ow0) (l0) (s0) (n1) (l2) (s2)).length qd48) (.int .i64 (tnC (kd0) (fr0) (tq0) (rq0) (ky0) (ow0) (l0) (s0) (n1) (l2) (s2)))
          have VV := NV.out.store (.int .i64 (tnK (kd0) (fr0) (tq0) (rq0) (ky0) (ow0) (l0) (s0) (n1) (l2) (s2))) (.int .i64 (tnF (kd0) (fr0) (tq0) (rq0) (ky0) (ow0) (l0) (s0) (n1) (l2) (s2))) (.int .i64 (tnT (kd0) (fr0) (tq0) (rq0) (ky0) (ow0) (l0) (s0) (n1) (l2) (s2))) (.int .i64 (tnQ (kd0) (fr0) (tq0) (rq0) (ky0) (ow0) (l0) (s0) (n1) (l2) (s2))) (.string (tnY (kd0) (fr0) (tq0) (rq0) (ky0) (ow0) (l0) (s0) (n1) (l2) (s2))) (.int .i64 (tnO (kd0) (fr0) (tq0) (rq0) (ky0) (ow0) (l0) (s0) (n1) (l2) (s2))) (.slice qa45 (tnL (kd0) (fr0) (tq0) (rq0) (ky0) (ow0) (l0) (s0) (n1) (l2) (s2)).length qc46) (.slice qb47 (tnS (kd0) (fr0) (tq0) (rq0) (ky0) (ow0) (l0) (s0) (n1) (l2) (s2)).length qd48) (.int .i64 (tnC (kd0) (fr0) (tq0) (rq0) (ky0) (ow0) (l0) (s0) (n1) (l2) (s2)))
          replace H0 := Lib.hid (H0.out.within hw (by omega))
          replace K0 := Lib.hid (K0.out.within hw (by omega))
          replace H2 := Lib.hid (H2.out.within hw (by omega))
          replace K2 := Lib.hid (K2.out.within hw (by omega))
          replace V2 := Lib.hid (V2.out.within hw (by omega))
          replace V4 := Lib.hid (V4.out.within hw (by omega))
          replace D := Lib.hid (D.out.within hw (by omega))
          replace O20 := Lib.hid (O20.out.within hw (by omega))
          replace O21 := Lib.hid (O21.out.within hw (by omega))
          replace O29 := Lib.hid (O29.out.within hw (by omega))
          replace O30 := Lib.hid (O30.out.within hw (by omega))
          replace O51 := Lib.hid (O51.out.within hw (by omega))
          replace O52 := Lib.hid (O52.out.within hw (by omega))
          refine hK.out _ _ (by exact ⟨V2.out.c0, V2.out.c1, V2.out.c2, V2.out.c3, V2.out.c4, V2.out.c5, V2.out.c6, V2.out.c7, V4.out.c0, V4.out.c1⟩) (fun hHeld => ?_)
          refine wpAnyH_done (by kernel_rfl) ?_ _
          go_wp2_with fail
          go_meet
          exact ⟨gb, _, _, _, _, qa45, qb47, qc46, qd48, rfl, VV, O51.out, O52.out, D.out, by omega, by omega, by omega, by omega, by omega, by omega⟩
        exact AllReadyH.nil
      refine AllReadyH.cons rfl (fun K hK => ?_) ?_
      · go_simp
        have hb := step_alloc wx19 (.cells #[.int .i64 0, .int .i64 0, .int .i64 0, .int .i64 0, .string ⟨#[]⟩, .int .i64 0, .slice none 0 0, .slice none 0 0, .int .i64 0] 41)
        replace H0 := Lib.hid (H0.out.below hb)
        replace K0 := Lib.hid (K0.out.below hb)
        replace H2 := Lib.hid (H2.out.below hb)
        replace K2 := Lib.hid (K2.out.below hb)
        replace V2 := Lib.hid (V2.out.below hb)
        replace V4 := Lib.hid (V4.out.below hb)
        replace D := Lib.hid (D.out.below hb)
        replace O20 := Lib.hid (O20.out.below hb)
        replace O21 := Lib.hid (O21.out.below hb)
        clear hb
        have NV := Lib.hid (New9.new wx19 (.int .i64 0) (.int .i64 0) (.int .i64 0) (.int .i64 0) (.string ⟨#[]⟩) (.int .i64 0) (.slice none 0 0) (.slice none 0 0) (.int .i64 0) 41)
        have Z54 : wx19.heap.size < (wx19.alloc (.cells #[.int .i64 0, .int .i64 0, .int .i64 0, .int .i64 0, .string ⟨#[]⟩, .int .i64 0, .slice none 0 0, .slice none 0 0, .int .i64 0] 41)).heap.size := by simp
        obtain ⟨gb, hgb⟩ : ∃ gb, gb = wx19.heap.size := ⟨_, rfl⟩
        have QaZ54 : wx19.heap.size ≤ gb := by omega
        have QbZ54 : gb < (wx19.alloc (.cells #[.int .i64 0, .int .i64 0, .int .i64 0, .int .i64 0, .string ⟨#[]⟩, .int .i64 0, .slice none 0 0, .slice none 0 0, .int .i64 0] 41)).heap.size := by omega
        rw [← hgb] at NV ⊢
        clear hgb
        generalize wx19.alloc (.cells #[.int .i64 0, .int .i64 0, .int .i64 0, .int .i64 0, .string ⟨#[]⟩, .int .i64 0, .slice none 0 0, .slice none 0 0, .int .i64 0] 41) = wx55 at NV Z54 QbZ54 H0 K0 H2 K2 V2 V4 D O20 O21 ⊢
        refine hK.out _ _ (by exact ⟨V2.out.c0, V2.out.c1, V2.out.c2, V2.out.c3, V2.out.c4, V2.out.c5, V2.out.c6, V2.out.c7, V4.out.c0, V4.out.c1⟩) (fun hHeld => ?_)
        clear hK K
        try simp only [Act.put, List.setIfInBounds_toArray, List.set_cons_zero, List.set_cons_succ, List.getElem_toArray, List.getElem_cons_zero, List.getElem_cons_succ]
        refine wpAnyH_ready (rs := [4]) (by kernel_rfl) (by simp) ?_
        refine AllReadyH.cons rfl (fun K hK => ?_) AllReadyH.nil
        go_simp
        refine (toSet a2 b2 cap2 dap2 (l2) (s2) _ (by omega) (by omega) H2.out.at_ K2.out.at_).mono ?_
        rintro e wx61 ⟨qa56, qc57, qb58, qd59, mid60, rfl, ho, hs, hm1, hm2, hb⟩
        replace H0 := Lib.hid (H0.out.below hb)
        replace K0 := Lib.hid (K0.out.below hb)
        replace H2 := Lib.hid (H2.out.below hb)
        replace K2 := Lib.hid (K2.out.below hb)
        replace V2 := Lib.hid (V2.out.below hb)
        replace V4 := Lib.hid (V4.out.below hb)
        replace D := Lib.hid (D.out.below hb)
        replace O20 := Lib.hid (O20.out.below hb)
        replace O21 := Lib.hid (O21.out.below hb)
        replace NV := Lib.hid (NV.out.below hb)
        have O62 := Lib.hid (show OwnI wx61 wx55.heap.size mid60 qa56 (l2) from ⟨ho, hm2⟩)
        have O63 := Lib.hid (show ROwnI 4 senc wx61 mid60 wx61.heap.size qb58 (s2) from ⟨hs, Nat.le_refl _⟩)
        have Z64 := hb.size
        have Z64a := hm1
        have Z64b := hm2
        clear hb ho hs hm1 hm2
        go_wp2_with fail
        refine hK.out _ _ (by exact ⟨V2.out.c0, V2.out.c1, V2.out.c2, V2.out.c3, V2.out.c4, V2.out.c5, V2.out.c6, V2.out.c7, V4.out.c0, V4.out.c1⟩) (fun hHeld => ?_)
        clear hK K
        try simp only [Act.put, List.setIfInBounds_toArray, List.set_cons_zero, List.set_cons_succ, List.getElem_toArray, List.getElem_cons_zero, List.getElem_cons_succ]
        refine wpAnyH_ready (rs := [5]) (by kernel_rfl) (by simp) ?_
        refine AllReadyH.cons rfl (fun K hK => ?_) AllReadyH.nil
        go_simp
        refine (spec_msgTurn (kd0) (fr0) (tq0) (rq0) (ky0) (ow0)  (n1) qa14 qb16 qa56 qb58 qc15 qd17 qc57 qd59 (l0) (s0) (l2) (s2) _ (by unfold maxLen; omega) (by unfold maxLen; omega) (by unfold maxLen; omega) (by unfold maxLen; omega) HD0.out HD2.out HY0.out O20.out.at_ O21.out.at_ O62.out.at_ O63.out.at_).mono ?_
        rintro e wx70 ⟨qa65, qc66, qb67, qd68, lo1k69, hi1k69, lo2k69, hi2k69, rfl, ho, hs, g1k69, g2k69, g3k69, g4k69, g5k69, hb⟩
        replace H0 := Lib.hid (H0.out.below hb)
        replace K0 := Lib.hid (K0.out.below hb)
        replace H2 := Lib.hid (H2.out.below hb)
        replace K2 := Lib.hid (K2.out.below hb)
        replace V2 := Lib.hid (V2.out.below hb)
        replace V4 := Lib.hid (V4.out.below hb)
        replace D := Lib.hid (D.out.below hb)
        replace O20 := Lib.hid (O20.out.below hb)
        replace O21 := Lib.hid (O21.out.below hb)
        replace NV := Lib.hid (NV.out.below hb)
        replace O62 := Lib.hid (O62.out.below hb)
        replace O63 := Lib.hid (O63.out.below hb)
        have O71 := Lib.hid (show OwnI wx70 lo1k69 hi1k69 qa65 (tnL (kd0) (fr0) (tq0) (rq0) (ky0) (ow0) (l0) (s0) (n1) (l2) (s2)) from ⟨ho, g3k69⟩)
        have O72 := Lib.hid (show ROwnI 4 senc wx70 lo2k69 hi2k69 qb67 (tnS (kd0) (fr0) (tq0) (rq0) (ky0) (ow0) (l0) (s0) (n1) (l2) (s2)) from ⟨hs, g4k69⟩)
        have Z73 := hb.size
        clear hb ho hs
        go_wp2_with fail
        refine hK.out _ _ (by exact ⟨V2.out.c0, V2.out.c1, V2.out.c2, V2.out.c3, V2.out.c4, V2.out.c5, V2.out.c6, V2.out.c7, V4.out.c0, V4.out.c1⟩) (fun hHeld => ?_)
        clear hK K
        try simp only [Act.put, List.setIfInBounds_toArray, List.set_cons_zero, List.set_cons_succ, List.getElem_toArray, List.getElem_cons_zero, List.getElem_cons_succ]
        obtain ⟨nv0, nv1, nv2, nv3, nv4, nv5, nv6, nv7, nv8, nf0, nf1, nf2, nf3, nf4, nf5, nf6, nf7, nf8, nl⟩ := NV.out.all
        refine wpAnyH_ready (rs := [7]) (by kernel_rfl) (by simp) ?_
        refine AllReadyH.cons rfl (fun K hK => ?_) AllReadyH.nil
        go_simp
        have hw := within_set9 wx70 gb (.int .i64 (tnK (kd0) (fr0) (tq0) (rq0) (ky0) (ow0) (l0) (s0) (n1) (l2) (s2))) (.int .i64 (tnF (kd0) (fr0) (tq0) (rq0) (ky0) (ow0) (l0) (s0) (n1) (l2) (s2))) (.int .i64 (tnT (kd0) (fr0) (tq0) (rq0) (ky0) (ow0) (l0) (s0) (n1) (l2) (s2))) (.int .i64 (tnQ (kd0) (fr0) (tq0) (rq0) (ky0) (ow0) (l0) (s0) (n1) (l2) (s2))) (.string (tnY (kd0) (fr0) (tq0) (rq0) (ky0) (ow0) (l0) (s0) (n1) (l2) (s2))) (.int .i64 (tnO (kd0) (fr0) (tq0) (rq0) (ky0) (ow0) (l0) (s0) (n1) (l2) (s2))) (.slice qa65 (tnL (kd0) (fr0) (tq0) (rq0) (ky0) (ow0) (l0) (s0) (n1) (l2) (s2)).length qc66) (.slice qb67 (tnS (kd0) (fr0) (tq0) (rq0) (ky0) (ow0) (l0) (s0) (n1) (l2) (s2)).length qd68) (.int .i64 (tnC (kd0) (fr0) (tq0) (rq0) (ky0) (ow0) (l0) (s0) (n1) (l2) (s2)))
        have VV := NV.out.store (.int .i64 (tnK (kd0) (fr0) (tq0) (rq0) (ky0) (ow0) (l0) (s0) (n1) (l2) (s2))) (.int .i64 (tnF (kd0) (fr0) (tq0) (rq0) (ky0) (ow0) (l0) (s0) (n1) (l2) (s2))) (.int .i64 (tnT (kd0) (fr0) (tq0) (rq0) (ky0) (ow0) (l0) (s0) (n1) (l2) (s2))) (.int .i64 (tnQ (kd0) (fr0) (tq0) (rq0) (ky0) (ow0) (l0) (s0) (n1) (l2) (s2))) (.string (tnY (kd0) (fr0) (tq0) (rq0) (ky0) (ow0) (l0) (s0) (n1) (l2) (s2))) (.int .i64 (tnO (kd0) (fr0) (tq0) (rq0) (ky0) (ow0) (l0) (s0) (n1) (l2) (s2))) (.slice qa65 (tnL (kd0) (fr0) (tq0) (rq0) (ky0) (ow0) (l0) (s0) (n1) (l2) (s2)).length qc66) (.slice qb67 (tnS (kd0) (fr0) (tq0) (rq0) (ky0) (ow0) (l0) (s0) (n1) (l2) (s2)).length qd68) (.int .i64 (tnC (kd0) (fr0) (tq0) (rq0) (ky0) (ow0) (l0) (s0) (n1) (l2) (s2)))
        replace H0 := Lib.hid (H0.out.within hw (by omega))
        replace K0 := Lib.hid (K0.out.within hw (by omega))
        replace H2 := Lib.hid (H2.out.within hw (by omega))
        replace K2 := Lib.hid (K2.out.within hw (by omega))
        replace V2 := Lib.hid (V2.out.within hw (by omega))
        replace V4 := Lib.hid (V4.out.within hw (by omega))
        replace D := Lib.hid (D.out.within hw (by omega))
        replace O20 := Lib.hid (O20.out.within hw (by omega))
        replace O21 := Lib.hid (O21.out.within hw (by omega))
        replace O62 := Lib.hid (O62.out.within hw (by omega))
        replace O63 := Lib.hid (O63.out.within hw (by omega))
        replace O71 := Lib.hid (O71.out.within hw (by omega))
        replace O72 := Lib.hid (O72.out.within hw (by omega))
        refine hK.out _ _ (by exact ⟨V2.out.c0, V2.out.c1, V2.out.c2, V2.out.c3, V2.out.c4, V2.out.c5, V2.out.c6, V2.out.c7, V4.out.c0, V4.out.c1⟩) (fun hHeld => ?_)
        refine wpAnyH_done (by kernel_rfl) ?_ _
        go_wp2_with fail
        go_meet
        exact ⟨gb, _, _, _, _, qa65, qb67, qc66, qd68, rfl, VV, O71.out, O72.out, D.out, by omega, by omega, by omega, by omega, by omega, by omega⟩
      exact AllReadyH.nil
    refine AllReadyH.cons rfl (fun K hK => ?_) ?_
    · go_simp
      have hb := step_alloc wd13 (.cells #[.int .i64 0, .int .i64 0, .int .i64 0, .int .i64 0, .string ⟨#[]⟩, .int .i64 0, .slice none 0 0, .slice none 0 0, .int .i64 0] 41)
      replace H0 := Lib.hid (H0.out.below hb)
      replace K0 := Lib.hid (K0.out.below hb)
      replace H2 := Lib.hid (H2.out.below hb)
      replace K2 := Lib.hid (K2.out.below hb)
      replace V2 := Lib.hid (V2.out.below hb)
      replace V4 := Lib.hid (V4.out.below hb)
      replace D := Lib.hid (D.out.below hb)
      clear hb
      have NV := Lib.hid (New9.new wd13 (.int .i64 0) (.int .i64 0) (.int .i64 0) (.int .i64 0) (.string ⟨#[]⟩) (.int .i64 0) (.slice none 0 0) (.slice none 0 0) (.int .i64 0) 41)
      have Z74 : wd13.heap.size < (wd13.alloc (.cells #[.int .i64 0, .int .i64 0, .int .i64 0, .int .i64 0, .string ⟨#[]⟩, .int .i64 0, .slice none 0 0, .slice none 0 0, .int .i64 0] 41)).heap.size := by simp
      obtain ⟨gb, hgb⟩ : ∃ gb, gb = wd13.heap.size := ⟨_, rfl⟩
      have QaZ74 : wd13.heap.size ≤ gb := by omega
      have QbZ74 : gb < (wd13.alloc (.cells #[.int .i64 0, .int .i64 0, .int .i64 0, .int .i64 0, .string ⟨#[]⟩, .int .i64 0, .slice none 0 0, .slice none 0 0, .int .i64 0] 41)).heap.size := by omega
      rw [← hgb] at NV ⊢
      clear hgb
      generalize wd13.alloc (.cells #[.int .i64 0, .int .i64 0, .int .i64 0, .int .i64 0, .string ⟨#[]⟩, .int .i64 0, .slice none 0 0, .slice none 0 0, .int .i64 0] 41) = wx75 at NV Z74 QbZ74 H0 K0 H2 K2 V2 V4 D ⊢
      refine hK.out _ _ (by exact ⟨V2.out.c0, V2.out.c1, V2.out.c2, V2.out.c3, V2.out.c4, V2.out.c5, V2.out.c6, V2.out.c7, V4.out.c0, V4.out.c1⟩) (fun hHeld => ?_)
      clear hK K
      try simp only [Act.put, List.setIfInBounds_toArray, List.set_cons_zero, List.set_cons_succ, List.getElem_toArray, List.getElem_cons_zero, List.getElem_cons_succ]
      refine wpAnyH_ready (rs := [1]) (by kernel_rfl) (by simp) ?_
      refine AllReadyH.cons rfl (fun K hK => ?_) AllReadyH.nil
      go_simp
      refine (toMsg (kd0) (fr0) (tq0) (rq0) (ky0) (ow0) a0 b0 cap0 dap0 (l0) (s0) _ (by omega) (by omega) H0.out.at_ K0.out.at_).mono ?_
      rintro e wx81 ⟨qa76, qc77, qb78, qd79, mid80, rfl, ho, hs, hm1, hm2, hb⟩
      replace H0 := Lib.hid (H0.out.below hb)
      replace K0 := Lib.hid (K0.out.below hb)
      replace H2 := Lib.hid (H2.out.below hb)
      replace K2 := Lib.hid (K2.out.below hb)
      replace V2 := Lib.hid (V2.out.below hb)
      replace V4 := Lib.hid (V4.out.below hb)
      replace D := Lib.hid (D.out.below hb)
      replace NV := Lib.hid (NV.out.below hb)
      have O82 := Lib.hid (show OwnI wx81 wx75.heap.size mid80 qa76 (l0) from ⟨ho, hm2⟩)
      have O83 := Lib.hid (show ROwnI 4 senc wx81 mid80 wx81.heap.size qb78 (s0) from ⟨hs, Nat.le_refl _⟩)
      have Z84 := hb.size
      have Z84a := hm1
      have Z84b := hm2
      clear hb ho hs hm1 hm2
      go_wp2_with fail
      refine hK.out _ _ (by exact ⟨V2.out.c0, V2.out.c1, V2.out.c2, V2.out.c3, V2.out.c4, V2.out.c5, V2.out.c6, V2.out.c7, V4.out.c0, V4.out.c1⟩) (fun hHeld => ?_)
      clear hK K
      try simp only [Act.put, List.setIfInBounds_toArray, List.set_cons_zero, List.set_cons_succ, List.getElem_toArray, List.getElem_cons_zero, List.getElem_cons_succ]
      refine wpAnyH_ready (rs := [4]) (by kernel_rfl) (by simp) ?_
      refine AllReadyH.cons rfl (fun K hK => ?_) AllReadyH.nil
      go_simp
      refine (toSet a2 b2 cap2 dap2 (l2) (s2) _ (by omega) (by omega) H2.out.at_ K2.out.at_).mono ?_
      rintro e wx90 ⟨qa85, qc86, qb87, qd88, mid89, rfl, ho, hs, hm1, hm2, hb⟩
      replace H0 := Lib.hid (H0.out.below hb)
      replace K0 := Lib.hid (K0.out.below hb)
      replace H2 := Lib.hid (H2.out.below hb)
      replace K2 := Lib.hid (K2.out.below hb)
      replace V2 := Lib.hid (V2.out.below hb)
      replace V4 := Lib.hid (V4.out.below hb)
      replace D := Lib.hid (D.out.below hb)
      replace NV := Lib.hid (NV.out.below hb)
      replace O82 := Lib.hid (O82.out.below hb)
      replace O83 := Lib.hid (O83.out.below hb)
      have O91 := Lib.hid (show OwnI wx90 wx81.heap.size mid89 qa85 (l2) from ⟨ho, hm2⟩)
      have O92 := Lib.hid (show ROwnI 4 senc wx90 mid89 wx90.heap.size qb87 (s2) from ⟨hs, Nat.le_refl _⟩)
      have Z93 := hb.size
      have Z93a := hm1
      have Z93b := hm2
      clear hb ho hs hm1 hm2
      go_wp2_with fail
      refine hK.out _ _ (by exact ⟨V2.out.c0, V2.out.c1, V2.out.c2, V2.out.c3, V2.out.c4, V2.out.c5, V2.out.c6, V2.out.c7, V4.out.c0, V4.out.c1⟩) (fun hHeld => ?_)
      clear hK K
      try simp only [Act.put, List.setIfInBounds_toArray, List.set_cons_zero, List.set_cons_succ, List.getElem_toArray, List.getElem_cons_zero, List.getElem_cons_succ]
      refine wpAnyH_ready (rs := [5]) (by kernel_rfl) (by simp) ?_
      refine AllReadyH.cons rfl (fun K hK => ?_) AllReadyH.nil
      go_simp
      refine (spec_msgTurn (kd0) (fr0) (tq0) (rq0) (ky0) (ow0)  (n1) qa76 qb78 qa85 qb87 qc77 qd79 qc86 qd88 (l0) (s0) (l2) (s2) _ (by unfold maxLen; omega) (by unfold maxLen; omega) (by unfold maxLen; omega) (by unfold maxLen; omega) HD0.out HD2.out HY0.out O82.out.at_ O83.out.at_ O91.out.at_ O92.out.at_).mono ?_
      rintro e wx99 ⟨qa94, qc95, qb96, qd97, lo1k98, hi1k98, lo2k98, hi2k98, rfl, ho, hs, g1k98, g2k98, g3k98, g4k98, g5k98, hb⟩
      replace H0 := Lib.hid (H0.out.below hb)
      replace K0 := Lib.hid (K0.out.below hb)
      replace H2 := Lib.hid (H2.out.below hb)
      replace K2 := Lib.hid (K2.out.below hb)
      replace V2 := Lib.hid (V2.out.below hb)
      replace V4 := Lib.hid (V4.out.below hb)
      replace D := Lib.hid (D.out.below hb)
      replace NV := Lib.hid (NV.out.below hb)
      replace O82 := Lib.hid (O82.out.below hb)
      replace O83 := Lib.hid (O83.out.below hb)
      replace O91 := Lib.hid (O91.out.below hb)
      replace O92 := Lib.hid (O92.out.below hb)
      have O100 := Lib.hid (show OwnI wx99 lo1k98 hi1k98 qa94 (tnL (kd0) (fr0) (tq0) (rq0) (ky0) (ow0) (l0) (s0) (n1) (l2) (s2)) from ⟨ho, g3k98⟩)
      have O101 := Lib.hid (show ROwnI 4 senc wx99 lo2k98 hi2k98 qb96 (tnS (kd0) (fr0) (tq0) (rq0) (ky0) (ow0) (l0) (s0) (n1) (l2) (s2)) from ⟨hs, g4k98⟩)
      have Z102 := hb.size
      clear hb ho hs
      go_wp2_with fail
      refine hK.out _ _ (by exact ⟨V2.out.c0, V2.out.c1, V2.out.c2, V2.out.c3, V2.out.c4, V2.out.c5, V2.out.c6, V2.out.c7, V4.out.c0, V4.out.c1⟩) (fun hHeld => ?_)
      clear hK K
      try simp only [Act.put, List.setIfInBounds_toArray, List.set_cons_zero, List.set_cons_succ, List.getElem_toArray, List.getElem_cons_zero, List.getElem_cons_succ]
      obtain ⟨nv0, nv1, nv2, nv3, nv4, nv5, nv6, nv7, nv8, nf0, nf1, nf2, nf3, nf4, nf5, nf6, nf7, nf8, nl⟩ := NV.out.all
      refine wpAnyH_ready (rs := [7]) (by kernel_rfl) (by simp) ?_
      refine AllReadyH.cons rfl (fun K hK => ?_) AllReadyH.nil
      go_simp
      have hw := within_set9 wx99 gb (.int .i64 (tnK (kd0) (fr0) (tq0) (rq0) (ky0) (ow0) (l0) (s0) (n1) (l2) (s2))) (.int .i64 (tnF (kd0) (fr0) (tq0) (rq0) (ky0) (ow0) (l0) (s0) (n1) (l2) (s2))) (.int .i64 (tnT (kd0) (fr0) (tq0) (rq0) (ky0) (ow0) (l0) (s0) (n1) (l2) (s2))) (.int .i64 (tnQ (kd0) (fr0) (tq0) (rq0) (ky0) (ow0) (l0) (s0) (n1) (l2) (s2))) (.string (tnY (kd0) (fr0) (tq0) (rq0) (ky0) (ow0) (l0) (s0) (n1) (l2) (s2))) (.int .i64 (tnO (kd0) (fr0) (tq0) (rq0) (ky0) (ow0) (l0) (s0) (n1) (l2) (s2))) (.slice qa94 (tnL (kd0) (fr0) (tq0) (rq0) (ky0) (ow0) (l0) (s0) (n1) (l2) (s2)).length qc95) (.slice qb96 (tnS (kd0) (fr0) (tq0) (rq0) (ky0) (ow0) (l0) (s0) (n1) (l2) (s2)).length qd97) (.int .i64 (tnC (kd0) (fr0) (tq0) (rq0) (ky0) (ow0) (l0) (s0) (n1) (l2) (s2)))
      have VV := NV.out.store (.int .i64 (tnK (kd0) (fr0) (tq0) (rq0) (ky0) (ow0) (l0) (s0) (n1) (l2) (s2))) (.int .i64 (tnF (kd0) (fr0) (tq0) (rq0) (ky0) (ow0) (l0) (s0) (n1) (l2) (s2))) (.int .i64 (tnT (kd0) (fr0) (tq0) (rq0) (ky0) (ow0) (l0) (s0) (n1) (l2) (s2))) (.int .i64 (tnQ (kd0) (fr0) (tq0) (rq0) (ky0) (ow0) (l0) (s0) (n1) (l2) (s2))) (.string (tnY (kd0) (fr0) (tq0) (rq0) (ky0) (ow0) (l0) (s0) (n1) (l2) (s2))) (.int .i64 (tnO (kd0) (fr0) (tq0) (rq0) (ky0) (ow0) (l0) (s0) (n1) (l2) (s2))) (.slice qa94 (tnL (kd0) (fr0) (tq0) (rq0) (ky0) (ow0) (l0) (s0) (n1) (l2) (s2)).length qc95) (.slice qb96 (tnS (kd0) (fr0) (tq0) (rq0) (ky0) (ow0) (l0) (s0) (n1) (l2) (s2)).length qd97) (.int .i64 (tnC (kd0) (fr0) (tq0) (rq0) (ky0) (ow0) (l0) (s0) (n1) (l2) (s2)))
      replace H0 := Lib.hid (H0.out.within hw (by omega))
      replace K0 := Lib.hid (K0.out.within hw (by omega))
      replace H2 := Lib.hid (H2.out.within hw (by omega))
      replace K2 := Lib.hid (K2.out.within hw (by omega))
      replace V2 := Lib.hid (V2.out.within hw (by omega))
      replace V4 := Lib.hid (V4.out.within hw (by omega))
      replace D := Lib.hid (D.out.within hw (by omega))
      replace O82 := Lib.hid (O82.out.within hw (by omega))
      replace O83 := Lib.hid (O83.out.within hw (by omega))
      replace O91 := Lib.hid (O91.out.within hw (by omega))
      replace O92 := Lib.hid (O92.out.within hw (by omega))
      replace O100 := Lib.hid (O100.out.within hw (by omega))
      replace O101 := Lib.hid (O101.out.within hw (by omega))
      refine hK.out _ _ (by exact ⟨V2.out.c0, V2.out.c1, V2.out.c2, V2.out.c3, V2.out.c4, V2.out.c5, V2.out.c6, V2.out.c7, V4.out.c0, V4.out.c1⟩) (fun hHeld => ?_)
      refine wpAnyH_done (by kernel_rfl) ?_ _
      go_wp2_with fail
      go_meet
      exact ⟨gb, _, _, _, _, qa94, qb96, qc95, qd97, rfl, VV, O100.out, O101.out, D.out, by omega, by omega, by omega, by omega, by omega, by omega⟩
    exact AllReadyH.nil
  case rest =>
    obtain ⟨gk11, lo1k11, hi1k11, lo2k11, hi2k11, qak11, qbk11, qck11, qdk11, rfl, hV, hO, hP, hb, z1k11, z2k11, z3k11, z4k11, z5k11, z6k11⟩ := hcut
    obtain ⟨wk11, hwk⟩ : ∃ x, x = wc := ⟨_, rfl⟩
    subst hwk
    replace B := Lib.hid (B.out.below hb)
    replace H0 := Lib.hid (H0.out.below hb)
    replace K0 := Lib.hid (K0.out.below hb)
    replace H2 := Lib.hid (H2.out.below hb)
    replace K2 := Lib.hid (K2.out.below hb)
    replace V2 := Lib.hid (V2.out.below hb)
    replace V4 := Lib.hid (V4.out.below hb)
    have Vk11 := Lib.hid hV
    have Ok11 := Lib.hid hO
    have Pk11 := Lib.hid hP
    have Zk11 := hb.size
    have Yk11 := hO.2
    have Uk11 := hP.2
    have Xk11 := hV.lt
    clear hb hV hO hP
    obtain ⟨V2_c0, V2_c1, V2_c2, V2_c3, V2_c4, V2_c5, V2_c6, V2_c7, V2_l⟩ := V2.out
    obtain ⟨V4_c0, V4_c1, V4_l⟩ := V4.out
    obtain ⟨Vk11_c0, Vk11_c1, Vk11_c2, Vk11_c3, Vk11_c4, Vk11_c5, Vk11_c6, Vk11_c7, Vk11_c8, Vk11_l⟩ := Vk11.out
    go_wp2_with fail
    clear V2_c0 V2_c1 V2_c2 V2_c3 V2_c4 V2_c5 V2_c6 V2_c7 V2_l V4_c0 V4_c1 V4_l Vk11_c0 Vk11_c1 Vk11_c2 Vk11_c3 Vk11_c4 Vk11_c5 Vk11_c6 Vk11_c7 Vk11_c8 Vk11_l
    refine (toMsg (kd0) (fr0) (tq0) (rq0) (ky0) (ow0) a0 b0 cap0 dap0 (l0) (s0) _ (by omega) (by omega) H0.out.at_ K0.out.at_).mono ?_
    rintro e wx108 ⟨qa103, qc104, qb105, qd106, mid107, rfl, ho, hs, hm1, hm2, hb⟩
    replace B := Lib.hid (B.out.below hb)
    replace H0 := Lib.hid (H0.out.below hb)
    replace K0 := Lib.hid (K0.out.below hb)
    replace H2 := Lib.hid (H2.out.below hb)
    replace K2 := Lib.hid (K2.out.below hb)
    replace V2 := Lib.hid (V2.out.below hb)
    replace V4 := Lib.hid (V4.out.below hb)
    replace Vk11 := Lib.hid (Vk11.out.below hb)
    replace Ok11 := Lib.hid (Ok11.out.below hb)
    replace Pk11 := Lib.hid (Pk11.out.below hb)
    have O109 := Lib.hid (show OwnI wx108 wk11.heap.size mid107 qa103 (l0) from ⟨ho, hm2⟩)
    have O110 := Lib.hid (show ROwnI 4 senc wx108 mid107 wx108.heap.size qb105 (s0) from ⟨hs, Nat.le_refl _⟩)
    have Z111 := hb.size
    have Z111a := hm1
    have Z111b := hm2
    clear hb ho hs hm1 hm2
    have hb := step_alloc wx108 (.cells #[.int .i64 kd0, .int .i64 fr0, .int .i64 tq0, .int .i64 rq0, .string ky0, .int .i64 ow0, .slice qa103 (l0).length qc104, .slice qb105 (s0).length qd106] 35)
    replace B := Lib.hid (B.out.below hb)
    replace H0 := Lib.hid (H0.out.below hb)
    replace K0 := Lib.hid (K0.out.below hb)
    replace H2 := Lib.hid (H2.out.below hb)
    replace K2 := Lib.hid (K2.out.below hb)
    replace V2 := Lib.hid (V2.out.below hb)
    replace V4 := Lib.hid (V4.out.below hb)
    replace Vk11 := Lib.hid (Vk11.out.below hb)
    replace Ok11 := Lib.hid (Ok11.out.below hb)
    replace Pk11 := Lib.hid (Pk11.out.below hb)
    replace O109 := Lib.hid (O109.out.below hb)
    replace O110 := Lib.hid (O110.out.below hb)
    clear hb
    have Z112 : wx108.heap.size < (wx108.alloc (.cells #[.int .i64 kd0, .int .i64 fr0, .int .i64 tq0, .int .i64 rq0, .string ky0, .int .i64 ow0, .slice qa103 (l0).length qc104, .slice qb105 (s0).length qd106] 35)).heap.size := by simp
    have yZ112 : (wx108.alloc (.cells #[.int .i64 kd0, .int .i64 fr0, .int .i64 tq0, .int .i64 rq0, .string ky0, .int .i64 ow0, .slice qa103 (l0).length qc104, .slice qb105 (s0).length qd106] 35)).heap.size ≤ wx108.heap.size + 1 := by simp
    have V113 := Lib.hid (Var8.new wx108 (.int .i64 kd0) (.int .i64 fr0) (.int .i64 tq0) (.int .i64 rq0) (.string ky0) (.int .i64 ow0) (.slice qa103 (l0).length qc104) (.slice qb105 (s0).length qd106) 35)
    obtain ⟨V2_c0, V2_c1, V2_c2, V2_c3, V2_c4, V2_c5, V2_c6, V2_c7, V2_l⟩ := V2.out
    obtain ⟨V4_c0, V4_c1, V4_l⟩ := V4.out
    obtain ⟨Vk11_c0, Vk11_c1, Vk11_c2, Vk11_c3, Vk11_c4, Vk11_c5, Vk11_c6, Vk11_c7, Vk11_c8, Vk11_l⟩ := Vk11.out
    obtain ⟨V113_c0, V113_c1, V113_c2, V113_c3, V113_c4, V113_c5, V113_c6, V113_c7, V113_l⟩ := V113.out
    go_wp2_with fail
    clear V2_c0 V2_c1 V2_c2 V2_c3 V2_c4 V2_c5 V2_c6 V2_c7 V2_l V4_c0 V4_c1 V4_l Vk11_c0 Vk11_c1 Vk11_c2 Vk11_c3 Vk11_c4 Vk11_c5 Vk11_c6 Vk11_c7 Vk11_c8 Vk11_l V113_c0 V113_c1 V113_c2 V113_c3 V113_c4 V113_c5 V113_c6 V113_c7 V113_l
    refine (toSet a2 b2 cap2 dap2 (l2) (s2) _ (by omega) (by omega) H2.out.at_ K2.out.at_).mono ?_
    rintro e wx119 ⟨qa114, qc115, qb116, qd117, mid118, rfl, ho, hs, hm1, hm2, hb⟩
    replace B := Lib.hid (B.out.below hb)
    replace H0 := Lib.hid (H0.out.below hb)
    replace K0 := Lib.hid (K0.out.below hb)
    replace H2 := Lib.hid (H2.out.below hb)
    replace K2 := Lib.hid (K2.out.below hb)
    replace V2 := Lib.hid (V2.out.below hb)
    replace V4 := Lib.hid (V4.out.below hb)
    replace Vk11 := Lib.hid (Vk11.out.below hb)
    replace Ok11 := Lib.hid (Ok11.out.below hb)
    replace Pk11 := Lib.hid (Pk11.out.below hb)
    replace O109 := Lib.hid (O109.out.below hb)
    replace O110 := Lib.hid (O110.out.below hb)
    replace V113 := Lib.hid (V113.out.below hb)
    have O120 := Lib.hid (show OwnI wx119 (wx108.alloc (.cells #[.int .i64 kd0, .int .i64 fr0, .int .i64 tq0, .int .i64 rq0, .string ky0, .int .i64 ow0, .slice qa103 (l0).length qc104, .slice qb105 (s0).length qd106] 35)).heap.size mid118 qa114 (l2) from ⟨ho, hm2⟩)
    have O121 := Lib.hid (show ROwnI 4 senc wx119 mid118 wx119.heap.size qb116 (s2) from ⟨hs, Nat.le_refl _⟩)
    have Z122 := hb.size
    have Z122a := hm1
    have Z122b := hm2
    clear hb ho hs hm1 hm2
    simp at Z122
    simp at Z122a
    have hb := step_alloc wx119 (.cells #[.slice qa114 (l2).length qc115, .slice qb116 (s2).length qd117] 33)
    replace B := Lib.hid (B.out.below hb)
    replace H0 := Lib.hid (H0.out.below hb)
    replace K0 := Lib.hid (K0.out.below hb)
    replace H2 := Lib.hid (H2.out.below hb)
    replace K2 := Lib.hid (K2.out.below hb)
    replace V2 := Lib.hid (V2.out.below hb)
    replace V4 := Lib.hid (V4.out.below hb)
    replace Vk11 := Lib.hid (Vk11.out.below hb)
    replace Ok11 := Lib.hid (Ok11.out.below hb)
    replace Pk11 := Lib.hid (Pk11.out.below hb)
    replace O109 := Lib.hid (O109.out.below hb)
    replace O110 := Lib.hid (O110.out.below hb)
    replace V113 := Lib.hid (V113.out.below hb)
    replace O120 := Lib.hid (O120.out.below hb)
    replace O121 := Lib.hid (O121.out.below hb)
    clear hb
    have Z123 : wx119.heap.size < (wx119.alloc (.cells #[.slice qa114 (l2).length qc115, .slice qb116 (s2).length qd117] 33)).heap.size := by simp
    have yZ123 : (wx119.alloc (.cells #[.slice qa114 (l2).length qc115, .slice qb116 (s2).length qd117] 33)).heap.size ≤ wx119.heap.size + 1 := by simp
    have V124 := Lib.hid (Var2.new wx119 (.slice qa114 (l2).length qc115) (.slice qb116 (s2).length qd117) 33)
    obtain ⟨V2_c0, V2_c1, V2_c2, V2_c3, V2_c4, V2_c5, V2_c6, V2_c7, V2_l⟩ := V2.out
    obtain ⟨V4_c0, V4_c1, V4_l⟩ := V4.out
    obtain ⟨Vk11_c0, Vk11_c1, Vk11_c2, Vk11_c3, Vk11_c4, Vk11_c5, Vk11_c6, Vk11_c7, Vk11_c8, Vk11_l⟩ := Vk11.out
    obtain ⟨V113_c0, V113_c1, V113_c2, V113_c3, V113_c4, V113_c5, V113_c6, V113_c7, V113_l⟩ := V113.out
    obtain ⟨V124_c0, V124_c1, V124_l⟩ := V124.out
    go_wp2_with fail
    clear V2_c0 V2_c1 V2_c2 V2_c3 V2_c4 V2_c5 V2_c6 V2_c7 V2_l V4_c0 V4_c1 V4_l Vk11_c0 Vk11_c1 Vk11_c2 Vk11_c3 Vk11_c4 Vk11_c5 Vk11_c6 Vk11_c7 Vk11_c8 Vk11_l V113_c0 V113_c1 V113_c2 V113_c3 V113_c4 V113_c5 V113_c6 V113_c7 V113_l V124_c0 V124_c1 V124_l
    refine (impl_msgTurn (kd0) (fr0) (tq0) (rq0) (ky0) (ow0)  (n1) qa103 qb105 qa114 qb116 qc104 qd106 qc115 qd117 (l0) (s0) (l2) (s2) _ (by unfold maxLen; omega) (by unfold maxLen; omega) (by unfold maxLen; omega) (by unfold maxLen; omega) HD0.out HD2.out HY0.out HF0.out HF2.out O109.out.at_ O110.out.at_ O120.out.at_ O121.out.at_).mono ?_
    rintro e wx130 ⟨qa125, qc126, qb127, qd128, lo1k129, hi1k129, lo2k129, hi2k129, rfl, ho, hs, g1k129, g2k129, g3k129, g4k129, g5k129, hb⟩
    replace B := Lib.hid (B.out.below hb)
    replace H0 := Lib.hid (H0.out.below hb)
    replace K0 := Lib.hid (K0.out.below hb)
    replace H2 := Lib.hid (H2.out.below hb)
    replace K2 := Lib.hid (K2.out.below hb)
    replace V2 := Lib.hid (V2.out.below hb)
    replace V4 := Lib.hid (V4.out.below hb)
    replace Vk11 := Lib.hid (Vk11.out.below hb)
    replace Ok11 := Lib.hid (Ok11.out.below hb)
    replace Pk11 := Lib.hid (Pk11.out.below hb)
    replace O109 := Lib.hid (O109.out.below hb)
    replace O110 := Lib.hid (O110.out.below hb)
    replace V113 := Lib.hid (V113.out.below hb)
    replace O120 := Lib.hid (O120.out.below hb)
    replace O121 := Lib.hid (O121.out.below hb)
    replace V124 := Lib.hid (V124.out.below hb)
    have O131 := Lib.hid (show OwnI wx130 lo1k129 hi1k129 qa125 (tnL (kd0) (fr0) (tq0) (rq0) (ky0) (ow0) (l0) (s0) (n1) (l2) (s2)) from ⟨ho, g3k129⟩)
    have O132 := Lib.hid (show ROwnI 4 senc wx130 lo2k129 hi2k129 qb127 (tnS (kd0) (fr0) (tq0) (rq0) (ky0) (ow0) (l0) (s0) (n1) (l2) (s2)) from ⟨hs, g4k129⟩)
    have Z133 := hb.size
    clear hb ho hs
    simp at Z133
    simp at g1k129
    simp at g2k129
    have hb := step_alloc wx130 (.cells #[.int .i64 (tnK (kd0) (fr0) (tq0) (rq0) (ky0) (ow0) (l0) (s0) (n1) (l2) (s2)), .int .i64 (tnF (kd0) (fr0) (tq0) (rq0) (ky0) (ow0) (l0) (s0) (n1) (l2) (s2)), .int .i64 (tnT (kd0) (fr0) (tq0) (rq0) (ky0) (ow0) (l0) (s0) (n1) (l2) (s2)), .int .i64 (tnQ (kd0) (fr0) (tq0) (rq0) (ky0) (ow0) (l0) (s0) (n1) (l2) (s2)), .string (tnY (kd0) (fr0) (tq0) (rq0) (ky0) (ow0) (l0) (s0) (n1) (l2) (s2)), .int .i64 (tnO (kd0) (fr0) (tq0) (rq0) (ky0) (ow0) (l0) (s0) (n1) (l2) (s2)), .slice qa125 (tnL (kd0) (fr0) (tq0) (rq0) (ky0) (ow0) (l0) (s0) (n1) (l2) (s2)).length qc126, .slice qb127 (tnS (kd0) (fr0) (tq0) (rq0) (ky0) (ow0) (l0) (s0) (n1) (l2) (s2)).length qd128, .int .i64 (tnC (kd0) (fr0) (tq0) (rq0) (ky0) (ow0) (l0) (s0) (n1) (l2) (s2))] 41)
    replace B := Lib.hid (B.out.below hb)
    replace H0 := Lib.hid (H0.out.below hb)
    replace K0 := Lib.hid (K0.out.below hb)
    replace H2 := Lib.hid (H2.out.below hb)
    replace K2 := Lib.hid (K2.out.below hb)
    replace V2 := Lib.hid (V2.out.below hb)
    replace V4 := Lib.hid (V4.out.below hb)
    replace Vk11 := Lib.hid (Vk11.out.below hb)
    replace Ok11 := Lib.hid (Ok11.out.below hb)
    replace Pk11 := Lib.hid (Pk11.out.below hb)
    replace O109 := Lib.hid (O109.out.below hb)
    replace O110 := Lib.hid (O110.out.below hb)
    replace V113 := Lib.hid (V113.out.below hb)
    replace O120 := Lib.hid (O120.out.below hb)
    replace O121 := Lib.hid (O121.out.below hb)
    replace V124 := Lib.hid (V124.out.below hb)
    replace O131 := Lib.hid (O131.out.below hb)
    replace O132 := Lib.hid (O132.out.below hb)
    clear hb
    have Z134 : wx130.heap.size < (wx130.alloc (.cells #[.int .i64 (tnK (kd0) (fr0) (tq0) (rq0) (ky0) (ow0) (l0) (s0) (n1) (l2) (s2)), .int .i64 (tnF (kd0) (fr0) (tq0) (rq0) (ky0) (ow0) (l0) (s0) (n1) (l2) (s2)), .int .i64 (tnT (kd0) (fr0) (tq0) (rq0) (ky0) (ow0) (l0) (s0) (n1) (l2) (s2)), .int .i64 (tnQ (kd0) (fr0) (tq0) (rq0) (ky0) (ow0) (l0) (s0) (n1) (l2) (s2)), .string (tnY (kd0) (fr0) (tq0) (rq0) (ky0) (ow0) (l0) (s0) (n1) (l2) (s2)), .int .i64 (tnO (kd0) (fr0) (tq0) (rq0) (ky0) (ow0) (l0) (s0) (n1) (l2) (s2)), .slice qa125 (tnL (kd0) (fr0) (tq0) (rq0) (ky0) (ow0) (l0) (s0) (n1) (l2) (s2)).length qc126, .slice qb127 (tnS (kd0) (fr0) (tq0) (rq0) (ky0) (ow0) (l0) (s0) (n1) (l2) (s2)).length qd128, .int .i64 (tnC (kd0) (fr0) (tq0) (rq0) (ky0) (ow0) (l0) (s0) (n1) (l2) (s2))] 41)).heap.size := by simp
    have yZ134 : (wx130.alloc (.cells #[.int .i64 (tnK (kd0) (fr0) (tq0) (rq0) (ky0) (ow0) (l0) (s0) (n1) (l2) (s2)), .int .i64 (tnF (kd0) (fr0) (tq0) (rq0) (ky0) (ow0) (l0) (s0) (n1) (l2) (s2)), .int .i64 (tnT (kd0) (fr0) (tq0) (rq0) (ky0) (ow0) (l0) (s0) (n1) (l2) (s2)), .int .i64 (tnQ (kd0) (fr0) (tq0) (rq0) (ky0) (ow0) (l0) (s0) (n1) (l2) (s2)), .string (tnY (kd0) (fr0) (tq0) (rq0) (ky0) (ow0) (l0) (s0) (n1) (l2) (s2)), .int .i64 (tnO (kd0) (fr0) (tq0) (rq0) (ky0) (ow0) (l0) (s0) (n1) (l2) (s2)), .slice qa125 (tnL (kd0) (fr0) (tq0) (rq0) (ky0) (ow0) (l0) (s0) (n1) (l2) (s2)).length qc126, .slice qb127 (tnS (kd0) (fr0) (tq0) (rq0) (ky0) (ow0) (l0) (s0) (n1) (l2) (s2)).length qd128, .int .i64 (tnC (kd0) (fr0) (tq0) (rq0) (ky0) (ow0) (l0) (s0) (n1) (l2) (s2))] 41)).heap.size ≤ wx130.heap.size + 1 := by simp
    have V135 := Lib.hid (Var9.new wx130 (.int .i64 (tnK (kd0) (fr0) (tq0) (rq0) (ky0) (ow0) (l0) (s0) (n1) (l2) (s2))) (.int .i64 (tnF (kd0) (fr0) (tq0) (rq0) (ky0) (ow0) (l0) (s0) (n1) (l2) (s2))) (.int .i64 (tnT (kd0) (fr0) (tq0) (rq0) (ky0) (ow0) (l0) (s0) (n1) (l2) (s2))) (.int .i64 (tnQ (kd0) (fr0) (tq0) (rq0) (ky0) (ow0) (l0) (s0) (n1) (l2) (s2))) (.string (tnY (kd0) (fr0) (tq0) (rq0) (ky0) (ow0) (l0) (s0) (n1) (l2) (s2))) (.int .i64 (tnO (kd0) (fr0) (tq0) (rq0) (ky0) (ow0) (l0) (s0) (n1) (l2) (s2))) (.slice qa125 (tnL (kd0) (fr0) (tq0) (rq0) (ky0) (ow0) (l0) (s0) (n1) (l2) (s2)).length qc126) (.slice qb127 (tnS (kd0) (fr0) (tq0) (rq0) (ky0) (ow0) (l0) (s0) (n1) (l2) (s2)).length qd128) (.int .i64 (tnC (kd0) (fr0) (tq0) (rq0) (ky0) (ow0) (l0) (s0) (n1) (l2) (s2))) 41)
    obtain ⟨V2_c0, V2_c1, V2_c2, V2_c3, V2_c4, V2_c5, V2_c6, V2_c7, V2_l⟩ := V2.out
    obtain ⟨V4_c0, V4_c1, V4_l⟩ := V4.out
    obtain ⟨Vk11_c0, Vk11_c1, Vk11_c2, Vk11_c3, Vk11_c4, Vk11_c5, Vk11_c6, Vk11_c7, Vk11_c8, Vk11_l⟩ := Vk11.out
    obtain ⟨V113_c0, V113_c1, V113_c2, V113_c3, V113_c4, V113_c5, V113_c6, V113_c7, V113_l⟩ := V113.out
    obtain ⟨V124_c0, V124_c1, V124_l⟩ := V124.out
    obtain ⟨V135_c0, V135_c1, V135_c2, V135_c3, V135_c4, V135_c5, V135_c6, V135_c7, V135_c8, V135_l⟩ := V135.out
    go_wp2_with fail
    clear V2_c0 V2_c1 V2_c2 V2_c3 V2_c4 V2_c5 V2_c6 V2_c7 V2_l V4_c0 V4_c1 V4_l Vk11_c0 Vk11_c1 Vk11_c2 Vk11_c3 Vk11_c4 Vk11_c5 Vk11_c6 Vk11_c7 Vk11_c8 Vk11_l V113_c0 V113_c1 V113_c2 V113_c3 V113_c4 V113_c5 V113_c6 V113_c7 V113_l V124_c0 V124_c1 V124_l V135_c0 V135_c1 V135_c2 V135_c3 V135_c4 V135_c5 V135_c6 V135_c7 V135_c8 V135_l
    refine (eqMsgOut (tnK (kd0) (fr0) (tq0) (rq0) (ky0) (ow0) (l0) (s0) (n1) (l2) (s2)) (tnF (kd0) (fr0) (tq0) (rq0) (ky0) (ow0) (l0) (s0) (n1) (l2) (s2)) (tnT (kd0) (fr0) (tq0) (rq0) (ky0) (ow0) (l0) (s0) (n1) (l2) (s2)) (tnQ (kd0) (fr0) (tq0) (rq0) (ky0) (ow0) (l0) (s0) (n1) (l2) (s2)) (tnY (kd0) (fr0) (tq0) (rq0) (ky0) (ow0) (l0) (s0) (n1) (l2) (s2)) (tnO (kd0) (fr0) (tq0) (rq0) (ky0) (ow0) (l0) (s0) (n1) (l2) (s2)) qa125 qak11 qb127 qbk11 qc126 qd128 qck11 qdk11 (tnL (kd0) (fr0) (tq0) (rq0) (ky0) (ow0) (l0) (s0) (n1) (l2) (s2)) (tnS (kd0) (fr0) (tq0) (rq0) (ky0) (ow0) (l0) (s0) (n1) (l2) (s2)) (tnC (kd0) (fr0) (tq0) (rq0) (ky0) (ow0) (l0) (s0) (n1) (l2) (s2)) _ (by unfold maxLen; omega) (by unfold maxLen; omega) O131.out.at_ Ok11.out.at_ O132.out.at_ Pk11.out.at_).mono ?_
    rintro e wx136 ⟨rfl, hb⟩
    replace B := Lib.hid (B.out.below hb)
    replace H0 := Lib.hid (H0.out.below hb)
    replace K0 := Lib.hid (K0.out.below hb)
    replace H2 := Lib.hid (H2.out.below hb)
    replace K2 := Lib.hid (K2.out.below hb)
    replace V2 := Lib.hid (V2.out.below hb)
    replace V4 := Lib.hid (V4.out.below hb)
    replace Vk11 := Lib.hid (Vk11.out.below hb)
    replace Ok11 := Lib.hid (Ok11.out.below hb)
    replace Pk11 := Lib.hid (Pk11.out.below hb)
    replace O109 := Lib.hid (O109.out.below hb)
    replace O110 := Lib.hid (O110.out.below hb)
    replace V113 := Lib.hid (V113.out.below hb)
    replace O120 := Lib.hid (O120.out.below hb)
    replace O121 := Lib.hid (O121.out.below hb)
    replace V124 := Lib.hid (V124.out.below hb)
    replace O131 := Lib.hid (O131.out.below hb)
    replace O132 := Lib.hid (O132.out.below hb)
    replace V135 := Lib.hid (V135.out.below hb)
    have Z137 := hb.size
    clear hb
    simp at Z137
    obtain ⟨V2_c0, V2_c1, V2_c2, V2_c3, V2_c4, V2_c5, V2_c6, V2_c7, V2_l⟩ := V2.out
    obtain ⟨V4_c0, V4_c1, V4_l⟩ := V4.out
    obtain ⟨Vk11_c0, Vk11_c1, Vk11_c2, Vk11_c3, Vk11_c4, Vk11_c5, Vk11_c6, Vk11_c7, Vk11_c8, Vk11_l⟩ := Vk11.out
    obtain ⟨V113_c0, V113_c1, V113_c2, V113_c3, V113_c4, V113_c5, V113_c6, V113_c7, V113_l⟩ := V113.out
    obtain ⟨V124_c0, V124_c1, V124_l⟩ := V124.out
    obtain ⟨V135_c0, V135_c1, V135_c2, V135_c3, V135_c4, V135_c5, V135_c6, V135_c7, V135_c8, V135_l⟩ := V135.out
    go_wp2_with fail
    clear V2_c0 V2_c1 V2_c2 V2_c3 V2_c4 V2_c5 V2_c6 V2_c7 V2_l V4_c0 V4_c1 V4_l Vk11_c0 Vk11_c1 Vk11_c2 Vk11_c3 Vk11_c4 Vk11_c5 Vk11_c6 Vk11_c7 Vk11_c8 Vk11_l V113_c0 V113_c1 V113_c2 V113_c3 V113_c4 V113_c5 V113_c6 V113_c7 V113_l V124_c0 V124_c1 V124_l V135_c0 V135_c1 V135_c2 V135_c3 V135_c4 V135_c5 V135_c6 V135_c7 V135_c8 V135_l
    have hb := step_drew wx136
    replace B := Lib.hid (B.out.below hb)
    replace H0 := Lib.hid (H0.out.below hb)
    replace K0 := Lib.hid (K0.out.below hb)
    replace H2 := Lib.hid (H2.out.below hb)
    replace K2 := Lib.hid (K2.out.below hb)
    replace V2 := Lib.hid (V2.out.below hb)
    replace V4 := Lib.hid (V4.out.below hb)
    replace Vk11 := Lib.hid (Vk11.out.below hb)
    replace Ok11 := Lib.hid (Ok11.out.below hb)
    replace Pk11 := Lib.hid (Pk11.out.below hb)
    replace O109 := Lib.hid (O109.out.below hb)
    replace O110 := Lib.hid (O110.out.below hb)
    replace V113 := Lib.hid (V113.out.below hb)
    replace O120 := Lib.hid (O120.out.below hb)
    replace O121 := Lib.hid (O121.out.below hb)
    replace V124 := Lib.hid (V124.out.below hb)
    replace O131 := Lib.hid (O131.out.below hb)
    replace O132 := Lib.hid (O132.out.below hb)
    replace V135 := Lib.hid (V135.out.below hb)
    clear hb
    refine wp_region_held_drew (S := (fun w' => w'.cell? ⟨wx108.heap.size, 0, none⟩ = some (.int .i64 kd0) ∧ w'.cell? ⟨wx108.heap.size, 1, none⟩ = some (.int .i64 fr0) ∧ w'.cell? ⟨wx108.heap.size, 2, none⟩ = some (.int .i64 tq0) ∧ w'.cell? ⟨wx108.heap.size, 3, none⟩ = some (.int .i64 rq0) ∧ w'.cell? ⟨wx108.heap.size, 4, none⟩ = some (.string ky0) ∧ w'.cell? ⟨wx108.heap.size, 5, none⟩ = some (.int .i64 ow0) ∧ w'.cell? ⟨wx108.heap.size, 6, none⟩ = some (.slice qa103 (l0).length qc104) ∧ w'.cell? ⟨wx108.heap.size, 7, none⟩ = some (.slice qb105 (s0).length qd106) ∧ w'.cell? ⟨w.heap.size, 0, none⟩ = some (.int .i64 kd0) ∧ w'.cell? ⟨w.heap.size, 1, none⟩ = some (.int .i64 fr0) ∧ w'.cell? ⟨w.heap.size, 2, none⟩ = some (.int .i64 tq0) ∧ w'.cell? ⟨w.heap.size, 3, none⟩ = some (.int .i64 rq0) ∧ w'.cell? ⟨w.heap.size, 4, none⟩ = some (.string ky0) ∧ w'.cell? ⟨w.heap.size, 5, none⟩ = some (.int .i64 ow0) ∧ w'.cell? ⟨w.heap.size, 6, none⟩ = some (.slice a0 l0.length cap0) ∧ w'.cell? ⟨w.heap.size, 7, none⟩ = some (.slice b0 s0.length dap0))) (by kernel_rfl) (by exact ⟨V113.out.c0, V113.out.c1, V113.out.c2, V113.out.c3, V113.out.c4, V113.out.c5, V113.out.c6, V113.out.c7, V2.out.c0, V2.out.c1, V2.out.c2, V2.out.c3, V2.out.c4, V2.out.c5, V2.out.c6, V2.out.c7⟩) (fun hHeld => ?_)
    have Z138 : wx136.heap.size ≤ wx136.drew.heap.size := Nat.le_refl _
    generalize wx136.drew = wd139 at Z138 hHeld B H0 K0 H2 K2 V2 V4 Vk11 Ok11 Pk11 O109 O110 V113 O120 O121 V124 O131 O132 V135 ⊢
    refine wpAnyH_take (i := 0) (v := ?_) rfl (by kernel_rfl) (by kernel_rfl) (by kernel_rfl) (fun _ _ _ h => h) (Or.inl ⟨by rfl, fun w hSw => by (try dsimp only at hSw); go_simp; (try with_reducible rfl)⟩) (by assumption) ?_
    try simp only [Act.put, List.setIfInBounds_toArray, List.set_cons_zero, List.set_cons_succ, List.getElem_toArray, List.getElem_cons_zero, List.getElem_cons_succ]
    refine wpAnyH_take (i := 1) (v := ?_) rfl (by kernel_rfl) (by kernel_rfl) (by kernel_rfl) (fun _ _ _ h => h) (Or.inl ⟨by rfl, fun w hSw => by (try dsimp only at hSw); go_simp; (try with_reducible rfl)⟩) (by assumption) ?_
    try simp only [Act.put, List.setIfInBounds_toArray, List.set_cons_zero, List.set_cons_succ, List.getElem_toArray, List.getElem_cons_zero, List.getElem_cons_succ]
    refine wpAnyH_ready (rs := [2]) (by kernel_rfl) (by simp) ?_
    refine AllReadyH.cons rfl (fun K hK => ?_) AllReadyH.nil
    go_simp
    refine (toMsg (kd0) (fr0) (tq0) (rq0) (ky0) (ow0) a0 b0 cap0 dap0 (l0) (s0) _ (by omega) (by omega) H0.out.at_ K0.out.at_).mono ?_
    rintro e wx145 ⟨qa140, qc141, qb142, qd143, mid144, rfl, ho, hs, hm1, hm2, hb⟩
    replace B := Lib.hid (B.out.below hb)
    replace H0 := Lib.hid (H0.out.below hb)
    replace K0 := Lib.hid (K0.out.below hb)
    replace H2 := Lib.hid (H2.out.below hb)
    replace K2 := Lib.hid (K2.out.below hb)
    replace V2 := Lib.hid (V2.out.below hb)
    replace V4 := Lib.hid (V4.out.below hb)
    replace Vk11 := Lib.hid (Vk11.out.below hb)
    replace Ok11 := Lib.hid (Ok11.out.below hb)
    replace Pk11 := Lib.hid (Pk11.out.below hb)
    replace O109 := Lib.hid (O109.out.below hb)
    replace O110 := Lib.hid (O110.out.below hb)
    replace V113 := Lib.hid (V113.out.below hb)
    replace O120 := Lib.hid (O120.out.below hb)
    replace O121 := Lib.hid (O121.out.below hb)
    replace V124 := Lib.hid (V124.out.below hb)
    replace O131 := Lib.hid (O131.out.below hb)
    replace O132 := Lib.hid (O132.out.below hb)
    replace V135 := Lib.hid (V135.out.below hb)
    have O146 := Lib.hid (show OwnI wx145 wd139.heap.size mid144 qa140 (l0) from ⟨ho, hm2⟩)
    have O147 := Lib.hid (show ROwnI 4 senc wx145 mid144 wx145.heap.size qb142 (s0) from ⟨hs, Nat.le_refl _⟩)
    have Z148 := hb.size
    have Z148a := hm1
    have Z148b := hm2
    clear hb ho hs hm1 hm2
    go_wp2_with fail
    refine hK.out _ _ (by exact ⟨V113.out.c0, V113.out.c1, V113.out.c2, V113.out.c3, V113.out.c4, V113.out.c5, V113.out.c6, V113.out.c7, V2.out.c0, V2.out.c1, V2.out.c2, V2.out.c3, V2.out.c4, V2.out.c5, V2.out.c6, V2.out.c7⟩) (fun hHeld => ?_)
    clear hK K
    try simp only [Act.put, List.setIfInBounds_toArray, List.set_cons_zero, List.set_cons_succ, List.getElem_toArray, List.getElem_cons_zero, List.getElem_cons_succ]
    refine wpAnyH_ready (rs := [3]) (by kernel_rfl) (by simp) ?_
    refine AllReadyH.cons rfl (fun K hK => ?_) AllReadyH.nil
    go_simp
    refine (eqMsg (kd0) (fr0) (tq0) (rq0) (ky0) (ow0) qa103 qa140 qb105 qb142 qc104 qd106 qc141 qd143 (l0) (s0) _ (by unfold maxLen; omega) (by unfold maxLen; omega) O109.out.at_ O146.out.at_ O110.out.at_ O147.out.at_).mono ?_
    rintro e wx149 ⟨rfl, hb⟩
    replace B := Lib.hid (B.out.below hb)
    replace H0 := Lib.hid (H0.out.below hb)
    replace K0 := Lib.hid (K0.out.below hb)
    replace H2 := Lib.hid (H2.out.below hb)
    replace K2 := Lib.hid (K2.out.below hb)
    replace V2 := Lib.hid (V2.out.below hb)
    replace V4 := Lib.hid (V4.out.below hb)
    replace Vk11 := Lib.hid (Vk11.out.below hb)
    replace Ok11 := Lib.hid (Ok11.out.below hb)
    replace Pk11 := Lib.hid (Pk11.out.below hb)
    replace O109 := Lib.hid (O109.out.below hb)
    replace O110 := Lib.hid (O110.out.below hb)
    replace V113 := Lib.hid (V113.out.below hb)
    replace O120 := Lib.hid (O120.out.below hb)
    replace O121 := Lib.hid (O121.out.below hb)
    replace V124 := Lib.hid (V124.out.below hb)
    replace O131 := Lib.hid (O131.out.below hb)
    replace O132 := Lib.hid (O132.out.below hb)
    replace V135 := Lib.hid (V135.out.below hb)
    replace O146 := Lib.hid (O146.out.below hb)
    replace O147 := Lib.hid (O147.out.below hb)
    have Z150 := hb.size
    clear hb
    go_wp2_with fail
    refine hK.out _ _ (by exact ⟨V113.out.c0, V113.out.c1, V113.out.c2, V113.out.c3, V113.out.c4, V113.out.c5, V113.out.c6, V113.out.c7, V2.out.c0, V2.out.c1, V2.out.c2, V2.out.c3, V2.out.c4, V2.out.c5, V2.out.c6, V2.out.c7⟩) (fun hHeld => ?_)
    clear hK K
    try simp only [Act.put, List.setIfInBounds_toArray, List.set_cons_zero, List.set_cons_succ, List.getElem_toArray, List.getElem_cons_zero, List.getElem_cons_succ]
    refine wpAnyH_take (i := 4) (v := ?_) rfl (by kernel_rfl) (by kernel_rfl) (by kernel_rfl) (fun _ _ _ h => h) (Or.inl ⟨by rfl, fun w hSw => by (try dsimp only at hSw); go_simp; (try with_reducible rfl)⟩) (by assumption) ?_
    try simp only [Act.put, List.setIfInBounds_toArray, List.set_cons_zero, List.set_cons_succ, List.getElem_toArray, List.getElem_cons_zero, List.getElem_cons_succ]
    refine wpAnyH_done (by kernel_rfl) ?_ _
    obtain ⟨V2_c0, V2_c1, V2_c2, V2_c3, V2_c4, V2_c5, V2_c6, V2_c7, V2_l⟩ := V2.out
    obtain ⟨V4_c0, V4_c1, V4_l⟩ := V4.out
    obtain ⟨Vk11_c0, Vk11_c1, Vk11_c2, Vk11_c3, Vk11_c4, Vk11_c5, Vk11_c6, Vk11_c7, Vk11_c8, Vk11_l⟩ := Vk11.out
    obtain ⟨V113_c0, V113_c1, V113_c2, V113_c3, V113_c4, V113_c5, V113_c6, V113_c7, V113_l⟩ := V113.out
    obtain ⟨V124_c0, V124_c1, V124_l⟩ := V124.out
    obtain ⟨V135_c0, V135_c1, V135_c2, V135_c3, V135_c4, V135_c5, V135_c6, V135_c7, V135_c8, V135_l⟩ := V135.out
    go_wp2_with fail
    clear V2_c0 V2_c1 V2_c2 V2_c3 V2_c4 V2_c5 V2_c6 V2_c7 V2_l V4_c0 V4_c1 V4_l Vk11_c0 Vk11_c1 Vk11_c2 Vk11_c3 Vk11_c4 Vk11_c5 Vk11_c6 Vk11_c7 Vk11_c8 Vk11_l V113_c0 V113_c1 V113_c2 V113_c3 V113_c4 V113_c5 V113_c6 V113_c7 V113_l V124_c0 V124_c1 V124_l V135_c0 V135_c1 V135_c2 V135_c3 V135_c4 V135_c5 V135_c6 V135_c7 V135_c8 V135_l
    have hb := step_drew wx149
    replace B := Lib.hid (B.out.below hb)
    replace H0 := Lib.hid (H0.out.below hb)
    replace K0 := Lib.hid (K0.out.below hb)
    replace H2 := Lib.hid (H2.out.below hb)
    replace K2 := Lib.hid (K2.out.below hb)
    replace V2 := Lib.hid (V2.out.below hb)
    replace V4 := Lib.hid (V4.out.below hb)
    replace Vk11 := Lib.hid (Vk11.out.below hb)
    replace Ok11 := Lib.hid (Ok11.out.below hb)
    replace Pk11 := Lib.hid (Pk11.out.below hb)
    replace O109 := Lib.hid (O109.out.below hb)
    replace O110 := Lib.hid (O110.out.below hb)
    replace V113 := Lib.hid (V113.out.below hb)
    replace O120 := Lib.hid (O120.out.below hb)
    replace O121 := Lib.hid (O121.out.below hb)
    replace V124 := Lib.hid (V124.out.below hb)
    replace O131 := Lib.hid (O131.out.below hb)
    replace O132 := Lib.hid (O132.out.below hb)
    replace V135 := Lib.hid (V135.out.below hb)
    replace O146 := Lib.hid (O146.out.below hb)
    replace O147 := Lib.hid (O147.out.below hb)
    clear hb
    refine wp_region_held_drew (S := (fun w' => w'.cell? ⟨wx119.heap.size, 0, none⟩ = some (.slice qa114 (l2).length qc115) ∧ w'.cell? ⟨wx119.heap.size, 1, none⟩ = some (.slice qb116 (s2).length qd117) ∧ w'.cell? ⟨w.heap.size + 1, 0, none⟩ = some (.slice a2 l2.length cap2) ∧ w'.cell? ⟨w.heap.size + 1, 1, none⟩ = some (.slice b2 s2.length dap2))) (by kernel_rfl) (by exact ⟨V124.out.c0, V124.out.c1, V4.out.c0, V4.out.c1⟩) (fun hHeld => ?_)
    have Z151 : wx149.heap.size ≤ wx149.drew.heap.size := Nat.le_refl _
    generalize wx149.drew = wd152 at Z151 hHeld B H0 K0 H2 K2 V2 V4 Vk11 Ok11 Pk11 O109 O110 V113 O120 O121 V124 O131 O132 V135 O146 O147 ⊢
    refine wpAnyH_take (i := 0) (v := ?_) rfl (by kernel_rfl) (by kernel_rfl) (by kernel_rfl) (fun _ _ _ h => h) (Or.inl ⟨by rfl, fun w hSw => by (try dsimp only at hSw); go_simp; (try with_reducible rfl)⟩) (by assumption) ?_
    try simp only [Act.put, List.setIfInBounds_toArray, List.set_cons_zero, List.set_cons_succ, List.getElem_toArray, List.getElem_cons_zero, List.getElem_cons_succ]
    refine wpAnyH_take (i := 1) (v := ?_) rfl (by kernel_rfl) (by kernel_rfl) (by kernel_rfl) (fun _ _ _ h => h) (Or.inl ⟨by rfl, fun w hSw => by (try dsimp only at hSw); go_simp; (try with_reducible rfl)⟩) (by assumption) ?_
    try simp only [Act.put, List.setIfInBounds_toArray, List.set_cons_zero, List.set_cons_succ, List.getElem_toArray, List.getElem_cons_zero, List.getElem_cons_succ]
    refine wpAnyH_ready (rs := [2]) (by kernel_rfl) (by simp) ?_
    refine AllReadyH.cons rfl (fun K hK => ?_) AllReadyH.nil
    go_simp
    refine (toSet a2 b2 cap2 dap2 (l2) (s2) _ (by omega) (by omega) H2.out.at_ K2.out.at_).mono ?_
    rintro e wx158 ⟨qa153, qc154, qb155, qd156, mid157, rfl, ho, hs, hm1, hm2, hb⟩
    replace B := Lib.hid (B.out.below hb)
    replace H0 := Lib.hid (H0.out.below hb)
    replace K0 := Lib.hid (K0.out.below hb)
    replace H2 := Lib.hid (H2.out.below hb)
    replace K2 := Lib.hid (K2.out.below hb)
    replace V2 := Lib.hid (V2.out.below hb)
    replace V4 := Lib.hid (V4.out.below hb)
    replace Vk11 := Lib.hid (Vk11.out.below hb)
    replace Ok11 := Lib.hid (Ok11.out.below hb)
    replace Pk11 := Lib.hid (Pk11.out.below hb)
    replace O109 := Lib.hid (O109.out.below hb)
    replace O110 := Lib.hid (O110.out.below hb)
    replace V113 := Lib.hid (V113.out.below hb)
    replace O120 := Lib.hid (O120.out.below hb)
    replace O121 := Lib.hid (O121.out.below hb)
    replace V124 := Lib.hid (V124.out.below hb)
    replace O131 := Lib.hid (O131.out.below hb)
    replace O132 := Lib.hid (O132.out.below hb)
    replace V135 := Lib.hid (V135.out.below hb)
    replace O146 := Lib.hid (O146.out.below hb)
    replace O147 := Lib.hid (O147.out.below hb)
    have O159 := Lib.hid (show OwnI wx158 wd152.heap.size mid157 qa153 (l2) from ⟨ho, hm2⟩)
    have O160 := Lib.hid (show ROwnI 4 senc wx158 mid157 wx158.heap.size qb155 (s2) from ⟨hs, Nat.le_refl _⟩)
    have Z161 := hb.size
    have Z161a := hm1
    have Z161b := hm2
    clear hb ho hs hm1 hm2
    go_wp2_with fail
    refine hK.out _ _ (by exact ⟨V124.out.c0, V124.out.c1, V4.out.c0, V4.out.c1⟩) (fun hHeld => ?_)
    clear hK K
    try simp only [Act.put, List.setIfInBounds_toArray, List.set_cons_zero, List.set_cons_succ, List.getElem_toArray, List.getElem_cons_zero, List.getElem_cons_succ]
    refine wpAnyH_ready (rs := [3]) (by kernel_rfl) (by simp) ?_
    refine AllReadyH.cons rfl (fun K hK => ?_) AllReadyH.nil
    go_simp
    refine (eqSet qa114 qa153 qb116 qb155 qc115 qd117 qc154 qd156 (l2) (s2) _ (by unfold maxLen; omega) (by unfold maxLen; omega) O120.out.at_ O159.out.at_ O121.out.at_ O160.out.at_).mono ?_
    rintro e wx162 ⟨rfl, hb⟩
    replace B := Lib.hid (B.out.below hb)
    replace H0 := Lib.hid (H0.out.below hb)
    replace K0 := Lib.hid (K0.out.below hb)
    replace H2 := Lib.hid (H2.out.below hb)
    replace K2 := Lib.hid (K2.out.below hb)
    replace V2 := Lib.hid (V2.out.below hb)
    replace V4 := Lib.hid (V4.out.below hb)
    replace Vk11 := Lib.hid (Vk11.out.below hb)
    replace Ok11 := Lib.hid (Ok11.out.below hb)
    replace Pk11 := Lib.hid (Pk11.out.below hb)
    replace O109 := Lib.hid (O109.out.below hb)
    replace O110 := Lib.hid (O110.out.below hb)
    replace V113 := Lib.hid (V113.out.below hb)
    replace O120 := Lib.hid (O120.out.below hb)
    replace O121 := Lib.hid (O121.out.below hb)
    replace V124 := Lib.hid (V124.out.below hb)
    replace O131 := Lib.hid (O131.out.below hb)
    replace O132 := Lib.hid (O132.out.below hb)
    replace V135 := Lib.hid (V135.out.below hb)
    replace O146 := Lib.hid (O146.out.below hb)
    replace O147 := Lib.hid (O147.out.below hb)
    replace O159 := Lib.hid (O159.out.below hb)
    replace O160 := Lib.hid (O160.out.below hb)
    have Z163 := hb.size
    clear hb
    go_wp2_with fail
    refine hK.out _ _ (by exact ⟨V124.out.c0, V124.out.c1, V4.out.c0, V4.out.c1⟩) (fun hHeld => ?_)
    clear hK K
    try simp only [Act.put, List.setIfInBounds_toArray, List.set_cons_zero, List.set_cons_succ, List.getElem_toArray, List.getElem_cons_zero, List.getElem_cons_succ]
    refine wpAnyH_take (i := 4) (v := ?_) rfl (by kernel_rfl) (by kernel_rfl) (by kernel_rfl) (fun _ _ _ h => h) (Or.inl ⟨by rfl, fun w hSw => by (try dsimp only at hSw); go_simp; (try with_reducible rfl)⟩) (by assumption) ?_
    try simp only [Act.put, List.setIfInBounds_toArray, List.set_cons_zero, List.set_cons_succ, List.getElem_toArray, List.getElem_cons_zero, List.getElem_cons_succ]
    refine wpAnyH_done (by kernel_rfl) ?_ _
    obtain ⟨V2_c0, V2_c1, V2_c2, V2_c3, V2_c4, V2_c5, V2_c6, V2_c7, V2_l⟩ := V2.out
    obtain ⟨V4_c0, V4_c1, V4_l⟩ := V4.out
    obtain ⟨Vk11_c0, Vk11_c1, Vk11_c2, Vk11_c3, Vk11_c4, Vk11_c5, Vk11_c6, Vk11_c7, Vk11_c8, Vk11_l⟩ := Vk11.out
    obtain ⟨V113_c0, V113_c1, V113_c2, V113_c3, V113_c4, V113_c5, V113_c6, V113_c7, V113_l⟩ := V113.out
    obtain ⟨V124_c0, V124_c1, V124_l⟩ := V124.out
    obtain ⟨V135_c0, V135_c1, V135_c2, V135_c3, V135_c4, V135_c5, V135_c6, V135_c7, V135_c8, V135_l⟩ := V135.out
    go_wp2_with fail
    clear V2_c0 V2_c1 V2_c2 V2_c3 V2_c4 V2_c5 V2_c6 V2_c7 V2_l V4_c0 V4_c1 V4_l Vk11_c0 Vk11_c1 Vk11_c2 Vk11_c3 Vk11_c4 Vk11_c5 Vk11_c6 Vk11_c7 Vk11_c8 Vk11_l V113_c0 V113_c1 V113_c2 V113_c3 V113_c4 V113_c5 V113_c6 V113_c7 V113_l V124_c0 V124_c1 V124_l V135_c0 V135_c1 V135_c2 V135_c3 V135_c4 V135_c5 V135_c6 V135_c7 V135_c8 V135_l
    refine (markMsg (1) (1) rfl (wk11.heap.size) (wx108.heap.size) wk11.heap.size mid107 mid107 wx108.heap.size (kd0) (fr0) (tq0) (rq0) (ky0) (ow0) qa103 qb105 qc104 qd106 (l0) (s0)  _ (by omega) (by omega) (by omega) (by omega) (by omega) (by omega) (by omega) (by omega) (by omega) (by omega) O109.out.1 O110.out.1).mono ?_
    rintro e wx164 ⟨rfl, ho, hs, hw⟩
    replace B := Lib.hid (B.out.within hw (by omega))
    replace H0 := Lib.hid (H0.out.within hw (by omega))
    replace K0 := Lib.hid (K0.out.within hw (by omega))
    replace H2 := Lib.hid (H2.out.within hw (by omega))
    replace K2 := Lib.hid (K2.out.within hw (by omega))
    replace V2 := Lib.hid (V2.out.within hw (by omega))
    replace V4 := Lib.hid (V4.out.within hw (by omega))
    replace Vk11 := Lib.hid (Vk11.out.within hw (by omega))
    replace Ok11 := Lib.hid (Ok11.out.within hw (by omega))
    replace Pk11 := Lib.hid (Pk11.out.within hw (by omega))
    replace V113 := Lib.hid (V113.out.within hw (by omega))
    replace O120 := Lib.hid (O120.out.within hw (by omega))
    replace O121 := Lib.hid (O121.out.within hw (by omega))
    replace V124 := Lib.hid (V124.out.within hw (by omega))
    replace O131 := Lib.hid (O131.out.within hw (by omega))
    replace O132 := Lib.hid (O132.out.within hw (by omega))
    replace V135 := Lib.hid (V135.out.within hw (by omega))
    replace O146 := Lib.hid (O146.out.within hw (by omega))
    replace O147 := Lib.hid (O147.out.within hw (by omega))
    replace O159 := Lib.hid (O159.out.within hw (by omega))
    replace O160 := Lib.hid (O160.out.within hw (by omega))
    replace O109 := Lib.hid (show OwnI wx164 wk11.heap.size mid107 qa103 (markL ((1 : Nat) : Int) (l0).length) from ⟨ho, Nat.le_trans O109.out.2 hw.size⟩)
    replace O110 := Lib.hid (show ROwnI 4 senc wx164 mid107 wx108.heap.size qb105 (sibL (1 + 2 * (l0).length) (s0).length) from ⟨hs, Nat.le_trans O110.out.2 hw.size⟩)
    have Z165 := hw.size
    clear hw ho hs
    obtain ⟨r166, hr⟩ : ∃ r : Nat, r = 1 + 2 * (l0).length + 4 * (s0).length := ⟨_, rfl⟩
    rw [← hr]
    have Er166 := Lib.hid hr
    have Lr166 : r166 ≤ 6300001 := by omega
    have Nr166 : ¬ (r166 : Int) < 0 := by omega
    have Pr166 : 0 < r166 := by omega
    clear hr
    obtain ⟨V2_c0, V2_c1, V2_c2, V2_c3, V2_c4, V2_c5, V2_c6, V2_c7, V2_l⟩ := V2.out
    obtain ⟨V4_c0, V4_c1, V4_l⟩ := V4.out
    obtain ⟨Vk11_c0, Vk11_c1, Vk11_c2, Vk11_c3, Vk11_c4, Vk11_c5, Vk11_c6, Vk11_c7, Vk11_c8, Vk11_l⟩ := Vk11.out
    obtain ⟨V113_c0, V113_c1, V113_c2, V113_c3, V113_c4, V113_c5, V113_c6, V113_c7, V113_l⟩ := V113.out
    obtain ⟨V124_c0, V124_c1, V124_l⟩ := V124.out
    obtain ⟨V135_c0, V135_c1, V135_c2, V135_c3, V135_c4, V135_c5, V135_c6, V135_c7, V135_c8, V135_l⟩ := V135.out
    go_wp2_with fail
    clear V2_c0 V2_c1 V2_c2 V2_c3 V2_c4 V2_c5 V2_c6 V2_c7 V2_l V4_c0 V4_c1 V4_l Vk11_c0 Vk11_c1 Vk11_c2 Vk11_c3 Vk11_c4 Vk11_c5 Vk11_c6 Vk11_c7 Vk11_c8 Vk11_l V113_c0 V113_c1 V113_c2 V113_c3 V113_c4 V113_c5 V113_c6 V113_c7 V113_l V124_c0 V124_c1 V124_l V135_c0 V135_c1 V135_c2 V135_c3 V135_c4 V135_c5 V135_c6 V135_c7 V135_c8 V135_l
    refine (markSetZ ((r166 : Int)) (r166) rfl (wx108.alloc (.cells #[.int .i64 kd0, .int .i64 fr0, .int .i64 tq0, .int .i64 rq0, .string ky0, .int .i64 ow0, .slice qa103 (l0).length qc104, .slice qb105 (s0).length qd106] 35)).heap.size mid118 wx119.heap.size qa114 qb116 qc115 qd117 (l2) (s2) _ (by omega) (by omega) (by omega) (by omega) (by omega) (by omega) (by omega) O120.out.1 O121.out.1).mono ?_
    rintro e wx167 ⟨rfl, ho, hs, hw⟩
    replace B := Lib.hid (B.out.within hw (by omega))
    replace H0 := Lib.hid (H0.out.within hw (by omega))
    replace K0 := Lib.hid (K0.out.within hw (by omega))
    replace H2 := Lib.hid (H2.out.within hw (by omega))
    replace K2 := Lib.hid (K2.out.within hw (by omega))
    replace V2 := Lib.hid (V2.out.within hw (by omega))
    replace V4 := Lib.hid (V4.out.within hw (by omega))
    replace Vk11 := Lib.hid (Vk11.out.within hw (by omega))
    replace Ok11 := Lib.hid (Ok11.out.within hw (by omega))
    replace Pk11 := Lib.hid (Pk11.out.within hw (by omega))
    replace O109 := Lib.hid (O109.out.within hw (by omega))
    replace O110 := Lib.hid (O110.out.within hw (by omega))
    replace V113 := Lib.hid (V113.out.within hw (by omega))
    replace V124 := Lib.hid (V124.out.within hw (by omega))
    replace O131 := Lib.hid (O131.out.within hw (by omega))
    replace O132 := Lib.hid (O132.out.within hw (by omega))
    replace V135 := Lib.hid (V135.out.within hw (by omega))
    replace O146 := Lib.hid (O146.out.within hw (by omega))
    replace O147 := Lib.hid (O147.out.within hw (by omega))
    replace O159 := Lib.hid (O159.out.within hw (by omega))
    replace O160 := Lib.hid (O160.out.within hw (by omega))
    replace O120 := Lib.hid (show OwnI wx167 (wx108.alloc (.cells #[.int .i64 kd0, .int .i64 fr0, .int .i64 tq0, .int .i64 rq0, .string ky0, .int .i64 ow0, .slice qa103 (l0).length qc104, .slice qb105 (s0).length qd106] 35)).heap.size mid118 qa114 (markL ((r166 : Nat) : Int) (l2).length) from ⟨ho, Nat.le_trans O120.out.2 hw.size⟩)
    replace O121 := Lib.hid (show ROwnI 4 senc wx167 mid118 wx119.heap.size qb116 (sibL (r166 + 2 * (l2).length) (s2).length) from ⟨hs, Nat.le_trans O121.out.2 hw.size⟩)
    have Z168 := hw.size
    clear hw ho hs
    obtain ⟨r169, hr⟩ : ∃ r : Nat, r = r166 + 2 * (l2).length + 4 * (s2).length := ⟨_, rfl⟩
    rw [← hr]
    have Er169 := Lib.hid hr
    have Lr169 : r169 ≤ 12600001 := by omega
    have Nr169 : ¬ (r169 : Int) < 0 := by omega
    have Pr169 : 0 < r169 := by omega
    clear hr
    obtain ⟨V2_c0, V2_c1, V2_c2, V2_c3, V2_c4, V2_c5, V2_c6, V2_c7, V2_l⟩ := V2.out
    obtain ⟨V4_c0, V4_c1, V4_l⟩ := V4.out
    obtain ⟨Vk11_c0, Vk11_c1, Vk11_c2, Vk11_c3, Vk11_c4, Vk11_c5, Vk11_c6, Vk11_c7, Vk11_c8, Vk11_l⟩ := Vk11.out
    obtain ⟨V113_c0, V113_c1, V113_c2, V113_c3, V113_c4, V113_c5, V113_c6, V113_c7, V113_l⟩ := V113.out
    obtain ⟨V124_c0, V124_c1, V124_l⟩ := V124.out
    obtain ⟨V135_c0, V135_c1, V135_c2, V135_c3, V135_c4, V135_c5, V135_c6, V135_c7, V135_c8, V135_l⟩ := V135.out
    go_wp2_with fail
    clear V2_c0 V2_c1 V2_c2 V2_c3 V2_c4 V2_c5 V2_c6 V2_c7 V2_l V4_c0 V4_c1 V4_l Vk11_c0 Vk11_c1 Vk11_c2 Vk11_c3 Vk11_c4 Vk11_c5 Vk11_c6 Vk11_c7 Vk11_c8 Vk11_l V113_c0 V113_c1 V113_c2 V113_c3 V113_c4 V113_c5 V113_c6 V113_c7 V113_l V124_c0 V124_c1 V124_l V135_c0 V135_c1 V135_c2 V135_c3 V135_c4 V135_c5 V135_c6 V135_c7 V135_c8 V135_l
    refine (eqMsgOut (tnK (kd0) (fr0) (tq0) (rq0) (ky0) (ow0) (l0) (s0) (n1) (l2) (s2)) (tnF (kd0) (fr0) (tq0) (rq0) (ky0) (ow0) (l0) (s0) (n1) (l2) (s2)) (tnT (kd0) (fr0) (tq0) (rq0) (ky0) (ow0) (l0) (s0) (n1) (l2) (s2)) (tnQ (kd0) (fr0) (tq0) (rq0) (ky0) (ow0) (l0) (s0) (n1) (l2) (s2)) (tnY (kd0) (fr0) (tq0) (rq0) (ky0) (ow0) (l0) (s0) (n1) (l2) (s2)) (tnO (kd0) (fr0) (tq0) (rq0) (ky0) (ow0) (l0) (s0) (n1) (l2) (s2)) qa125 qak11 qb127 qbk11 qc126 qd128 qck11 qdk11 (tnL (kd0) (fr0) (tq0) (rq0) (ky0) (ow0) (l0) (s0) (n1) (l2) (s2)) (tnS (kd0) (fr0) (tq0) (rq0) (ky0) (ow0) (l0) (s0) (n1) (l2) (s2)) (tnC (kd0) (fr0) (tq0) (rq0) (ky0) (ow0) (l0) (s0) (n1) (l2) (s2)) _ (by unfold maxLen; omega) (by unfold maxLen; omega) O131.out.at_ Ok11.out.at_ O132.out.at_ Pk11.out.at_).mono ?_
    rintro e wx170 ⟨rfl, hb⟩
    replace B := Lib.hid (B.out.below hb)
    replace H0 := Lib.hid (H0.out.below hb)
    replace K0 := Lib.hid (K0.out.below hb)
    replace H2 := Lib.hid (H2.out.below hb)
    replace K2 := Lib.hid (K2.out.below hb)
    replace V2 := Lib.hid (V2.out.below hb)
    replace V4 := Lib.hid (V4.out.below hb)
    replace Vk11 := Lib.hid (Vk11.out.below hb)
    replace Ok11 := Lib.hid (Ok11.out.below hb)
    replace Pk11 := Lib.hid (Pk11.out.below hb)
    replace O109 := Lib.hid (O109.out.below hb)
    replace O110 := Lib.hid (O110.out.below hb)
    replace V113 := Lib.hid (V113.out.below hb)
    replace O120 := Lib.hid (O120.out.below hb)
    replace O121 := Lib.hid (O121.out.below hb)
    replace V124 := Lib.hid (V124.out.below hb)
    replace O131 := Lib.hid (O131.out.below hb)
    replace O132 := Lib.hid (O132.out.below hb)
    replace V135 := Lib.hid (V135.out.below hb)
    replace O146 := Lib.hid (O146.out.below hb)
    replace O147 := Lib.hid (O147.out.below hb)
    replace O159 := Lib.hid (O159.out.below hb)
    replace O160 := Lib.hid (O160.out.below hb)
    have Z171 := hb.size
    clear hb
    obtain ⟨V2_c0, V2_c1, V2_c2, V2_c3, V2_c4, V2_c5, V2_c6, V2_c7, V2_l⟩ := V2.out
    obtain ⟨V4_c0, V4_c1, V4_l⟩ := V4.out
    obtain ⟨Vk11_c0, Vk11_c1, Vk11_c2, Vk11_c3, Vk11_c4, Vk11_c5, Vk11_c6, Vk11_c7, Vk11_c8, Vk11_l⟩ := Vk11.out
    obtain ⟨V113_c0, V113_c1, V113_c2, V113_c3, V113_c4, V113_c5, V113_c6, V113_c7, V113_l⟩ := V113.out
    obtain ⟨V124_c0, V124_c1, V124_l⟩ := V124.out
    obtain ⟨V135_c0, V135_c1, V135_c2, V135_c3, V135_c4, V135_c5, V135_c6, V135_c7, V135_c8, V135_l⟩ := V135.out
    go_wp2_with fail
    clear V2_c0 V2_c1 V2_c2 V2_c3 V2_c4 V2_c5 V2_c6 V2_c7 V2_l V4_c0 V4_c1 V4_l Vk11_c0 Vk11_c1 Vk11_c2 Vk11_c3 Vk11_c4 Vk11_c5 Vk11_c6 Vk11_c7 Vk11_c8 Vk11_l V113_c0 V113_c1 V113_c2 V113_c3 V113_c4 V113_c5 V113_c6 V113_c7 V113_l V124_c0 V124_c1 V124_l V135_c0 V135_c1 V135_c2 V135_c3 V135_c4 V135_c5 V135_c6 V135_c7 V135_c8 V135_l
    refine (markMsgOut (1) (1) rfl ((wx119.alloc (.cells #[.slice qa114 (l2).length qc115, .slice qb116 (s2).length qd117] 33)).heap.size) (wx130.heap.size) lo1k129 hi1k129 lo2k129 hi2k129 (tnK (kd0) (fr0) (tq0) (rq0) (ky0) (ow0) (l0) (s0) (n1) (l2) (s2)) (tnF (kd0) (fr0) (tq0) (rq0) (ky0) (ow0) (l0) (s0) (n1) (l2) (s2)) (tnT (kd0) (fr0) (tq0) (rq0) (ky0) (ow0) (l0) (s0) (n1) (l2) (s2)) (tnQ (kd0) (fr0) (tq0) (rq0) (ky0) (ow0) (l0) (s0) (n1) (l2) (s2)) (tnY (kd0) (fr0) (tq0) (rq0) (ky0) (ow0) (l0) (s0) (n1) (l2) (s2)) (tnO (kd0) (fr0) (tq0) (rq0) (ky0) (ow0) (l0) (s0) (n1) (l2) (s2)) qa125 qb127 qc126 qd128 (tnL (kd0) (fr0) (tq0) (rq0) (ky0) (ow0) (l0) (s0) (n1) (l2) (s2)) (tnS (kd0) (fr0) (tq0) (rq0) (ky0) (ow0) (l0) (s0) (n1) (l2) (s2)) (tnC (kd0) (fr0) (tq0) (rq0) (ky0) (ow0) (l0) (s0) (n1) (l2) (s2)) _ (by omega) (by omega) (by omega) (by omega) (by omega) (by omega) (by omega) (by omega) (by omega) (by omega) O131.out.1 O132.out.1).mono ?_
    rintro e wx172 ⟨rfl, ho, hs, hw⟩
    replace B := Lib.hid (B.out.within hw (by omega))
    replace H0 := Lib.hid (H0.out.within hw (by omega))
    replace K0 := Lib.hid (K0.out.within hw (by omega))
    replace H2 := Lib.hid (H2.out.within hw (by omega))
    replace K2 := Lib.hid (K2.out.within hw (by omega))
    replace V2 := Lib.hid (V2.out.within hw (by omega))
    replace V4 := Lib.hid (V4.out.within hw (by omega))
    replace Vk11 := Lib.hid (Vk11.out.within hw (by omega))
    replace Ok11 := Lib.hid (Ok11.out.within hw (by omega))
    replace Pk11 := Lib.hid (Pk11.out.within hw (by omega))
    replace O109 := Lib.hid (O109.out.within hw (by omega))
    replace O110 := Lib.hid (O110.out.within hw (by omega))
    replace V113 := Lib.hid (V113.out.within hw (by omega))
    replace O120 := Lib.hid (O120.out.within hw (by omega))
    replace O121 := Lib.hid (O121.out.within hw (by omega))
    replace V124 := Lib.hid (V124.out.within hw (by omega))
    replace V135 := Lib.hid (V135.out.within hw (by omega))
    replace O146 := Lib.hid (O146.out.within hw (by omega))
    replace O147 := Lib.hid (O147.out.within hw (by omega))
    replace O159 := Lib.hid (O159.out.within hw (by omega))
    replace O160 := Lib.hid (O160.out.within hw (by omega))
    replace O131 := Lib.hid (show OwnI wx172 lo1k129 hi1k129 qa125 (markL ((1 : Nat) : Int) (tnL (kd0) (fr0) (tq0) (rq0) (ky0) (ow0) (l0) (s0) (n1) (l2) (s2)).length) from ⟨ho, Nat.le_trans O131.out.2 hw.size⟩)
    replace O132 := Lib.hid (show ROwnI 4 senc wx172 lo2k129 hi2k129 qb127 (sibL (1 + 2 * (tnL (kd0) (fr0) (tq0) (rq0) (ky0) (ow0) (l0) (s0) (n1) (l2) (s2)).length) (tnS (kd0) (fr0) (tq0) (rq0) (ky0) (ow0) (l0) (s0) (n1) (l2) (s2)).length) from ⟨hs, Nat.le_trans O132.out.2 hw.size⟩)
    have Z173 := hw.size
    clear hw ho hs
    obtain ⟨r174, hr⟩ : ∃ r : Nat, r = 1 + 2 * (tnL (kd0) (fr0) (tq0) (rq0) (ky0) (ow0) (l0) (s0) (n1) (l2) (s2)).length + 4 * (tnS (kd0) (fr0) (tq0) (rq0) (ky0) (ow0) (l0) (s0) (n1) (l2) (s2)).length := ⟨_, rfl⟩
    rw [← hr]
    have Er174 := Lib.hid hr
    have Lr174 : r174 ≤ 6300001 := by omega
    have Nr174 : ¬ (r174 : Int) < 0 := by omega
    have Pr174 : 0 < r174 := by omega
    clear hr
    obtain ⟨V2_c0, V2_c1, V2_c2, V2_c3, V2_c4, V2_c5, V2_c6, V2_c7, V2_l⟩ := V2.out
    obtain ⟨V4_c0, V4_c1, V4_l⟩ := V4.out
    obtain ⟨Vk11_c0, Vk11_c1, Vk11_c2, Vk11_c3, Vk11_c4, Vk11_c5, Vk11_c6, Vk11_c7, Vk11_c8, Vk11_l⟩ := Vk11.out
    obtain ⟨V113_c0, V113_c1, V113_c2, V113_c3, V113_c4, V113_c5, V113_c6, V113_c7, V113_l⟩ := V113.out
    obtain ⟨V124_c0, V124_c1, V124_l⟩ := V124.out
    obtain ⟨V135_c0, V135_c1, V135_c2, V135_c3, V135_c4, V135_c5, V135_c6, V135_c7, V135_c8, V135_l⟩ := V135.out
    go_wp2_with fail
    clear V2_c0 V2_c1 V2_c2 V2_c3 V2_c4 V2_c5 V2_c6 V2_c7 V2_l V4_c0 V4_c1 V4_l Vk11_c0 Vk11_c1 Vk11_c2 Vk11_c3 Vk11_c4 Vk11_c5 Vk11_c6 Vk11_c7 Vk11_c8 Vk11_l V113_c0 V113_c1 V113_c2 V113_c3 V113_c4 V113_c5 V113_c6 V113_c7 V113_l V124_c0 V124_c1 V124_l V135_c0 V135_c1 V135_c2 V135_c3 V135_c4 V135_c5 V135_c6 V135_c7 V135_c8 V135_l
    refine (heldMsgOut (1) (1) rfl (tnK (kd0) (fr0) (tq0) (rq0) (ky0) (ow0) (l0) (s0) (n1) (l2) (s2)) (tnF (kd0) (fr0) (tq0) (rq0) (ky0) (ow0) (l0) (s0) (n1) (l2) (s2)) (tnT (kd0) (fr0) (tq0) (rq0) (ky0) (ow0) (l0) (s0) (n1) (l2) (s2)) (tnQ (kd0) (fr0) (tq0) (rq0) (ky0) (ow0) (l0) (s0) (n1) (l2) (s2)) (tnY (kd0) (fr0) (tq0) (rq0) (ky0) (ow0) (l0) (s0) (n1) (l2) (s2)) (tnO (kd0) (fr0) (tq0) (rq0) (ky0) (ow0) (l0) (s0) (n1) (l2) (s2)) qa125 qb127 qc126 qd128 ((tnL (kd0) (fr0) (tq0) (rq0) (ky0) (ow0) (l0) (s0) (n1) (l2) (s2)).length) ((tnS (kd0) (fr0) (tq0) (rq0) (ky0) (ow0) (l0) (s0) (n1) (l2) (s2)).length) (tnC (kd0) (fr0) (tq0) (rq0) (ky0) (ow0) (l0) (s0) (n1) (l2) (s2)) _ (by omega) (by omega) (by omega) (by omega) O131.out.at_ O132.out.at_).mono ?_
    rintro e wx175 ⟨rfl, hb⟩
    replace B := Lib.hid (B.out.below hb)
    replace H0 := Lib.hid (H0.out.below hb)
    replace K0 := Lib.hid (K0.out.below hb)
    replace H2 := Lib.hid (H2.out.below hb)
    replace K2 := Lib.hid (K2.out.below hb)
    replace V2 := Lib.hid (V2.out.below hb)
    replace V4 := Lib.hid (V4.out.below hb)
    replace Vk11 := Lib.hid (Vk11.out.below hb)
    replace Ok11 := Lib.hid (Ok11.out.below hb)
    replace Pk11 := Lib.hid (Pk11.out.below hb)
    replace O109 := Lib.hid (O109.out.below hb)
    replace O110 := Lib.hid (O110.out.below hb)
    replace V113 := Lib.hid (V113.out.below hb)
    replace O120 := Lib.hid (O120.out.below hb)
    replace O121 := Lib.hid (O121.out.below hb)
    replace V124 := Lib.hid (V124.out.below hb)
    replace O131 := Lib.hid (O131.out.below hb)
    replace O132 := Lib.hid (O132.out.below hb)
    replace V135 := Lib.hid (V135.out.below hb)
    replace O146 := Lib.hid (O146.out.below hb)
    replace O147 := Lib.hid (O147.out.below hb)
    replace O159 := Lib.hid (O159.out.below hb)
    replace O160 := Lib.hid (O160.out.below hb)
    have Z176 := hb.size
    clear hb
    rw [← Er174.out]
    obtain ⟨V2_c0, V2_c1, V2_c2, V2_c3, V2_c4, V2_c5, V2_c6, V2_c7, V2_l⟩ := V2.out
    obtain ⟨V4_c0, V4_c1, V4_l⟩ := V4.out
    obtain ⟨Vk11_c0, Vk11_c1, Vk11_c2, Vk11_c3, Vk11_c4, Vk11_c5, Vk11_c6, Vk11_c7, Vk11_c8, Vk11_l⟩ := Vk11.out
    obtain ⟨V113_c0, V113_c1, V113_c2, V113_c3, V113_c4, V113_c5, V113_c6, V113_c7, V113_l⟩ := V113.out
    obtain ⟨V124_c0, V124_c1, V124_l⟩ := V124.out
    obtain ⟨V135_c0, V135_c1, V135_c2, V135_c3, V135_c4, V135_c5, V135_c6, V135_c7, V135_c8, V135_l⟩ := V135.out
    go_upto_region 31 with fail
    clear V2_c0 V2_c1 V2_c2 V2_c3 V2_c4 V2_c5 V2_c6 V2_c7 V2_l V4_c0 V4_c1 V4_l Vk11_c0 Vk11_c1 Vk11_c2 Vk11_c3 Vk11_c4 Vk11_c5 Vk11_c6 Vk11_c7 Vk11_c8 Vk11_l V113_c0 V113_c1 V113_c2 V113_c3 V113_c4 V113_c5 V113_c6 V113_c7 V113_l V124_c0 V124_c1 V124_l V135_c0 V135_c1 V135_c2 V135_c3 V135_c4 V135_c5 V135_c6 V135_c7 V135_c8 V135_l
    go_cut [15] (fun s wx => ∃ (gg lo1 hi1 lo2 hi2 : Nat) (qa qb : Option Addr) (qc qd : Nat), s = .pointer (some ⟨gg, 0, none⟩) ∧ Var9 wx gg (.int .i64 (tnK (kd0) (fr0) (tq0) (rq0) (ky0) (ow0) (l0) (s0) (n1) (l2) (s2))) (.int .i64 (tnF (kd0) (fr0) (tq0) (rq0) (ky0) (ow0) (l0) (s0) (n1) (l2) (s2))) (.int .i64 (tnT (kd0) (fr0) (tq0) (rq0) (ky0) (ow0) (l0) (s0) (n1) (l2) (s2))) (.int .i64 (tnQ (kd0) (fr0) (tq0) (rq0) (ky0) (ow0) (l0) (s0) (n1) (l2) (s2))) (.string (tnY (kd0) (fr0) (tq0) (rq0) (ky0) (ow0) (l0) (s0) (n1) (l2) (s2))) (.int .i64 (tnO (kd0) (fr0) (tq0) (rq0) (ky0) (ow0) (l0) (s0) (n1) (l2) (s2))) (.slice qa (tnL (kd0) (fr0) (tq0) (rq0) (ky0) (ow0) (l0) (s0) (n1) (l2) (s2)).length qc) (.slice qb (tnS (kd0) (fr0) (tq0) (rq0) (ky0) (ow0) (l0) (s0) (n1) (l2) (s2)).length qd) (.int .i64 (tnC (kd0) (fr0) (tq0) (rq0) (ky0) (ow0) (l0) (s0) (n1) (l2) (s2))) ∧ OwnI wx lo1 hi1 qa (tnL (kd0) (fr0) (tq0) (rq0) (ky0) (ow0) (l0) (s0) (n1) (l2) (s2)) ∧ ROwnI 4 senc wx lo2 hi2 qb (tnS (kd0) (fr0) (tq0) (rq0) (ky0) (ow0) (l0) (s0) (n1) (l2) (s2)) ∧ Base wx175 wx ∧ wx175.heap.size ≤ lo1 ∧ wx175.heap.size ≤ lo2 ∧ (hi1 ≤ lo2 ∨ hi2 ≤ lo1) ∧ (gg < lo1 ∨ hi1 ≤ gg) ∧ (gg < lo2 ∨ hi2 ≤ gg) ∧ wx175.heap.size ≤ gg)
    case first =>
      have D := Lib.hid (show Base wx175 wx175 from Below.refl _ _)
      have hb := step_drew wx175
      replace H0 := Lib.hid (H0.out.below hb)
      replace K0 := Lib.hid (K0.out.below hb)
      replace H2 := Lib.hid (H2.out.below hb)
      replace K2 := Lib.hid (K2.out.below hb)
      replace V2 := Lib.hid (V2.out.below hb)
      replace V4 := Lib.hid (V4.out.below hb)
      replace D := Lib.hid (D.out.below hb)
      clear hb
      refine wp_region_held_drew (S := (fun w' => w'.cell? ⟨w.heap.size, 0, none⟩ = some (.int .i64 kd0) ∧ w'.cell? ⟨w.heap.size, 1, none⟩ = some (.int .i64 fr0) ∧ w'.cell? ⟨w.heap.size, 2, none⟩ = some (.int .i64 tq0) ∧ w'.cell? ⟨w.heap.size, 3, none⟩ = some (.int .i64 rq0) ∧ w'.cell? ⟨w.heap.size, 4, none⟩ = some (.string ky0) ∧ w'.cell? ⟨w.heap.size, 5, none⟩ = some (.int .i64 ow0) ∧ w'.cell? ⟨w.heap.size, 6, none⟩ = some (.slice a0 l0.length cap0) ∧ w'.cell? ⟨w.heap.size, 7, none⟩ = some (.slice b0 s0.length dap0) ∧ w'.cell? ⟨w.heap.size + 1, 0, none⟩ = some (.slice a2 l2.length cap2) ∧ w'.cell? ⟨w.heap.size + 1, 1, none⟩ = some (.slice b2 s2.length dap2))) (by kernel_rfl) (by exact ⟨V2.out.c0, V2.out.c1, V2.out.c2, V2.out.c3, V2.out.c4, V2.out.c5, V2.out.c6, V2.out.c7, V4.out.c0, V4.out.c1⟩) (fun hHeld => ?_)
      have Z178 : wx175.heap.size ≤ wx175.drew.heap.size := Nat.le_refl _
      generalize wx175.drew = wd179 at Z178 hHeld H0 K0 H2 K2 V2 V4 D ⊢
      refine wpAnyH_take (i := 0) (v := ?_) rfl (by kernel_rfl) (by kernel_rfl) (by kernel_rfl) (fun _ _ _ h => h) (Or.inl ⟨by rfl, fun w hSw => by (try dsimp only at hSw); go_simp; (try with_reducible rfl)⟩) (by assumption) ?_
      try simp only [Act.put, List.setIfInBounds_toArray, List.set_cons_zero, List.set_cons_succ, List.getElem_toArray, List.getElem_cons_zero, List.getElem_cons_succ]
      refine wpAnyH_take (i := 2) (v := ?_) rfl (by kernel_rfl) (by kernel_rfl) (by kernel_rfl) (fun _ _ _ h => h) (Or.inl ⟨by rfl, fun w hSw => by (try dsimp only at hSw); go_simp; (try with_reducible rfl)⟩) (by assumption) ?_
      try simp only [Act.put, List.setIfInBounds_toArray, List.set_cons_zero, List.set_cons_succ, List.getElem_toArray, List.getElem_cons_zero, List.getElem_cons_succ]
      refine wpAnyH_take (i := 3) (v := ?_) rfl (by kernel_rfl) (by kernel_rfl) (by kernel_rfl) (fun _ _ _ h => h) (Or.inl ⟨by rfl, fun w hSw => by (try dsimp only at hSw); go_simp; (try with_reducible rfl)⟩) (by assumption) ?_
      try simp only [Act.put, List.setIfInBounds_toArray, List.set_cons_zero, List.set_cons_succ, List.getElem_toArray, List.getElem_cons_zero, List.getElem_cons_succ]
      refine wpAnyH_ready (rs := [1, 6]) (by kernel_rfl) (by simp) ?_
      refine AllReadyH.cons rfl (fun K hK => ?_) ?_
      · go_simp
        refine (toMsg (kd0) (fr0) (tq0) (rq0) (ky0) (ow0) a0 b0 cap0 dap0 (l0) (s0) _ (by omega) (by omega) H0.out.at_ K0.out.at_).mono ?_
        rintro e wx185 ⟨qa180, qc181, qb182, qd183, mid184, rfl, ho, hs, hm1, hm2, hb⟩
        replace H0 := Lib.hid (H0.out.below hb)
        replace K0 := Lib.hid (K0.out.below hb)
        replace H2 := Lib.hid (H2.out.below hb)
        replace K2 := Lib.hid (K2.out.below hb)
        replace V2 := Lib.hid (V2.out.below hb)
        replace V4 := Lib.hid (V4.out.below hb)
        replace D := Lib.hid (D.out.below hb)
        have O186 := Lib.hid (show OwnI wx185 wd179.heap.size mid184 qa180 (l0) from ⟨ho, hm2⟩)
        have O187 := Lib.hid (show ROwnI 4 senc wx185 mid184 wx185.heap.size qb182 (s0) from ⟨hs, Nat.le_refl _⟩)
        have Z188 := hb.size
        have Z188a := hm1
        have Z188b := hm2
        clear hb ho hs hm1 hm2
        go_wp2_with fail
        refine hK.out _ _ (by exact ⟨V2.out.c0, V2.out.c1, V2.out.c2, V2.out.c3, V2.out.c4, V2.out.c5, V2.out.c6, V2.out.c7, V4.out.c0, V4.out.c1⟩) (fun hHeld => ?_)
        clear hK K
        try simp only [Act.put, List.setIfInBounds_toArray, List.set_cons_zero, List.set_cons_succ, List.getElem_toArray, List.getElem_cons_zero, List.getElem_cons_succ]
        refine wpAnyH_ready (rs := [4, 6]) (by kernel_rfl) (by simp) ?_
        refine AllReadyH.cons rfl (fun K hK => ?_) ?_
        · go_simp
          refine (toSet a2 b2 cap2 dap2 (l2) (s2) _ (by omega) (by omega) H2.out.at_ K2.out.at_).mono ?_
          rintro e wx194 ⟨qa189, qc190, qb191, qd192, mid193, rfl, ho, hs, hm1, hm2, hb⟩
          replace H0 := Lib.hid (H0.out.below hb)
          replace K0 := Lib.hid (K0.out.below hb)
          replace H2 := Lib.hid (H2.out.below hb)
          replace K2 := Lib.hid (K2.out.below hb)
          replace V2 := Lib.hid (V2.out.below hb)
          replace V4 := Lib.hid (V4.out.below hb)
          replace D := Lib.hid (D.out.below hb)
          replace O186 := Lib.hid (O186.out.below hb)
          replace O187 := Lib.hid (O187.out.below hb)
          have O195 := Lib.hid (show OwnI wx194 wx185.heap.size mid193 qa189 (l2) from ⟨ho, hm2⟩)
          have O196 := Lib.hid (show ROwnI 4 senc wx194 mid193 wx194.heap.size qb191 (s2) from ⟨hs, Nat.le_refl _⟩)
          have Z197 := hb.size
          have Z197a := hm1
          have Z197b := hm2
          clear hb ho hs hm1 hm2
          go_wp2_with fail
          refine hK.out _ _ (by exact ⟨V2.out.c0, V2.out.c1, V2.out.c2, V2.out.c3, V2.out.c4, V2.out.c5, V2.out.c6, V2.out.c7, V4.out.c0, V4.out.c1⟩) (fun hHeld => ?_)
          clear hK K
          try simp only [Act.put, List.setIfInBounds_toArray, List.set_cons_zero, List.set_cons_succ, List.getElem_toArray, List.getElem_cons_zero, List.getElem_cons_succ]
          refine wpAnyH_ready (rs := [5, 6]) (by kernel_rfl) (by simp) ?_
          refine AllReadyH.cons rfl (fun K hK => ?_) ?_
          · go_simp
            refine (impl_msgTurn (kd0) (fr0) (tq0) (rq0) (ky0) (ow0)  (n1) qa180 qb182 qa189 qb191 qc181 qd183 qc190 qd192 (l0) (s0) (l2) (s2) _ (by unfold maxLen; omega) (by unfold maxLen; omega) (by unfold maxLen; omega) (by unfold maxLen; omega) HD0.out HD2.out HY0.out HF0.out HF2.out O186.out.at_ O187.out.at_ O195.out.at_ O196.out.at_).mono ?_
            rintro e wx203 ⟨qa198, qc199, qb200, qd201, lo1k202, hi1k202, lo2k202, hi2k202, rfl, ho, hs, g1k202, g2k202, g3k202, g4k202, g5k202, hb⟩
            replace H0 := Lib.hid (H0.out.below hb)
            replace K0 := Lib.hid (K0.out.below hb)
            replace H2 := Lib.hid (H2.out.below hb)
            replace K2 := Lib.hid (K2.out.below hb)
            replace V2 := Lib.hid (V2.out.below hb)
            replace V4 := Lib.hid (V4.out.below hb)
            replace D := Lib.hid (D.out.below hb)
            replace O186 := Lib.hid (O186.out.below hb)
            replace O187 := Lib.hid (O187.out.below hb)
            replace O195 := Lib.hid (O195.out.below hb)
            replace O196 := Lib.hid (O196.out.below hb)
            have O204 := Lib.hid (show OwnI wx203 lo1k202 hi1k202 qa198 (tnL (kd0) (fr0) (tq0) (rq0) (ky0) (ow0) (l0) (s0) (n1) (l2) (s2)) from ⟨ho, g3k202⟩)
            have O205 := Lib.hid (show ROwnI 4 senc wx203 lo2k202 hi2k202 qb200 (tnS (kd0) (fr0) (tq0) (rq0) (ky0) (ow0) (l0) (s0) (n1) (l2) (s2)) from ⟨hs, g4k202⟩)
            have Z206 := hb.size
            clear hb ho hs
            go_wp2_with fail
            refine hK.out _ _ (by exact ⟨V2.out.c0, V2.out.c1, V2.out.c2, V2.out.c3, V2.out.c4, V2.out.c5, V2.out.c6, V2.out.c7, V4.out.c0, V4.out.c1⟩) (fun hHeld => ?_)
            clear hK K
            try simp only [Act.put, List.setIfInBounds_toArray, List.set_cons_zero, List.set_cons_succ, List.getElem_toArray, List.getElem_cons_zero, List.getElem_cons_succ]
            refine wpAnyH_ready (rs := [6]) (by kernel_rfl) (by simp) ?_
            refine AllReadyH.cons rfl (fun K hK => ?_) AllReadyH.nil
            go_simp
            have hb := step_alloc wx203 (.cells #[.int .i64 0, .int .i64 0, .int .i64 0, .int .i64 0, .string ⟨#[]⟩, .int .i64 0, .slice none 0 0, .slice none 0 0, .int .i64 0] 41)
            replace H0 := Lib.hid (H0.out.below hb)
            replace K0 := Lib.hid (K0.out.below hb)
            replace H2 := Lib.hid (H2.out.below hb)
            replace K2 := Lib.hid (K2.out.below hb)
            replace V2 := Lib.hid (V2.out.below hb)
            replace V4 := Lib.hid (V4.out.below hb)
            replace D := Lib.hid (D.out.below hb)
            replace O186 := Lib.hid (O186.out.below hb)
            replace O187 := Lib.hid (O187.out.below hb)
            replace O195 := Lib.hid (O195.out.below hb)
            replace O196 := Lib.hid (O196.out.below hb)
            replace O204 := Lib.hid (O204.out.below hb)
            replace O205 := Lib.hid (O205.out.below hb)
            clear hb
            have NV := Lib.hid (New9.new wx203 (.int .i64 0) (.int .i64 0) (.int .i64 0) (.int .i64 0) (.string ⟨#[]⟩) (.int .i64 0) (.slice none 0 0) (.slice none 0 0) (.int .i64 0) 41)
            have Z207 : wx203.heap.size < (wx203.alloc (.cells #[.int .i64 0, .int .i64 0, .int .i64 0, .int .i64 0, .string ⟨#[]⟩, .int .i64 0, .slice none 0 0, .slice none 0 0, .int .i64 0] 41)).heap.size := by simp
            obtain ⟨gb, hgb⟩ : ∃ gb, gb = wx203.heap.size := ⟨_, rfl⟩
            have QaZ207 : wx203.heap.size ≤ gb := by omega
            have QbZ207 : gb < (wx203.alloc (.cells #[.int .i64 0, .int .i64 0, .int .i64 0, .int .i64 0, .string ⟨#[]⟩, .int .i64 0, .slice none 0 0, .slice none 0 0, .int .i64 0] 41)).heap.size := by omega
            rw [← hgb] at NV ⊢
            clear hgb
            generalize wx203.alloc (.cells #[.int .i64 0, .int .i64 0, .int .i64 0, .int .i64 0, .string ⟨#[]⟩, .int .i64 0, .slice none 0 0, .slice none 0 0, .int .i64 0] 41) = wx208 at NV Z207 QbZ207 H0 K0 H2 K2 V2 V4 D O186 O187 O195 O196 O204 O205 ⊢
            refine hK.out _ _ (by exact ⟨V2.out.c0, V2.out.c1, V2.out.c2, V2.out.c3, V2.out.c4, V2.out.c5, V2.out.c6, V2.out.c7, V4.out.c0, V4.out.c1⟩) (fun hHeld => ?_)
            clear hK K
            try simp only [Act.put, List.setIfInBounds_toArray, List.set_cons_zero, List.set_cons_succ, List.getElem_toArray, List.getElem_cons_zero, List.getElem_cons_succ]
            obtain ⟨nv0, nv1, nv2, nv3, nv4, nv5, nv6, nv7, nv8, nf0, nf1, nf2, nf3, nf4, nf5, nf6, nf7, nf8, nl⟩ := NV.out.all
            refine wpAnyH_ready (rs := [7]) (by kernel_rfl) (by simp) ?_
            refine AllReadyH.cons rfl (fun K hK => ?_) AllReadyH.nil
            go_simp
            have hw := within_set9 wx208 gb (.int .i64 (tnK (kd0) (fr0) (tq0) (rq0) (ky0) (ow0) (l0) (s0) (n1) (l2) (s2))) (.int .i64 (tnF (kd0) (fr0) (tq0) (rq0) (ky0) (ow0) (l0) (s0) (n1) (l2) (s2))) (.int .i64 (tnT (kd0) (fr0) (tq0) (rq0) (ky0) (ow0) (l0) (s0) (n1) (l2) (s2))) (.int .i64 (tnQ (kd0) (fr0) (tq0) (rq0) (ky0) (ow0) (l0) (s0) (n1) (l2) (s2))) (.string (tnY (kd0) (fr0) (tq0) (rq0) (ky0) (ow0) (l0) (s0) (n1) (l2) (s2))) (.int .i64 (tnO (kd0) (fr0) (tq0) (rq0) (ky0) (ow0) (l0) (s0) (n1) (l2) (s2))) (.slice qa198 (tnL (kd0) (fr0) (tq0) (rq0) (ky0) (ow0) (l0) (s0) (n1) (l2) (s2)).length qc199) (.slice qb200 (tnS (kd0) (fr0) (tq0) (rq0) (ky0) (ow0) (l0) (s0) (n1) (l2) (s2)).length qd201) (.int .i64 (tnC (kd0) (fr0) (tq0) (rq0) (ky0) (ow0) (l0) (s0) (n1) (l2) (s2)))
            have VV := NV.out.store (.int .i64 (tnK (kd0) (fr0) (tq0) (rq0) (ky0) (ow0) (l0) (s0) (n1) (l2) (s2))) (.int .i64 (tnF (kd0) (fr0) (tq0) (rq0) (ky0) (ow0) (l0) (s0) (n1) (l2) (s2))) (.int .i64 (tnT (kd0) (fr0) (tq0) (rq0) (ky0) (ow0) (l0) (s0) (n1) (l2) (s2))) (.int .i64 (tnQ (kd0) (fr0) (tq0) (rq0) (ky0) (ow0) (l0) (s0) (n1) (l2) (s2))) (.string (tnY (kd0) (fr0) (tq0) (rq0) (ky0) (ow0) (l0) (s0) (n1) (l2) (s2))) (.int .i64 (tnO (kd0) (fr0) (tq0) (rq0) (ky0) (ow0) (l0) (s0) (n1) (l2) (s2))) (.slice qa198 (tnL (kd0) (fr0) (tq0) (rq0) (ky0) (ow0) (l0) (s0) (n1) (l2) (s2)).length qc199) (.slice qb200 (tnS (kd0) (fr0) (tq0) (rq0) (ky0) (ow0) (l0) (s0) (n1) (l2) (s2)).length qd201) (.int .i64 (tnC (kd0) (fr0) (tq0) (rq0) (ky0) (ow0) (l0) (s0) (n1) (l2) (s2)))
            replace H0 := Lib.hid (H0.out.within hw (by omega))
            replace K0 := Lib.hid (K0.out.within hw (by omega))
            replace H2 := Lib.hid (H2.out.within hw (by omega))
            replace K2 := Lib.hid (K2.out.within hw (by omega))
            replace V2 := Lib.hid (V2.out.within hw (by omega))
            replace V4 := Lib.hid (V4.out.within hw (by omega))
            replace D := Lib.hid (D.out.within hw (by omega))
            replace O186 := Lib.hid (O186.out.within hw (by omega))
            replace O187 := Lib.hid (O187.out.within hw (by omega))
            replace O195 := Lib.hid (O195.out.within hw (by omega))
            replace O196 := Lib.hid (O196.out.within hw (by omega))
            replace O204 := Lib.hid (O204.out.within hw (by omega))
            replace O205 := Lib.hid (O205.out.within hw (by omega))
            refine hK.out _ _ (by exact ⟨V2.out.c0, V2.out.c1, V2.out.c2, V2.out.c3, V2.out.c4, V2.out.c5, V2.out.c6, V2.out.c7, V4.out.c0, V4.out.c1⟩) (fun hHeld => ?_)
            refine wpAnyH_done (by kernel_rfl) ?_ _
            go_wp2_with fail
            go_meet
            exact ⟨gb, _, _, _, _, qa198, qb200, qc199, qd201, rfl, VV, O204.out, O205.out, D.out, by omega, by omega, by omega, by omega, by omega, by omega⟩
          refine AllReadyH.cons rfl (fun K hK => ?_) ?_
          · go_simp
            have hb := step_alloc wx194 (.cells #[.int .i64 0, .int .i64 0, .int .i64 0, .int .i64 0, .string ⟨#[]⟩, .int .i64 0, .slice none 0 0, .slice none 0 0, .int .i64 0] 41)
            replace H0 := Lib.hid (H0.out.below hb)
            replace K0 := Lib.hid (K0.out.below hb)
            replace H2 := Lib.hid (H2.out.below hb)
            replace K2 := Lib.hid (K2.out.below hb)
            replace V2 := Lib.hid (V2.out.below hb)
            replace V4 := Lib.hid (V4.out.below hb)
            replace D := Lib.hid (D.out.below hb)
            replace O186 := Lib.hid (O186.out.below hb)
            replace O187 := Lib.hid (O187.out.below hb)
            replace O195 := Lib.hid (O195.out.below hb)
            replace O196 := Lib.hid (O196.out.below hb)
            clear hb
            have NV := Lib.hid (New9.new wx194 (.int .i64 0) (.int .i64 0) (.int .i64 0) (.int .i64 0) (.string ⟨#[]⟩) (.int .i64 0) (.slice none 0 0) (.slice none 0 0) (.int .i64 0) 41)
            have Z209 : wx194.heap.size < (wx194.alloc (.cells #[.int .i64 0, .int .i64 0, .int .i64 0, .int .i64 0, .string ⟨#[]⟩, .int .i64 0, .slice none 0 0, .slice none 0 0, .int .i64 0] 41)).heap.size := by simp
            obtain ⟨gb, hgb⟩ : ∃ gb, gb = wx194.heap.size := ⟨_, rfl⟩
            have QaZ209 : wx194.heap.size ≤ gb := by omega
            have QbZ209 : gb < (wx194.alloc (.cells #[.int .i64 0, .int .i64 0, .int .i64 0, .int .i64 0, .string ⟨#[]⟩, .int .i64 0, .slice none 0 0, .slice none 0 0, .int .i64 0] 41)).heap.size := by omega
            rw [← hgb] at NV ⊢
            clear hgb
            generalize wx194.alloc (.cells #[.int .i64 0, .int .i64 0, .int .i64 0, .int .i64 0, .string ⟨#[]⟩, .int .i64 0, .slice none 0 0, .slice none 0 0, .int .i64 0] 41) = wx210 at NV Z209 QbZ209 H0 K0 H2 K2 V2 V4 D O186 O187 O195 O196 ⊢
            refine hK.out _ _ (by exact ⟨V2.out.c0, V2.out.c1, V2.out.c2, V2.out.c3, V2.out.c4, V2.out.c5, V2.out.c6, V2.out.c7, V4.out.c0, V4.out.c1⟩) (fun hHeld => ?_)
            clear hK K
            try simp only [Act.put, List.setIfInBounds_toArray, List.set_cons_zero, List.set_cons_succ, List.getElem_toArray, List.getElem_cons_zero, List.getElem_cons_succ]
            refine wpAnyH_ready (rs := [5]) (by kernel_rfl) (by simp) ?_
            refine AllReadyH.cons rfl (fun K hK => ?_) AllReadyH.nil
            go_simp
            refine (impl_msgTurn (kd0) (fr0) (tq0) (rq0) (ky0) (ow0)  (n1) qa180 qb182 qa189 qb191 qc181 qd183 qc190 qd192 (l0) (s0) (l2) (s2) _ (by unfold maxLen; omega) (by unfold maxLen; omega) (by unfold maxLen; omega) (by unfold maxLen; omega) HD0.out HD2.out HY0.out HF0.out HF2.out O186.out.at_ O187.out.at_ O195.out.at_ O196.out.at_).mono ?_
            rintro e wx216 ⟨qa211, qc212, qb213, qd214, lo1k215, hi1k215, lo2k215, hi2k215, rfl, ho, hs, g1k215, g2k215, g3k215, g4k215, g5k215, hb⟩
            replace H0 := Lib.hid (H0.out.below hb)
            replace K0 := Lib.hid (K0.out.below hb)
            replace H2 := Lib.hid (H2.out.below hb)
            replace K2 := Lib.hid (K2.out.below hb)
            replace V2 := Lib.hid (V2.out.below hb)
            replace V4 := Lib.hid (V4.out.below hb)
            replace D := Lib.hid (D.out.below hb)
            replace O186 := Lib.hid (O186.out.below hb)
            replace O187 := Lib.hid (O187.out.below hb)
            replace O195 := Lib.hid (O195.out.below hb)
            replace O196 := Lib.hid (O196.out.below hb)
            replace NV := Lib.hid (NV.out.below hb)
            have O217 := Lib.hid (show OwnI wx216 lo1k215 hi1k215 qa211 (tnL (kd0) (fr0) (tq0) (rq0) (ky0) (ow0) (l0) (s0) (n1) (l2) (s2)) from ⟨ho, g3k215⟩)
            have O218 := Lib.hid (show ROwnI 4 senc wx216 lo2k215 hi2k215 qb213 (tnS (kd0) (fr0) (tq0) (rq0) (ky0) (ow0) (l0) (s0) (n1) (l2) (s2)) from ⟨hs, g4k215⟩)
            have Z219 := hb.size
            clear hb ho hs
            go_wp2_with fail
            refine hK.out _ _ (by exact ⟨V2.out.c0, V2.out.c1, V2.out.c2, V2.out.c3, V2.out.c4, V2.out.c5, V2.out.c6, V2.out.c7, V4.out.c0, V4.out.c1⟩) (fun hHeld => ?_)
            clear hK K
            try simp only [Act.put, List.setIfInBounds_toArray, List.set_cons_zero, List.set_cons_succ, List.getElem_toArray, List.getElem_cons_zero, List.getElem_cons_succ]
            obtain ⟨nv0, nv1, nv2, nv3, nv4, nv5, nv6, nv7, nv8, nf0, nf1, nf2, nf3, nf4, nf5, nf6, nf7, nf8, nl⟩ := NV.out.all
            refine wpAnyH_ready (rs := [7]) (by kernel_rfl) (by simp) ?_
            refine AllReadyH.cons rfl (fun K hK => ?_) AllReadyH.nil
            go_simp
            have hw := within_set9 wx216 gb (.int .i64 (tnK (kd0) (fr0) (tq0) (rq0) (ky0) (ow0) (l0) (s0) (n1) (l2) (s2))) (.int .i64 (tnF (kd0) (fr0) (tq0) (rq0) (ky0) (ow0) (l0) (s0) (n1) (l2) (s2))) (.int .i64 (tnT (kd0) (fr0) (tq0) (rq0) (ky0) (ow0) (l0) (s0) (n1) (l2) (s2))) (.int .i64 (tnQ (kd0) (fr0) (tq0) (rq0) (ky0) (ow0) (l0) (s0) (n1) (l2) (s2))) (.string (tnY (kd0) (fr0) (tq0) (rq0) (ky0) (ow0) (l0) (s0) (n1) (l2) (s2))) (.int .i64 (tnO (kd0) (fr0) (tq0) (rq0) (ky0) (ow0) (l0) (s0) (n1) (l2) (s2))) (.slice qa211 (tnL (kd0) (fr0) (tq0) (rq0) (ky0) (ow0) (l0) (s0) (n1) (l2) (s2)).length qc212) (.slice qb213 (tnS (kd0) (fr0) (tq0) (rq0) (ky0) (ow0) (l0) (s0) (n1) (l2) (s2)).length qd214) (.int .i64 (tnC (kd0) (fr0) (tq0) (rq0) (ky0) (ow0) (l0) (s0) (n1) (l2) (s2)))
            have VV := NV.out.store (.int .i64 (tnK (kd0) (fr0) (tq0) (rq0) (ky0) (ow0) (l0) (s0) (n1) (l2) (s2))) (.int .i64 (tnF (kd0) (fr0) (tq0) (rq0) (ky0) (ow0) (l0) (s0) (n1) (l2) (s2))) (.int .i64 (tnT (kd0) (fr0) (tq0) (rq0) (ky0) (ow0) (l0) (s0) (n1) (l2) (s2))) (.int .i64 (tnQ (kd0) (fr0) (tq0) (rq0) (ky0) (ow0) (l0) (s0) (n1) (l2) (s2))) (.string (tnY (kd0) (fr0) (tq0) (rq0) (ky0) (ow0) (l0) (s0) (n1) (l2) (s2))) (.int .i64 (tnO (kd0) (fr0) (tq0) (rq0) (ky0) (ow0) (l0) (s0) (n1) (l2) (s2))) (.slice qa211 (tnL (kd0) (fr0) (tq0) (rq0) (ky0) (ow0) (l0) (s0) (n1) (l2) (s2)).length qc212) (.slice qb213 (tnS (kd0) (fr0) (tq0) (rq0) (ky0) (ow0) (l0) (s0) (n1) (l2) (s2)).length qd214) (.int .i64 (tnC (kd0) (fr0) (tq0) (rq0) (ky0) (ow0) (l0) (s0) (n1) (l2) (s2)))
            replace H0 := Lib.hid (H0.out.within hw (by omega))
            replace K0 := Lib.hid (K0.out.within hw (by omega))
            replace H2 := Lib.hid (H2.out.within hw (by omega))
            replace K2 := Lib.hid (K2.out.within hw (by omega))
            replace V2 := Lib.hid (V2.out.within hw (by omega))
            replace V4 := Lib.hid (V4.out.within hw (by omega))
            replace D := Lib.hid (D.out.within hw (by omega))
            replace O186 := Lib.hid (O186.out.within hw (by omega))
            replace O187 := Lib.hid (O187.out.within hw (by omega))
            replace O195 := Lib.hid (O195.out.within hw (by omega))
            replace O196 := Lib.hid (O196.out.within hw (by omega))
            replace O217 := Lib.hid (O217.out.within hw (by omega))
            replace O218 := Lib.hid (O218.out.within hw (by omega))
            refine hK.out _ _ (by exact ⟨V2.out.c0, V2.out.c1, V2.out.c2, V2.out.c3, V2.out.c4, V2.out.c5, V2.out.c6, V2.out.c7, V4.out.c0, V4.out.c1⟩) (fun hHeld => ?_)
            refine wpAnyH_done (by kernel_rfl) ?_ _
            go_wp2_with fail
            go_meet
            exact ⟨gb, _, _, _, _, qa211, qb213, qc212, qd214, rfl, VV, O217.out, O218.out, D.out, by omega, by omega, by omega, by omega, by omega, by omega⟩
          exact AllReadyH.nil
        refine AllReadyH.cons rfl (fun K hK => ?_) ?_
        · go_simp
          have hb := step_alloc wx185 (.cells #[.int .i64 0, .int .i64 0, .int .i64 0, .int .i64 0, .string ⟨#[]⟩, .int .i64 0, .slice none 0 0, .slice none 0 0, .int .i64 0] 41)
          replace H0 := Lib.hid (H0.out.below hb)
          replace K0 := Lib.hid (K0.out.below hb)
          replace H2 := Lib.hid (H2.out.below hb)
          replace K2 := Lib.hid (K2.out.below hb)
          replace V2 := Lib.hid (V2.out.below hb)
          replace V4 := Lib.hid (V4.out.below hb)
          replace D := Lib.hid (D.out.below hb)
          replace O186 := Lib.hid (O186.out.below hb)
          replace O187 := Lib.hid (O187.out.below hb)
          clear hb
          have NV := Lib.hid (New9.new wx185 (.int .i64 0) (.int .i64 0) (.int .i64 0) (.int .i64 0) (.string ⟨#[]⟩) (.int .i64 0) (.slice none 0 0) (.slice none 0 0) (.int .i64 0) 41)
          have Z220 : wx185.heap.size < (wx185.alloc (.cells #[.int .i64 0, .int .i64 0, .int .i64 0, .int .i64 0, .string ⟨#[]⟩, .int .i64 0, .slice none 0 0, .slice none 0 0, .int .i64 0] 41)).heap.size := by simp
          obtain ⟨gb, hgb⟩ : ∃ gb, gb = wx185.heap.size := ⟨_, rfl⟩
          have QaZ220 : wx185.heap.size ≤ gb := by omega
          have QbZ220 : gb < (wx185.alloc (.cells #[.int .i64 0, .int .i64 0, .int .i64 0, .int .i64 0, .string ⟨#[]⟩, .int .i64 0, .slice none 0 0, .slice none 0 0, .int .i64 0] 41)).heap.size := by omega
          rw [← hgb] at NV ⊢
          clear hgb
          generalize wx185.alloc (.cells #[.int .i64 0, .int .i64 0, .int .i64 0, .int .i64 0, .string ⟨#[]⟩, .int .i64 0, .slice none 0 0, .slice none 0 0, .int .i64 0] 41) = wx221 at NV Z220 QbZ220 H0 K0 H2 K2 V2 V4 D O186 O187 ⊢
          refine hK.out _ _ (by exact ⟨V2.out.c0, V2.out.c1, V2.out.c2, V2.out.c3, V2.out.c4, V2.out.c5, V2.out.c6, V2.out.c7, V4.out.c0, V4.out.c1⟩) (fun hHeld => ?_)
          clear hK K
          try simp only [Act.put, List.setIfInBounds_toArray, List.set_cons_zero, List.set_cons_succ, List.getElem_toArray, List.getElem_cons_zero, List.getElem_cons_succ]
          refine wpAnyH_ready (rs := [4]) (by kernel_rfl) (by simp) ?_
          refine AllReadyH.cons rfl (fun K hK => ?_) AllReadyH.nil
          go_simp
          refine (toSet a2 b2 cap2 dap2 (l2) (s2) _ (by omega) (by omega) H2.out.at_ K2.out.at_).mono ?_
          rintro e wx227 ⟨qa222, qc223, qb224, qd225, mid226, rfl, ho, hs, hm1, hm2, hb⟩
          replace H0 := Lib.hid (H0.out.below hb)
          replace K0 := Lib.hid (K0.out.below hb)
          replace H2 := Lib.hid (H2.out.below hb)
          replace K2 := Lib.hid (K2.out.below hb)
          replace V2 := Lib.hid (V2.out.below hb)
          replace V4 := Lib.hid (V4.out.below hb)
          replace D := Lib.hid (D.out.below hb)
          replace O186 := Lib.hid (O186.out.below hb)
          replace O187 := Lib.hid (O187.out.below hb)
          replace NV := Lib.hid (NV.out.below hb)
          have O228 := Lib.hid (show OwnI wx227 wx221.heap.size mid226 qa222 (l2) from ⟨ho, hm2⟩)
          have O229 := Lib.hid (show ROwnI 4 senc wx227 mid226 wx227.heap.size qb224 (s2) from ⟨hs, Nat.le_refl _⟩)
          have Z230 := hb.size
          have Z230a := hm1
          have Z230b := hm2
          clear hb ho hs hm1 hm2
          go_wp2_with fail
          refine hK.out _ _ (by exact ⟨V2.out.c0, V2.out.c1, V2.out.c2, V2.out.c3, V2.out.c4, V2.out.c5, V2.out.c6, V2.out.c7, V4.out.c0, V4.out.c1⟩) (fun hHeld => ?_)
          clear hK K
          try simp only [Act.put, List.setIfInBounds_toArray, List.set_cons_zero, List.set_cons_succ, List.getElem_toArray, List.getElem_cons_zero, List.getElem_cons_succ]
          refine wpAnyH_ready (rs := [5]) (by kernel_rfl) (by simp) ?_
          refine AllReadyH.cons rfl (fun K hK => ?_) AllReadyH.nil
          go_simp
          refine (impl_msgTurn (kd0) (fr0) (tq0) (rq0) (ky0) (ow0)  (n1) qa180 qb182 qa222 qb224 qc181 qd183 qc223 qd225 (l0) (s0) (l2) (s2) _ (by unfold maxLen; omega) (by unfold maxLen; omega) (by unfold maxLen; omega) (by unfold maxLen; omega) HD0.out HD2.out HY0.out HF0.out HF2.out O186.out.at_ O187.out.at_ O228.out.at_ O229.out.at_).mono ?_
          rintro e wx236 ⟨qa231, qc232, qb233, qd234, lo1k235, hi1k235, lo2k235, hi2k235, rfl, ho, hs, g1k235, g2k235, g3k235, g4k235, g5k235, hb⟩
          replace H0 := Lib.hid (H0.out.below hb)
          replace K0 := Lib.hid (K0.out.below hb)
          replace H2 := Lib.hid (H2.out.below hb)
          replace K2 := Lib.hid (K2.out.below hb)
          replace V2 := Lib.hid (V2.out.below hb)
          replace V4 := Lib.hid (V4.out.below hb)
          replace D := Lib.hid (D.out.below hb)
          replace O186 := Lib.hid (O186.out.below hb)
          replace O187 := Lib.hid (O187.out.below hb)
          replace NV := Lib.hid (NV.out.below hb)
          replace O228 := Lib.hid (O228.out.below hb)
          replace O229 := Lib.hid (O229.out.below hb)
          have O237 := Lib.hid (show OwnI wx236 lo1k235 hi1k235 qa231 (tnL (kd0) (fr0) (tq0) (rq0) (ky0) (ow0) (l0) (s0) (n1) (l2) (s2)) from ⟨ho, g3k235⟩)
          have O238 := Lib.hid (show ROwnI 4 senc wx236 lo2k235 hi2k235 qb233 (tnS (kd0) (fr0) (tq0) (rq0) (ky0) (ow0) (l0) (s0) (n1) (l2) (s2)) from ⟨hs, g4k235⟩)
          have Z239 := hb.size
          clear hb ho hs
          go_wp2_with fail
          refine hK.out _ _ (by exact ⟨V2.out.c0, V2.out.c1, V2.out.c2, V2.out.c3, V2.out.c4, V2.out.c5, V2.out.c6, V2.out.c7, V4.out.c0, V4.out.c1⟩) (fun hHeld => ?_)
          clear hK K
          try simp only [Act.put, List.setIfInBounds_toArray, List.set_cons_zero, List.set_cons_succ, List.getElem_toArray, List.getElem_cons_zero, List.getElem_cons_succ]
          obtain ⟨nv0, nv1, nv2, nv3, nv4, nv5, nv6, nv7, nv8, nf0, nf1, nf2, nf3, nf4, nf5, nf6, nf7, nf8, nl⟩ := NV.out.all
          refine wpAnyH_ready (rs := [7]) (by kernel_rfl) (by simp) ?_
          refine AllReadyH.cons rfl (fun K hK => ?_) AllReadyH.nil
          go_simp
          have hw := within_set9 wx236 gb (.int .i64 (tnK (kd0) (fr0) (tq0) (rq0) (ky0) (ow0) (l0) (s0) (n1) (l2) (s2))) (.int .i64 (tnF (kd0) (fr0) (tq0) (rq0) (ky0) (ow0) (l0) (s0) (n1) (l2) (s2))) (.int .i64 (tnT (kd0) (fr0) (tq0) (rq0) (ky0) (ow0) (l0) (s0) (n1) (l2) (s2))) (.int .i64 (tnQ (kd0) (fr0) (tq0) (rq0) (ky0) (ow0) (l0) (s0) (n1) (l2) (s2))) (.string (tnY (kd0) (fr0) (tq0) (rq0) (ky0) (ow0) (l0) (s0) (n1) (l2) (s2))) (.int .i64 (tnO (kd0) (fr0) (tq0) (rq0) (ky0) (ow0) (l0) (s0) (n1) (l2) (s2))) (.slice qa231 (tnL (kd0) (fr0) (tq0) (rq0) (ky0) (ow0) (l0) (s0) (n1) (l2) (s2)).length qc232) (.slice qb233 (tnS (kd0) (fr0) (tq0) (rq0) (ky0) (ow0) (l0) (s0) (n1) (l2) (s2)).length qd234) (.int .i64 (tnC (kd0) (fr0) (tq0) (rq0) (ky0) (ow0) (l0) (s0) (n1) (l2) (s2)))
          have VV := NV.out.store (.int .i64 (tnK (kd0) (fr0) (tq0) (rq0) (ky0) (ow0) (l0) (s0) (n1) (l2) (s2))) (.int .i64 (tnF (kd0) (fr0) (tq0) (rq0) (ky0) (ow0) (l0) (s0) (n1) (l2) (s2))) (.int .i64 (tnT (kd0) (fr0) (tq0) (rq0) (ky0) (ow0) (l0) (s0) (n1) (l2) (s2))) (.int .i64 (tnQ (kd0) (fr0) (tq0) (rq0) (ky0) (ow0) (l0) (s0) (n1) (l2) (s2))) (.string (tnY (kd0) (fr0) (tq0) (rq0) (ky0) (ow0) (l0) (s0) (n1) (l2) (s2))) (.int .i64 (tnO (kd0) (fr0) (tq0) (rq0) (ky0) (ow0) (l0) (s0) (n1) (l2) (s2))) (.slice qa231 (tnL (kd0) (fr0) (tq0) (rq0) (ky0) (ow0) (l0) (s0) (n1) (l2) (s2)).length qc232) (.slice qb233 (tnS (kd0) (fr0) (tq0) (rq0) (ky0) (ow0) (l0) (s0) (n1) (l2) (s2)).length qd234) (.int .i64 (tnC (kd0) (fr0) (tq0) (rq0) (ky0) (ow0) (l0) (s0) (n1) (l2) (s2)))
          replace H0 := Lib.hid (H0.out.within hw (by omega))
          replace K0 := Lib.hid (K0.out.within hw (by omega))
          replace H2 := Lib.hid (H2.out.within hw (by omega))
          replace K2 := Lib.hid (K2.out.within hw (by omega))
          replace V2 := Lib.hid (V2.out.within hw (by omega))
          replace V4 := Lib.hid (V4.out.within hw (by omega))
          replace D := Lib.hid (D.out.within hw (by omega))
          replace O186 := Lib.hid (O186.out.within hw (by omega))
          replace O187 := Lib.hid (O187.out.within hw (by omega))
          replace O228 := Lib.hid (O228.out.within hw (by omega))
          replace O229 := Lib.hid (O229.out.within hw (by omega))
          replace O237 := Lib.hid (O237.out.within hw (by omega))
          replace O238 := Lib.hid (O238.out.within hw (by omega))
          refine hK.out _ _ (by exact ⟨V2.out.c0, V2.out.c1, V2.out.c2, V2.out.c3, V2.out.c4, V2.out.c5, V2.out.c6, V2.out.c7, V4.out.c0, V4.out.c1⟩) (fun hHeld => ?_)
          refine wpAnyH_done (by kernel_rfl) ?_ _
          go_wp2_with fail
          go_meet
          exact ⟨gb, _, _, _, _, qa231, qb233, qc232, qd234, rfl, VV, O237.out, O238.out, D.out, by omega, by omega, by omega, by omega, by omega, by omega⟩
        exact AllReadyH.nil
      refine AllReadyH.cons rfl (fun K hK => ?_) ?_
      · go_simp
        have hb := step_alloc wd179 (.cells #[.int .i64 0, .int .i64 0, .int .i64 0, .int .i64 0, .string ⟨#[]⟩, .int .i64 0, .slice none 0 0, .slice none 0 0, .int .i64 0] 41)
        replace H0 := Lib.hid (H0.out.below hb)
        replace K0 := Lib.hid (K0.out.below hb)
        replace H2 := Lib.hid (H2.out.below hb)
        replace K2 := Lib.hid (K2.out.below hb)
        replace V2 := Lib.hid (V2.out.below hb)
        replace V4 := Lib.hid (V4.out.below hb)
        replace D := Lib.hid (D.out.below hb)
        clear hb
        have NV := Lib.hid (New9.new wd179 (.int .i64 0) (.int .i64 0) (.int .i64 0) (.int .i64 0) (.string ⟨#[]⟩) (.int .i64 0) (.slice none 0 0) (.slice none 0 0) (.int .i64 0) 41)
        have Z240 : wd179.heap.size < (wd179.alloc (.cells #[.int .i64 0, .int .i64 0, .int .i64 0, .int .i64 0, .string ⟨#[]⟩, .int .i64 0, .slice none 0 0, .slice none 0 0, .int .i64 0] 41)).heap.size := by simp
        obtain ⟨gb, hgb⟩ : ∃ gb, gb = wd179.heap.size := ⟨_, rfl⟩
        have QaZ240 : wd179.heap.size ≤ gb := by omega
        have QbZ240 : gb < (wd179.alloc (.cells #[.int .i64 0, .int .i64 0, .int .i64 0, .int .i64 0, .string ⟨#[]⟩, .int .i64 0, .slice none 0 0, .slice none 0 0, .int .i64 0] 41)).heap.size := by omega
        rw [← hgb] at NV ⊢
        clear hgb
        generalize wd179.alloc (.cells #[.int .i64 0, .int .i64 0, .int .i64 0, .int .i64 0, .string ⟨#[]⟩, .int .i64 0, .slice none 0 0, .slice none 0 0, .int .i64 0] 41) = wx241 at NV Z240 QbZ240 H0 K0 H2 K2 V2 V4 D ⊢
        refine hK.out _ _ (by exact ⟨V2.out.c0, V2.out.c1, V2.out.c2, V2.out.c3, V2.out.c4, V2.out.c5, V2.out.c6, V2.out.c7, V4.out.c0, V4.out.c1⟩) (fun hHeld => ?_)
        clear hK K
        try simp only [Act.put, List.setIfInBounds_toArray, List.set_cons_zero, List.set_cons_succ, List.getElem_toArray, List.getElem_cons_zero, List.getElem_cons_succ]
        refine wpAnyH_ready (rs := [1]) (by kernel_rfl) (by simp) ?_
        refine AllReadyH.cons rfl (fun K hK => ?_) AllReadyH.nil
        go_simp
        refine (toMsg (kd0) (fr0) (tq0) (rq0) (ky0) (ow0) a0 b0 cap0 dap0 (l0) (s0) _ (by omega) (by omega) H0.out.at_ K0.out.at_).mono ?_
        rintro e wx247 ⟨qa242, qc243, qb244, qd245, mid246, rfl, ho, hs, hm1, hm2, hb⟩
        replace H0 := Lib.hid (H0.out.below hb)
        replace K0 := Lib.hid (K0.out.below hb)
        replace H2 := Lib.hid (H2.out.below hb)
        replace K2 := Lib.hid (K2.out.below hb)
        replace V2 := Lib.hid (V2.out.below hb)
        replace V4 := Lib.hid (V4.out.below hb)
        replace D := Lib.hid (D.out.below hb)
        replace NV := Lib.hid (NV.out.below hb)
        have O248 := Lib.hid (show OwnI wx247 wx241.heap.size mid246 qa242 (l0) from ⟨ho, hm2⟩)
        have O249 := Lib.hid (show ROwnI 4 senc wx247 mid246 wx247.heap.size qb244 (s0) from ⟨hs, Nat.le_refl _⟩)
        have Z250 := hb.size
        have Z250a := hm1
        have Z250b := hm2
        clear hb ho hs hm1 hm2
        go_wp2_with fail
        refine hK.out _ _ (by exact ⟨V2.out.c0, V2.out.c1, V2.out.c2, V2.out.c3, V2.out.c4, V2.out.c5, V2.out.c6, V2.out.c7, V4.out.c0, V4.out.c1⟩) (fun hHeld => ?_)
        clear hK K
        try simp only [Act.put, List.setIfInBounds_toArray, List.set_cons_zero, List.set_cons_succ, List.getElem_toArray, List.getElem_cons_zero, List.getElem_cons_succ]
        refine wpAnyH_ready (rs := [4]) (by kernel_rfl) (by simp) ?_
        refine AllReadyH.cons rfl (fun K hK => ?_) AllReadyH.nil
        go_simp
        refine (toSet a2 b2 cap2 dap2 (l2) (s2) _ (by omega) (by omega) H2.out.at_ K2.out.at_).mono ?_
        rintro e wx256 ⟨qa251, qc252, qb253, qd254, mid255, rfl, ho, hs, hm1, hm2, hb⟩
        replace H0 := Lib.hid (H0.out.below hb)
        replace K0 := Lib.hid (K0.out.below hb)
        replace H2 := Lib.hid (H2.out.below hb)
        replace K2 := Lib.hid (K2.out.below hb)
        replace V2 := Lib.hid (V2.out.below hb)
        replace V4 := Lib.hid (V4.out.below hb)
        replace D := Lib.hid (D.out.below hb)
        replace NV := Lib.hid (NV.out.below hb)
        replace O248 := Lib.hid (O248.out.below hb)
        replace O249 := Lib.hid (O249.out.below hb)
        have O257 := Lib.hid (show OwnI wx256 wx247.heap.size mid255 qa251 (l2) from ⟨ho, hm2⟩)
        have O258 := Lib.hid (show ROwnI 4 senc wx256 mid255 wx256.heap.size qb253 (s2) from ⟨hs, Nat.le_refl _⟩)
        have Z259 := hb.size
        have Z259a := hm1
        have Z259b := hm2
        clear hb ho hs hm1 hm2
        go_wp2_with fail
        refine hK.out _ _ (by exact ⟨V2.out.c0, V2.out.c1, V2.out.c2, V2.out.c3, V2.out.c4, V2.out.c5, V2.out.c6, V2.out.c7, V4.out.c0, V4.out.c1⟩) (fun hHeld => ?_)
        clear hK K
        try simp only [Act.put, List.setIfInBounds_toArray, List.set_cons_zero, List.set_cons_succ, List.getElem_toArray, List.getElem_cons_zero, List.getElem_cons_succ]
        refine wpAnyH_ready (rs := [5]) (by kernel_rfl) (by simp) ?_
        refine AllReadyH.cons rfl (fun K hK => ?_) AllReadyH.nil
        go_simp
        refine (impl_msgTurn (kd0) (fr0) (tq0) (rq0) (ky0) (ow0)  (n1) qa242 qb244 qa251 qb253 qc243 qd245 qc252 qd254 (l0) (s0) (l2) (s2) _ (by unfold maxLen; omega) (by unfold maxLen; omega) (by unfold maxLen; omega) (by unfold maxLen; omega) HD0.out HD2.out HY0.out HF0.out HF2.out O248.out.at_ O249.out.at_ O257.out.at_ O258.out.at_).mono ?_
        rintro e wx265 ⟨qa260, qc261, qb262, qd263, lo1k264, hi1k264, lo2k264, hi2k264, rfl, ho, hs, g1k264, g2k264, g3k264, g4k264, g5k264, hb⟩
        replace H0 := Lib.hid (H0.out.below hb)
        replace K0 := Lib.hid (K0.out.below hb)
        replace H2 := Lib.hid (H2.out.below hb)
        replace K2 := Lib.hid (K2.out.below hb)
        replace V2 := Lib.hid (V2.out.below hb)
        replace V4 := Lib.hid (V4.out.below hb)
        replace D := Lib.hid (D.out.below hb)
        replace NV := Lib.hid (NV.out.below hb)
        replace O248 := Lib.hid (O248.out.below hb)
        replace O249 := Lib.hid (O249.out.below hb)
        replace O257 := Lib.hid (O257.out.below hb)
        replace O258 := Lib.hid (O258.out.below hb)
        have O266 := Lib.hid (show OwnI wx265 lo1k264 hi1k264 qa260 (tnL (kd0) (fr0) (tq0) (rq0) (ky0) (ow0) (l0) (s0) (n1) (l2) (s2)) from ⟨ho, g3k264⟩)
        have O267 := Lib.hid (show ROwnI 4 senc wx265 lo2k264 hi2k264 qb262 (tnS (kd0) (fr0) (tq0) (rq0) (ky0) (ow0) (l0) (s0) (n1) (l2) (s2)) from ⟨hs, g4k264⟩)
        have Z268 := hb.size
        clear hb ho hs
        go_wp2_with fail
        refine hK.out _ _ (by exact ⟨V2.out.c0, V2.out.c1, V2.out.c2, V2.out.c3, V2.out.c4, V2.out.c5, V2.out.c6, V2.out.c7, V4.out.c0, V4.out.c1⟩) (fun hHeld => ?_)
        clear hK K
        try simp only [Act.put, List.setIfInBounds_toArray, List.set_cons_zero, List.set_cons_succ, List.getElem_toArray, List.getElem_cons_zero, List.getElem_cons_succ]
        obtain ⟨nv0, nv1, nv2, nv3, nv4, nv5, nv6, nv7, nv8, nf0, nf1, nf2, nf3, nf4, nf5, nf6, nf7, nf8, nl⟩ := NV.out.all
        refine wpAnyH_ready (rs := [7]) (by kernel_rfl) (by simp) ?_
        refine AllReadyH.cons rfl (fun K hK => ?_) AllReadyH.nil
        go_simp
        have hw := within_set9 wx265 gb (.int .i64 (tnK (kd0) (fr0) (tq0) (rq0) (ky0) (ow0) (l0) (s0) (n1) (l2) (s2))) (.int .i64 (tnF (kd0) (fr0) (tq0) (rq0) (ky0) (ow0) (l0) (s0) (n1) (l2) (s2))) (.int .i64 (tnT (kd0) (fr0) (tq0) (rq0) (ky0) (ow0) (l0) (s0) (n1) (l2) (s2))) (.int .i64 (tnQ (kd0) (fr0) (tq0) (rq0) (ky0) (ow0) (l0) (s0) (n1) (l2) (s2))) (.string (tnY (kd0) (fr0) (tq0) (rq0) (ky0) (ow0) (l0) (s0) (n1) (l2) (s2))) (.int .i64 (tnO (kd0) (fr0) (tq0) (rq0) (ky0) (ow0) (l0) (s0) (n1) (l2) (s2))) (.slice qa260 (tnL (kd0) (fr0) (tq0) (rq0) (ky0) (ow0) (l0) (s0) (n1) (l2) (s2)).length qc261) (.slice qb262 (tnS (kd0) (fr0) (tq0) (rq0) (ky0) (ow0) (l0) (s0) (n1) (l2) (s2)).length qd263) (.int .i64 (tnC (kd0) (fr0) (tq0) (rq0) (ky0) (ow0) (l0) (s0) (n1) (l2) (s2)))
        have VV := NV.out.store (.int .i64 (tnK (kd0) (fr0) (tq0) (rq0) (ky0) (ow0) (l0) (s0) (n1) (l2) (s2))) (.int .i64 (tnF (kd0) (fr0) (tq0) (rq0) (ky0) (ow0) (l0) (s0) (n1) (l2) (s2))) (.int .i64 (tnT (kd0) (fr0) (tq0) (rq0) (ky0) (ow0) (l0) (s0) (n1) (l2) (s2))) (.int .i64 (tnQ (kd0) (fr0) (tq0) (rq0) (ky0) (ow0) (l0) (s0) (n1) (l2) (s2))) (.string (tnY (kd0) (fr0) (tq0) (rq0) (ky0) (ow0) (l0) (s0) (n1) (l2) (s2))) (.int .i64 (tnO (kd0) (fr0) (tq0) (rq0) (ky0) (ow0) (l0) (s0) (n1) (l2) (s2))) (.slice qa260 (tnL (kd0) (fr0) (tq0) (rq0) (ky0) (ow0) (l0) (s0) (n1) (l2) (s2)).length qc261) (.slice qb262 (tnS (kd0) (fr0) (tq0) (rq0) (ky0) (ow0) (l0) (s0) (n1) (l2) (s2)).length qd263) (.int .i64 (tnC (kd0) (fr0) (tq0) (rq0) (ky0) (ow0) (l0) (s0) (n1) (l2) (s2)))
        replace H0 := Lib.hid (H0.out.within hw (by omega))
        replace K0 := Lib.hid (K0.out.within hw (by omega))
        replace H2 := Lib.hid (H2.out.within hw (by omega))
        replace K2 := Lib.hid (K2.out.within hw (by omega))
        replace V2 := Lib.hid (V2.out.within hw (by omega))
        replace V4 := Lib.hid (V4.out.within hw (by omega))
        replace D := Lib.hid (D.out.within hw (by omega))
        replace O248 := Lib.hid (O248.out.within hw (by omega))
        replace O249 := Lib.hid (O249.out.within hw (by omega))
        replace O257 := Lib.hid (O257.out.within hw (by omega))
        replace O258 := Lib.hid (O258.out.within hw (by omega))
        replace O266 := Lib.hid (O266.out.within hw (by omega))
        replace O267 := Lib.hid (O267.out.within hw (by omega))
        refine hK.out _ _ (by exact ⟨V2.out.c0, V2.out.c1, V2.out.c2, V2.out.c3, V2.out.c4, V2.out.c5, V2.out.c6, V2.out.c7, V4.out.c0, V4.out.c1⟩) (fun hHeld => ?_)
        refine wpAnyH_done (by kernel_rfl) ?_ _
        go_wp2_with fail
        go_meet
        exact ⟨gb, _, _, _, _, qa260, qb262, qc261, qd263, rfl, VV, O266.out, O267.out, D.out, by omega, by omega, by omega, by omega, by omega, by omega⟩
      exact AllReadyH.nil
    case rest =>
      obtain ⟨gk177, lo1k177, hi1k177, lo2k177, hi2k177, qak177, qbk177, qck177, qdk177, rfl, hV, hO, hP, hb, z1k177, z2k177, z3k177, z4k177, z5k177, z6k177⟩ := hcut
      obtain ⟨wk177, hwk⟩ : ∃ x, x = wc := ⟨_, rfl⟩
      subst hwk
      replace B := Lib.hid (B.out.below hb)
      replace H0 := Lib.hid (H0.out.below hb)
      replace K0 := Lib.hid (K0.out.below hb)
      replace H2 := Lib.hid (H2.out.below hb)
      replace K2 := Lib.hid (K2.out.below hb)
      replace V2 := Lib.hid (V2.out.below hb)
      replace V4 := Lib.hid (V4.out.below hb)
      replace Vk11 := Lib.hid (Vk11.out.below hb)
      replace Ok11 := Lib.hid (Ok11.out.below hb)
      replace Pk11 := Lib.hid (Pk11.out.below hb)
      replace O109 := Lib.hid (O109.out.below hb)
      replace O110 := Lib.hid (O110.out.below hb)
      replace V113 := Lib.hid (V113.out.below hb)
      replace O120 := Lib.hid (O120.out.below hb)
      replace O121 := Lib.hid (O121.out.below hb)
      replace V124 := Lib.hid (V124.out.below hb)
      replace O131 := Lib.hid (O131.out.below hb)
      replace O132 := Lib.hid (O132.out.below hb)
      replace V135 := Lib.hid (V135.out.below hb)
      replace O146 := Lib.hid (O146.out.below hb)
      replace O147 := Lib.hid (O147.out.below hb)
      replace O159 := Lib.hid (O159.out.below hb)
      replace O160 := Lib.hid (O160.out.below hb)
      have Vk177 := Lib.hid hV
      have Ok177 := Lib.hid hO
      have Pk177 := Lib.hid hP
      have Zk177 := hb.size
      have Yk177 := hO.2
      have Uk177 := hP.2
      have Xk177 := hV.lt
      clear hb hV hO hP
      obtain ⟨V2_c0, V2_c1, V2_c2, V2_c3, V2_c4, V2_c5, V2_c6, V2_c7, V2_l⟩ := V2.out
      obtain ⟨V4_c0, V4_c1, V4_l⟩ := V4.out
      obtain ⟨Vk11_c0, Vk11_c1, Vk11_c2, Vk11_c3, Vk11_c4, Vk11_c5, Vk11_c6, Vk11_c7, Vk11_c8, Vk11_l⟩ := Vk11.out
      obtain ⟨V113_c0, V113_c1, V113_c2, V113_c3, V113_c4, V113_c5, V113_c6, V113_c7, V113_l⟩ := V113.out
      obtain ⟨V124_c0, V124_c1, V124_l⟩ := V124.out
      obtain ⟨V135_c0, V135_c1, V135_c2, V135_c3, V135_c4, V135_c5, V135_c6, V135_c7, V135_c8, V135_l⟩ := V135.out
      obtain ⟨Vk177_c0, Vk177_c1, Vk177_c2, Vk177_c3, Vk177_c4, Vk177_c5, Vk177_c6, Vk177_c7, Vk177_c8, Vk177_l⟩ := Vk177.out
      go_wp2_with fail
      clear V2_c0 V2_c1 V2_c2 V2_c3 V2_c4 V2_c5 V2_c6 V2_c7 V2_l V4_c0 V4_c1 V4_l Vk11_c0 Vk11_c1 Vk11_c2 Vk11_c3 Vk11_c4 Vk11_c5 Vk11_c6 Vk11_c7 Vk11_c8 Vk11_l V113_c0 V113_c1 V113_c2 V113_c3 V113_c4 V113_c5 V113_c6 V113_c7 V113_l V124_c0 V124_c1 V124_l V135_c0 V135_c1 V135_c2 V135_c3 V135_c4 V135_c5 V135_c6 V135_c7 V135_c8 V135_l Vk177_c0 Vk177_c1 Vk177_c2 Vk177_c3 Vk177_c4 Vk177_c5 Vk177_c6 Vk177_c7 Vk177_c8 Vk177_l
      refine (eqMsgOut (tnK (kd0) (fr0) (tq0) (rq0) (ky0) (ow0) (l0) (s0) (n1) (l2) (s2)) (tnF (kd0) (fr0) (tq0) (rq0) (ky0) (ow0) (l0) (s0) (n1) (l2) (s2)) (tnT (kd0) (fr0) (tq0) (rq0) (ky0) (ow0) (l0) (s0) (n1) (l2) (s2)) (tnQ (kd0) (fr0) (tq0) (rq0) (ky0) (ow0) (l0) (s0) (n1) (l2) (s2)) (tnY (kd0) (fr0) (tq0) (rq0) (ky0) (ow0) (l0) (s0) (n1) (l2) (s2)) (tnO (kd0) (fr0) (tq0) (rq0) (ky0) (ow0) (l0) (s0) (n1) (l2) (s2)) qak177 qak11 qbk177 qbk11 qck177 qdk177 qck11 qdk11 (tnL (kd0) (fr0) (tq0) (rq0) (ky0) (ow0) (l0) (s0) (n1) (l2) (s2)) (tnS (kd0) (fr0) (tq0) (rq0) (ky0) (ow0) (l0) (s0) (n1) (l2) (s2)) (tnC (kd0) (fr0) (tq0) (rq0) (ky0) (ow0) (l0) (s0) (n1) (l2) (s2)) _ (by unfold maxLen; omega) (by unfold maxLen; omega) Ok177.out.at_ Ok11.out.at_ Pk177.out.at_ Pk11.out.at_).mono ?_
      rintro e wx269 ⟨rfl, hb⟩
      replace B := Lib.hid (B.out.below hb)
      replace H0 := Lib.hid (H0.out.below hb)
      replace K0 := Lib.hid (K0.out.below hb)
      replace H2 := Lib.hid (H2.out.below hb)
      replace K2 := Lib.hid (K2.out.below hb)
      replace V2 := Lib.hid (V2.out.below hb)
      replace V4 := Lib.hid (V4.out.below hb)
      replace Vk11 := Lib.hid (Vk11.out.below hb)
      replace Ok11 := Lib.hid (Ok11.out.below hb)
      replace Pk11 := Lib.hid (Pk11.out.below hb)
      replace O109 := Lib.hid (O109.out.below hb)
      replace O110 := Lib.hid (O110.out.below hb)
      replace V113 := Lib.hid (V113.out.below hb)
      replace O120 := Lib.hid (O120.out.below hb)
      replace O121 := Lib.hid (O121.out.below hb)
      replace V124 := Lib.hid (V124.out.below hb)
      replace O131 := Lib.hid (O131.out.below hb)
      replace O132 := Lib.hid (O132.out.below hb)
      replace V135 := Lib.hid (V135.out.below hb)
      replace O146 := Lib.hid (O146.out.below hb)
      replace O147 := Lib.hid (O147.out.below hb)
      replace O159 := Lib.hid (O159.out.below hb)
      replace O160 := Lib.hid (O160.out.below hb)
      replace Vk177 := Lib.hid (Vk177.out.below hb)
      replace Ok177 := Lib.hid (Ok177.out.below hb)
      replace Pk177 := Lib.hid (Pk177.out.below hb)
      have Z270 := hb.size
      clear hb
      obtain ⟨V2_c0, V2_c1, V2_c2, V2_c3, V2_c4, V2_c5, V2_c6, V2_c7, V2_l⟩ := V2.out
      obtain ⟨V4_c0, V4_c1, V4_l⟩ := V4.out
      obtain ⟨Vk11_c0, Vk11_c1, Vk11_c2, Vk11_c3, Vk11_c4, Vk11_c5, Vk11_c6, Vk11_c7, Vk11_c8, Vk11_l⟩ := Vk11.out
      obtain ⟨V113_c0, V113_c1, V113_c2, V113_c3, V113_c4, V113_c5, V113_c6, V113_c7, V113_l⟩ := V113.out
      obtain ⟨V124_c0, V124_c1, V124_l⟩ := V124.out
      obtain ⟨V135_c0, V135_c1, V135_c2, V135_c3, V135_c4, V135_c5, V135_c6, V135_c7, V135_c8, V135_l⟩ := V135.out
      obtain ⟨Vk177_c0, Vk177_c1, Vk177_c2, Vk177_c3, Vk177_c4, Vk177_c5, Vk177_c6, Vk177_c7, Vk177_c8, Vk177_l⟩ := Vk177.out
      go_wp2_with fail
      clear V2_c0 V2_c1 V2_c2 V2_c3 V2_c4 V2_c5 V2_c6 V2_c7 V2_l V4_c0 V4_c1 V4_l Vk11_c0 Vk11_c1 Vk11_c2 Vk11_c3 Vk11_c4 Vk11_c5 Vk11_c6 Vk11_c7 Vk11_c8 Vk11_l V113_c0 V113_c1 V113_c2 V113_c3 V113_c4 V113_c5 V113_c6 V113_c7 V113_l V124_c0 V124_c1 V124_l V135_c0 V135_c1 V135_c2 V135_c3 V135_c4 V135_c5 V135_c6 V135_c7 V135_c8 V135_l Vk177_c0 Vk177_c1 Vk177_c2 Vk177_c3 Vk177_c4 Vk177_c5 Vk177_c6 Vk177_c7 Vk177_c8 Vk177_l
      refine (heldMsgOut (1) (1) rfl (tnK (kd0) (fr0) (tq0) (rq0) (ky0) (ow0) (l0) (s0) (n1) (l2) (s2)) (tnF (kd0) (fr0) (tq0) (rq0) (ky0) (ow0) (l0) (s0) (n1) (l2) (s2)) (tnT (kd0) (fr0) (tq0) (rq0) (ky0) (ow0) (l0) (s0) (n1) (l2) (s2)) (tnQ (kd0) (fr0) (tq0) (rq0) (ky0) (ow0) (l0) (s0) (n1) (l2) (s2)) (tnY (kd0) (fr0) (tq0) (rq0) (ky0) (ow0) (l0) (s0) (n1) (l2) (s2)) (tnO (kd0) (fr0) (tq0) (rq0) (ky0) (ow0) (l0) (s0) (n1) (l2) (s2)) qa125 qb127 qc126 qd128 ((tnL (kd0) (fr0) (tq0) (rq0) (ky0) (ow0) (l0) (s0) (n1) (l2) (s2)).length) ((tnS (kd0) (fr0) (tq0) (rq0) (ky0) (ow0) (l0) (s0) (n1) (l2) (s2)).length) (tnC (kd0) (fr0) (tq0) (rq0) (ky0) (ow0) (l0) (s0) (n1) (l2) (s2)) _ (by omega) (by omega) (by omega) (by omega) O131.out.at_ O132.out.at_).mono ?_
      rintro e wx271 ⟨rfl, hb⟩
      replace B := Lib.hid (B.out.below hb)
      replace H0 := Lib.hid (H0.out.below hb)
      replace K0 := Lib.hid (K0.out.below hb)
      replace H2 := Lib.hid (H2.out.below hb)
      replace K2 := Lib.hid (K2.out.below hb)
      replace V2 := Lib.hid (V2.out.below hb)
      replace V4 := Lib.hid (V4.out.below hb)
      replace Vk11 := Lib.hid (Vk11.out.below hb)
      replace Ok11 := Lib.hid (Ok11.out.below hb)
      replace Pk11 := Lib.hid (Pk11.out.below hb)
      replace O109 := Lib.hid (O109.out.below hb)
      replace O110 := Lib.hid (O110.out.below hb)
      replace V113 := Lib.hid (V113.out.below hb)
      replace O120 := Lib.hid (O120.out.below hb)
      replace O121 := Lib.hid (O121.out.below hb)
      replace V124 := Lib.hid (V124.out.below hb)
      replace O131 := Lib.hid (O131.out.below hb)
      replace O132 := Lib.hid (O132.out.below hb)
      replace V135 := Lib.hid (V135.out.below hb)
      replace O146 := Lib.hid (O146.out.below hb)
      replace O147 := Lib.hid (O147.out.below hb)
      replace O159 := Lib.hid (O159.out.below hb)
      replace O160 := Lib.hid (O160.out.below hb)
      replace Vk177 := Lib.hid (Vk177.out.below hb)
      replace Ok177 := Lib.hid (Ok177.out.below hb)
      replace Pk177 := Lib.hid (Pk177.out.below hb)
      have Z272 := hb.size
      clear hb
      rw [← Er174.out]
      obtain ⟨V2_c0, V2_c1, V2_c2, V2_c3, V2_c4, V2_c5, V2_c6, V2_c7, V2_l⟩ := V2.out
      obtain ⟨V4_c0, V4_c1, V4_l⟩ := V4.out
      obtain ⟨Vk11_c0, Vk11_c1, Vk11_c2, Vk11_c3, Vk11_c4, Vk11_c5, Vk11_c6, Vk11_c7, Vk11_c8, Vk11_l⟩ := Vk11.out
      obtain ⟨V113_c0, V113_c1, V113_c2, V113_c3, V113_c4, V113_c5, V113_c6, V113_c7, V113_l⟩ := V113.out
      obtain ⟨V124_c0, V124_c1, V124_l⟩ := V124.out
      obtain ⟨V135_c0, V135_c1, V135_c2, V135_c3, V135_c4, V135_c5, V135_c6, V135_c7, V135_c8, V135_l⟩ := V135.out
      obtain ⟨Vk177_c0, Vk177_c1, Vk177_c2, Vk177_c3, Vk177_c4, Vk177_c5, Vk177_c6, Vk177_c7, Vk177_c8, Vk177_l⟩ := Vk177.out
      go_wp2
      go_ret
      exact ⟨rfl, B.out⟩
end Go.Proofs.Ytloenigleamcoaa.Sb
