/- Parts of a law: SetPutNo. Conditions: on sizes, as each says. -/
import Derived.Test.YtiaoifodaoifjaaGreatZ1
import Derived.Test.YtiaoifodaoifjaaGreatZ13
import Derived.Test.YtiaoifodaoifjaaGreatZ27
import Derived.Test.YtiaoifodaoifjaaGreatZ33
import Derived.Test.YtiaoifodaoifjaaGreatZ5
set_option linter.unusedSimpArgs false
set_option linter.unusedVariables false
namespace Go.Proofs.YtiaoifodaoifjaaGreat.Sb
open Go.RowKit Go.Proofs.YtiaoifodaoifjaaGreat.Mk Go.Proofs.YtiaoifodaoifjaaGreat.Rw
set_option maxRecDepth 100000 in
set_option maxHeartbeats 4000000 in
theorem spec_setPut_no (am as_ bm : Option Addr) (c1 c2 c3 : Nat) (l : List (Int × Int)) (s : List Sib) (q : List (Int × Int)) (n : Int) (d : ByteArray) (g : Bool) (w : World) (hl : l.length ≤ maxLen) (hs : s.length ≤ maxLen) (hq : q.length ≤ maxLen) (hdz : d.size ≤ maxLen) (hd : SmallData s) (hbad : ¬ ((q.length ≤ 400 ∧ d.size ≤ 8000) ∧ PutOk l s q n d g))
    (hma : MarksAt w am l) (hra : SibsAt w as_ s) (hmb : MarksAt w bm q) :
    Calls Tryz.prog 93 #[.agg #[.slice am l.length c1, .slice as_ s.length c2], .slice bm q.length c3, .int .i64 n, .string d, .bool g] w (GivesSR w (spSeen l s q n d g) (spSibs l s q n d g) (spX l s q n d g) (spY l s q n d g) (spC l s q n d g)) := by
  have R2 := jj (fun (W : World) (h : Base w W) => (⟨hma.mono h, hmb.mono h, SibsAt.mono hra h⟩ : MarksAt W am l ∧ MarksAt W bm q ∧ SibsAt W as_ s))
  clear hma hra hmb
  obtain ⟨W2, hW2⟩ : ∃ W2, (w.alloc (.cells #[.slice am l.length c1, .slice as_ s.length c2] 26)).alloc (.cells #[.slice none 0 0, .slice none 0 0, .int .i64 0, .int .i64 0, .int .i64 0] 65) = W2 := ⟨_, rfl⟩
  have hb1 := step_alloc w (.cells #[.slice am l.length c1, .slice as_ s.length c2] 26)
  have hb2 := step_alloc (w.alloc (.cells #[.slice am l.length c1, .slice as_ s.length c2] 26)) (.cells #[.slice none 0 0, .slice none 0 0, .int .i64 0, .int .i64 0, .int .i64 0] 65)
  have XA := jj ((Cells.new w #[.slice am l.length c1, .slice as_ s.length c2] 26).below hb2)
  have XR := jj (Cells.new (w.alloc (.cells #[.slice am l.length c1, .slice as_ s.length c2] 26)) #[.slice none 0 0, .slice none 0 0, .int .i64 0, .int .i64 0, .int .i64 0] 65)
  have D := jj (show Base w ((w.alloc (.cells #[.slice am l.length c1, .slice as_ s.length c2] 26)).alloc (.cells #[.slice none 0 0, .slice none 0 0, .int .i64 0, .int .i64 0, .int .i64 0] 65)) from hb1.trans (hb2.mono (by simp)))
  have hsz : ((w.alloc (.cells #[.slice am l.length c1, .slice as_ s.length c2] 26)).alloc (.cells #[.slice none 0 0, .slice none 0 0, .int .i64 0, .int .i64 0, .int .i64 0] 65)).heap.size = w.heap.size + 2 := by simp
  simp only [World.size_alloc, List.toList_toArray] at XA XR
  clear hb1 hb2
  rw [hW2] at XA
  rw [hW2] at XR
  rw [hW2] at D
  rw [hW2] at hsz
  have HBAD := jj hbad
  clear hbad
  go_enter Tryz.func93, Tryz.ntmps93
  go_upto_region 1 with fail
  clear hW2
  obtain ⟨a0, a1, _⟩ := XA.out.c2
  obtain ⟨r0, r1, r2, r3, r4, f0, f1, f2, f3, f4⟩ := XR.out.c5
  by_cases hq4 : q.length ≤ 400
  rotate_left
  · have hno := jj (sp_size (l := l) (s := s) (q := q) (n := n) (d := d) (g := g) (fun h => hq4 h.1))
    have hq5 : decide ((400 : Int) < (q.length : Int)) = true := decide_eq_true (by omega)
    go_wp2_with ((go_at_call 61; refine (spec_ill 2 _).mono ?_; rintro e w5 ⟨rfl, hb⟩; replace XR := jj (XR.out.below hb); replace XA := jj (XA.out.below hb); replace D := jj (D.out.below hb); clear hb a0 a1 r0 r1 r2 r3 r4 f0 f1 f2 f3 f4; obtain ⟨a0, a1, _⟩ := XA.out.c2; obtain ⟨r0, r1, r2, r3, r4, f0, f1, f2, f3, f4⟩ := XR.out.c5))
    have XF := cells_set5 XR.out (.slice none 0 0) (.slice none 0 0) (.int .i64 0) (.int .i64 0) (.int .i64 2)
    obtain ⟨q0, q1, q2, q3, q4, -⟩ := XF.c5
    refine bodyPost_ret (v := .agg #[.slice none 0 0, .slice none 0 0, .int .i64 0, .int .i64 0, .int .i64 2]) (by simp [results, Tryz.results93, go_sem, q0, q1, q2, q3, q4]) rfl ?_
    replace hno := hno.out
    rw [hno.1, hno.2.1, hno.2.2.1, hno.2.2.2.1, hno.2.2.2.2]
    exact givesSR_no 2 (D.out.within (within_set5 _ _ _ _ _ _ _) (by omega))
  have hq5 : decide ((400 : Int) < (q.length : Int)) = false := decide_eq_false (by omega)
  by_cases hd8 : d.size ≤ 8000
  rotate_left
  · have hno := jj (sp_size (l := l) (s := s) (q := q) (n := n) (d := d) (g := g) (fun h => hd8 h.2))
    have hd9 : decide ((8000 : Int) < (d.size : Int)) = true := decide_eq_true (by omega)
    go_wp2_with ((go_at_call 61; refine (spec_ill 2 _).mono ?_; rintro e w5 ⟨rfl, hb⟩; replace XR := jj (XR.out.below hb); replace XA := jj (XA.out.below hb); replace D := jj (D.out.below hb); clear hb a0 a1 r0 r1 r2 r3 r4 f0 f1 f2 f3 f4; obtain ⟨a0, a1, _⟩ := XA.out.c2; obtain ⟨r0, r1, r2, r3, r4, f0, f1, f2, f3, f4⟩ := XR.out.c5))
    have XF := cells_set5 XR.out (.slice none 0 0) (.slice none 0 0) (.int .i64 0) (.int .i64 0) (.int .i64 2)
    obtain ⟨q0, q1, q2, q3, q4, -⟩ := XF.c5
    refine bodyPost_ret (v := .agg #[.slice none 0 0, .slice none 0 0, .int .i64 0, .int .i64 0, .int .i64 2]) (by simp [results, Tryz.results93, go_sem, q0, q1, q2, q3, q4]) rfl ?_
    replace hno := hno.out
    rw [hno.1, hno.2.1, hno.2.2.1, hno.2.2.2.1, hno.2.2.2.2]
    exact givesSR_no 2 (D.out.within (within_set5 _ _ _ _ _ _ _) (by omega))
  have hd9 : decide ((8000 : Int) < (d.size : Int)) = false := decide_eq_false (by omega)
  have H0 := jj (⟨hq4, hd8⟩ : q.length ≤ 400 ∧ d.size ≤ 8000)
  cases hsA : setB l s
  · have hno := jj (sp_form (l := l) (s := s) (q := q) (n := n) (d := d) (g := g) H0.out (fun h => by rw [h.1] at hsA; cases hsA))
    go_wp2_with (first | (go_at_call 40; refine (spec_setRight am as_ c1 c2 l s _ hl hs hd (R2.out _ D.out).1 (R2.out _ D.out).2.2).mono ?_; rintro e w1 ⟨rfl, hb⟩; rw [hsA]; replace XR := jj (XR.out.below hb); replace XA := jj (XA.out.below hb); replace D := jj (D.out.below hb); clear hb a0 a1 r0 r1 r2 r3 r4 f0 f1 f2 f3 f4; obtain ⟨a0, a1, _⟩ := XA.out.c2; obtain ⟨r0, r1, r2, r3, r4, f0, f1, f2, f3, f4⟩ := XR.out.c5) | (go_at_call 69; refine (spec_seenRight bm c3 q _ hq (R2.out _ D.out).2.1).mono ?_; rintro e w2 ⟨rfl, hb⟩; rw [hqR]; replace XR := jj (XR.out.below hb); replace XA := jj (XA.out.below hb); replace D := jj (D.out.below hb); clear hb a0 a1 r0 r1 r2 r3 r4 f0 f1 f2 f3 f4; obtain ⟨a0, a1, _⟩ := XA.out.c2; obtain ⟨r0, r1, r2, r3, r4, f0, f1, f2, f3, f4⟩ := XR.out.c5) | (go_at_call 37; refine (spec_node n _).mono ?_; rintro e w3 ⟨rfl, rfl⟩; rw [show isB n 1 5 = _ from hnR]) | (go_at_call 61; refine (spec_ill 1 _).mono ?_; rintro e w5 ⟨rfl, hb⟩; replace XR := jj (XR.out.below hb); replace XA := jj (XA.out.below hb); replace D := jj (D.out.below hb); clear hb a0 a1 r0 r1 r2 r3 r4 f0 f1 f2 f3 f4; obtain ⟨a0, a1, _⟩ := XA.out.c2; obtain ⟨r0, r1, r2, r3, r4, f0, f1, f2, f3, f4⟩ := XR.out.c5))
    have XF := cells_set5 XR.out (.slice none 0 0) (.slice none 0 0) (.int .i64 0) (.int .i64 0) (.int .i64 1)
    obtain ⟨q0, q1, q2, q3, q4, -⟩ := XF.c5
    refine bodyPost_ret (v := .agg #[.slice none 0 0, .slice none 0 0, .int .i64 0, .int .i64 0, .int .i64 1]) (by simp [results, Tryz.results93, go_sem, q0, q1, q2, q3, q4]) rfl ?_
    replace hno := hno.out
    rw [hno.1, hno.2.1, hno.2.2.1, hno.2.2.2.1, hno.2.2.2.2]
    exact givesSR_no 1 (D.out.within (within_set5 _ _ _ _ _ _ _) (by omega))
  cases hqR : rightB q
  · have hno := jj (sp_form (l := l) (s := s) (q := q) (n := n) (d := d) (g := g) H0.out (fun h => by rw [h.2.1] at hqR; cases hqR))
    go_wp2_with (first | (go_at_call 40; refine (spec_setRight am as_ c1 c2 l s _ hl hs hd (R2.out _ D.out).1 (R2.out _ D.out).2.2).mono ?_; rintro e w1 ⟨rfl, hb⟩; rw [hsA]; replace XR := jj (XR.out.below hb); replace XA := jj (XA.out.below hb); replace D := jj (D.out.below hb); clear hb a0 a1 r0 r1 r2 r3 r4 f0 f1 f2 f3 f4; obtain ⟨a0, a1, _⟩ := XA.out.c2; obtain ⟨r0, r1, r2, r3, r4, f0, f1, f2, f3, f4⟩ := XR.out.c5) | (go_at_call 69; refine (spec_seenRight bm c3 q _ hq (R2.out _ D.out).2.1).mono ?_; rintro e w2 ⟨rfl, hb⟩; rw [hqR]; replace XR := jj (XR.out.below hb); replace XA := jj (XA.out.below hb); replace D := jj (D.out.below hb); clear hb a0 a1 r0 r1 r2 r3 r4 f0 f1 f2 f3 f4; obtain ⟨a0, a1, _⟩ := XA.out.c2; obtain ⟨r0, r1, r2, r3, r4, f0, f1, f2, f3, f4⟩ := XR.out.c5) | (go_at_call 37; refine (spec_node n _).mono ?_; rintro e w3 ⟨rfl, rfl⟩; rw [show isB n 1 5 = _ from hnR]) | (go_at_call 61; refine (spec_ill 1 _).mono ?_; rintro e w5 ⟨rfl, hb⟩; replace XR := jj (XR.out.below hb); replace XA := jj (XA.out.below hb); replace D := jj (D.out.below hb); clear hb a0 a1 r0 r1 r2 r3 r4 f0 f1 f2 f3 f4; obtain ⟨a0, a1, _⟩ := XA.out.c2; obtain ⟨r0, r1, r2, r3, r4, f0, f1, f2, f3, f4⟩ := XR.out.c5))
    have XF := cells_set5 XR.out (.slice none 0 0) (.slice none 0 0) (.int .i64 0) (.int .i64 0) (.int .i64 1)
    obtain ⟨q0, q1, q2, q3, q4, -⟩ := XF.c5
    refine bodyPost_ret (v := .agg #[.slice none 0 0, .slice none 0 0, .int .i64 0, .int .i64 0, .int .i64 1]) (by simp [results, Tryz.results93, go_sem, q0, q1, q2, q3, q4]) rfl ?_
    replace hno := hno.out
    rw [hno.1, hno.2.1, hno.2.2.1, hno.2.2.2.1, hno.2.2.2.2]
    exact givesSR_no 1 (D.out.within (within_set5 _ _ _ _ _ _ _) (by omega))
  cases hnR : nodeB n
  · have hno := jj (sp_form (l := l) (s := s) (q := q) (n := n) (d := d) (g := g) H0.out (fun h => by rw [h.2.2.1] at hnR; cases hnR))
    go_wp2_with (first | (go_at_call 40; refine (spec_setRight am as_ c1 c2 l s _ hl hs hd (R2.out _ D.out).1 (R2.out _ D.out).2.2).mono ?_; rintro e w1 ⟨rfl, hb⟩; rw [hsA]; replace XR := jj (XR.out.below hb); replace XA := jj (XA.out.below hb); replace D := jj (D.out.below hb); clear hb a0 a1 r0 r1 r2 r3 r4 f0 f1 f2 f3 f4; obtain ⟨a0, a1, _⟩ := XA.out.c2; obtain ⟨r0, r1, r2, r3, r4, f0, f1, f2, f3, f4⟩ := XR.out.c5) | (go_at_call 69; refine (spec_seenRight bm c3 q _ hq (R2.out _ D.out).2.1).mono ?_; rintro e w2 ⟨rfl, hb⟩; rw [hqR]; replace XR := jj (XR.out.below hb); replace XA := jj (XA.out.below hb); replace D := jj (D.out.below hb); clear hb a0 a1 r0 r1 r2 r3 r4 f0 f1 f2 f3 f4; obtain ⟨a0, a1, _⟩ := XA.out.c2; obtain ⟨r0, r1, r2, r3, r4, f0, f1, f2, f3, f4⟩ := XR.out.c5) | (go_at_call 37; refine (spec_node n _).mono ?_; rintro e w3 ⟨rfl, rfl⟩; rw [show isB n 1 5 = _ from hnR]) | (go_at_call 61; refine (spec_ill 1 _).mono ?_; rintro e w5 ⟨rfl, hb⟩; replace XR := jj (XR.out.below hb); replace XA := jj (XA.out.below hb); replace D := jj (D.out.below hb); clear hb a0 a1 r0 r1 r2 r3 r4 f0 f1 f2 f3 f4; obtain ⟨a0, a1, _⟩ := XA.out.c2; obtain ⟨r0, r1, r2, r3, r4, f0, f1, f2, f3, f4⟩ := XR.out.c5))
    have XF := cells_set5 XR.out (.slice none 0 0) (.slice none 0 0) (.int .i64 0) (.int .i64 0) (.int .i64 1)
    obtain ⟨q0, q1, q2, q3, q4, -⟩ := XF.c5
    refine bodyPost_ret (v := .agg #[.slice none 0 0, .slice none 0 0, .int .i64 0, .int .i64 0, .int .i64 1]) (by simp [results, Tryz.results93, go_sem, q0, q1, q2, q3, q4]) rfl ?_
    replace hno := hno.out
    rw [hno.1, hno.2.1, hno.2.2.1, hno.2.2.2.1, hno.2.2.2.2]
    exact givesSR_no 1 (D.out.within (within_set5 _ _ _ _ _ _ _) (by omega))
  cases hcR : contB d g
  rotate_left
  · exact absurd ⟨H0.out, hsA, hqR, hnR, hcR⟩ HBAD.out
  have hno := jj (sp_form (l := l) (s := s) (q := q) (n := n) (d := d) (g := g) H0.out (fun h => by rw [h.2.2.2] at hcR; cases hcR))
  by_cases h16 : d.size ≤ 16
  rotate_left
  · have h17 : decide ((16 : Int) < (d.size : Int)) = true := decide_eq_true (by omega)
    go_wp2_with (first | (go_at_call 40; refine (spec_setRight am as_ c1 c2 l s _ hl hs hd (R2.out _ D.out).1 (R2.out _ D.out).2.2).mono ?_; rintro e w1 ⟨rfl, hb⟩; rw [hsA]; replace XR := jj (XR.out.below hb); replace XA := jj (XA.out.below hb); replace D := jj (D.out.below hb); clear hb a0 a1 r0 r1 r2 r3 r4 f0 f1 f2 f3 f4; obtain ⟨a0, a1, _⟩ := XA.out.c2; obtain ⟨r0, r1, r2, r3, r4, f0, f1, f2, f3, f4⟩ := XR.out.c5) | (go_at_call 69; refine (spec_seenRight bm c3 q _ hq (R2.out _ D.out).2.1).mono ?_; rintro e w2 ⟨rfl, hb⟩; rw [hqR]; replace XR := jj (XR.out.below hb); replace XA := jj (XA.out.below hb); replace D := jj (D.out.below hb); clear hb a0 a1 r0 r1 r2 r3 r4 f0 f1 f2 f3 f4; obtain ⟨a0, a1, _⟩ := XA.out.c2; obtain ⟨r0, r1, r2, r3, r4, f0, f1, f2, f3, f4⟩ := XR.out.c5) | (go_at_call 37; refine (spec_node n _).mono ?_; rintro e w3 ⟨rfl, rfl⟩; rw [show isB n 1 5 = _ from hnR]) | (go_at_call 61; refine (spec_ill 1 _).mono ?_; rintro e w5 ⟨rfl, hb⟩; replace XR := jj (XR.out.below hb); replace XA := jj (XA.out.below hb); replace D := jj (D.out.below hb); clear hb a0 a1 r0 r1 r2 r3 r4 f0 f1 f2 f3 f4; obtain ⟨a0, a1, _⟩ := XA.out.c2; obtain ⟨r0, r1, r2, r3, r4, f0, f1, f2, f3, f4⟩ := XR.out.c5))
    have XF := cells_set5 XR.out (.slice none 0 0) (.slice none 0 0) (.int .i64 0) (.int .i64 0) (.int .i64 1)
    obtain ⟨q0, q1, q2, q3, q4, -⟩ := XF.c5
    refine bodyPost_ret (v := .agg #[.slice none 0 0, .slice none 0 0, .int .i64 0, .int .i64 0, .int .i64 1]) (by simp [results, Tryz.results93, go_sem, q0, q1, q2, q3, q4]) rfl ?_
    replace hno := hno.out
    rw [hno.1, hno.2.1, hno.2.2.1, hno.2.2.2.1, hno.2.2.2.2]
    exact givesSR_no 1 (D.out.within (within_set5 _ _ _ _ _ _ _) (by omega))
  have h17 : decide ((16 : Int) < (d.size : Int)) = false := decide_eq_false (by omega)
  have hg : g = true := by cases g with | true => rfl | false => (unfold contB at hcR; simp [h16] at hcR)
  subst hg
  have h00 : ¬ d.size = 0 := fun e => by unfold contB at hcR; simp [h16, e] at hcR
  have hne : d.toList.isEmpty = false := empty_no h00
  go_wp2_with (first | (go_at_call 40; refine (spec_setRight am as_ c1 c2 l s _ hl hs hd (R2.out _ D.out).1 (R2.out _ D.out).2.2).mono ?_; rintro e w1 ⟨rfl, hb⟩; rw [hsA]; replace XR := jj (XR.out.below hb); replace XA := jj (XA.out.below hb); replace D := jj (D.out.below hb); clear hb a0 a1 r0 r1 r2 r3 r4 f0 f1 f2 f3 f4; obtain ⟨a0, a1, _⟩ := XA.out.c2; obtain ⟨r0, r1, r2, r3, r4, f0, f1, f2, f3, f4⟩ := XR.out.c5) | (go_at_call 69; refine (spec_seenRight bm c3 q _ hq (R2.out _ D.out).2.1).mono ?_; rintro e w2 ⟨rfl, hb⟩; rw [hqR]; replace XR := jj (XR.out.below hb); replace XA := jj (XA.out.below hb); replace D := jj (D.out.below hb); clear hb a0 a1 r0 r1 r2 r3 r4 f0 f1 f2 f3 f4; obtain ⟨a0, a1, _⟩ := XA.out.c2; obtain ⟨r0, r1, r2, r3, r4, f0, f1, f2, f3, f4⟩ := XR.out.c5) | (go_at_call 37; refine (spec_node n _).mono ?_; rintro e w3 ⟨rfl, rfl⟩; rw [show isB n 1 5 = _ from hnR]) | (go_at_call 61; refine (spec_ill 1 _).mono ?_; rintro e w5 ⟨rfl, hb⟩; replace XR := jj (XR.out.below hb); replace XA := jj (XA.out.below hb); replace D := jj (D.out.below hb); clear hb a0 a1 r0 r1 r2 r3 r4 f0 f1 f2 f3 f4; obtain ⟨a0, a1, _⟩ := XA.out.c2; obtain ⟨r0, r1, r2, r3, r4, f0, f1, f2, f3, f4⟩ := XR.out.c5))
  have XF := cells_set5 XR.out (.slice none 0 0) (.slice none 0 0) (.int .i64 0) (.int .i64 0) (.int .i64 1)
  obtain ⟨q0, q1, q2, q3, q4, -⟩ := XF.c5
  refine bodyPost_ret (v := .agg #[.slice none 0 0, .slice none 0 0, .int .i64 0, .int .i64 0, .int .i64 1]) (by simp [results, Tryz.results93, go_sem, q0, q1, q2, q3, q4]) rfl ?_
  replace hno := hno.out
  rw [hno.1, hno.2.1, hno.2.2.1, hno.2.2.2.1, hno.2.2.2.2]
  exact givesSR_no 1 (D.out.within (within_set5 _ _ _ _ _ _ _) (by omega))
end Go.Proofs.YtiaoifodaoifjaaGreat.Sb
