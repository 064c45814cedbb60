/- The last parts of a law: SetPutNo, SetPutMath, SetPutS, SetOutVar, Join, Num, SeenBytes, StrRow, Values, ZLaw, SetPutLaw. No condition of its own. -/
import Derived.Test.YtgbcogncnhbmeaaSetPutI
import Derived.Test.YtgbcogncnhbmeaaSetSyncS
import Derived.Test.YtgbcogncnhbmeaaSeenS
import Derived.Test.YtgbcogncnhbmeaaSeenJoinS
import Derived.Test.YtgbcogncnhbmeaaSeenHasS
import Derived.Test.YtgbcogncnhbmeaaSpecIn
import Derived.Deep.RegionHeld3
import Derived.Deep.DeepCutAuto
import Derived.Deep.AppendLies
import Derived.Test.YtgbcogncnhbmeaaSetSyncI
import Derived.Test.YtgbcogncnhbmeaaBase
import Derived.Lib.BufferWrite
import Derived.Laws.CopyOwn
import Derived.Deep.OwnRows
import Derived.Test.YtgbcogncnhbmeaaRows
import Derived.Test.YtgbcogncnhbmeaaNumMath
import Derived.WalkKit
import Derived.ProofKit
import Derived.OpenShut
import Derived.ShutString
import Derived.Lib.Hide
import Derived.Deep.Light
import Derived.Laws.BitsAllLaws
import Derived.Laws.Bits128
import Derived.Laws.Bits64
import Derived.Laws.BytesArg
import Derived.Laws.IdiomStrings
import Derived.OwnWalk
import Derived.Maps.AppendAt
import Derived.Test.YtgbcogncnhbmeaaBytesMath
import Derived.Test.YtgbcogncnhbmeaaSeenI
import Derived.Test.YtgbcogncnhbmeaaFrame
import Derived.WalkArith
import Derived.Test.YtgbcogncnhbmeaaSetMark
import Derived.Test.YtgbcogncnhbmeaaSetRightI
import Derived.Test.YtgbcogncnhbmeaaSetRightS
import Derived.Test.YtgbcogncnhbmeaaSetOpen
set_option linter.unusedSimpArgs false
set_option linter.unusedVariables false
namespace Go.Proofs.Ytgbcogncnhbmeaa.Sb
open Go.RowKit Go.Proofs.Ytgbcogncnhbmeaa.Mk Go.Proofs.Ytgbcogncnhbmeaa.Rw

set_option maxRecDepth 100000 in
set_option maxHeartbeats 4000000 in
theorem spec_setPut_no (am as_ bm : Option Addr) (c1 c2 c3 : Nat) (l : List (Int × Int)) (s : List Sib) (q : List (Int × Int)) (n : Int) (d : ByteArray) (g : Bool) (w : World) (hl : l.length ≤ maxLen) (hs : s.length ≤ maxLen) (hq : q.length ≤ maxLen) (hdz : d.size ≤ maxLen) (hd : SmallData s) (hbad : ¬ ((q.length ≤ 400 ∧ d.size ≤ 8000) ∧ PutOk l s q n d g))
    (hma : MarksAt w am l) (hra : SibsAt w as_ s) (hmb : MarksAt w bm q) :
    Calls Try.prog 16 #[.agg #[.slice am l.length c1, .slice as_ s.length c2], .slice bm q.length c3, .int .i64 n, .string d, .bool g] w (GivesSO w (spSeen l s q n d g) (spSibs l s q n d g) (spX l s q n d g) (spY l s q n d g) (spC l s q n d g)) := by
  have R2 := Lib.hid (fun (W : World) (h : Base w W) => (⟨hma.mono h, hmb.mono h, SibsAt.mono hra h⟩ : MarksAt W am l ∧ MarksAt W bm q ∧ SibsAt W as_ s))
  clear hma hra hmb
  obtain ⟨W2, hW2⟩ : ∃ W2, (w.alloc (.cells #[.slice am l.length c1, .slice as_ s.length c2] 26)).alloc (.cells #[.slice none 0 0, .slice none 0 0, .int .i64 0, .int .i64 0, .int .i64 0] 32) = W2 := ⟨_, rfl⟩
  have hb1 := step_alloc w (.cells #[.slice am l.length c1, .slice as_ s.length c2] 26)
  have hb2 := step_alloc (w.alloc (.cells #[.slice am l.length c1, .slice as_ s.length c2] 26)) (.cells #[.slice none 0 0, .slice none 0 0, .int .i64 0, .int .i64 0, .int .i64 0] 32)
  have XA := Lib.hid ((Cells.new w #[.slice am l.length c1, .slice as_ s.length c2] 26).below hb2)
  have XR := Lib.hid (Cells.new (w.alloc (.cells #[.slice am l.length c1, .slice as_ s.length c2] 26)) #[.slice none 0 0, .slice none 0 0, .int .i64 0, .int .i64 0, .int .i64 0] 32)
  have D := Lib.hid (show Base w ((w.alloc (.cells #[.slice am l.length c1, .slice as_ s.length c2] 26)).alloc (.cells #[.slice none 0 0, .slice none 0 0, .int .i64 0, .int .i64 0, .int .i64 0] 32)) from hb1.trans (hb2.mono (by simp)))
  have hsz : ((w.alloc (.cells #[.slice am l.length c1, .slice as_ s.length c2] 26)).alloc (.cells #[.slice none 0 0, .slice none 0 0, .int .i64 0, .int .i64 0, .int .i64 0] 32)).heap.size = w.heap.size + 2 := by simp
  simp only [World.size_alloc, List.toList_toArray] at XA XR
  clear hb1 hb2
  rw [hW2] at XA
  rw [hW2] at XR
  rw [hW2] at D
  rw [hW2] at hsz
  have HBAD := Lib.hid hbad
  clear hbad
  go_enter Try.func16, Try.ntmps16
  go_upto_region 1 with fail
  clear hW2
  obtain ⟨a0, a1, _⟩ := XA.out.c2
  obtain ⟨r0, r1, r2, r3, r4, f0, f1, f2, f3, f4⟩ := XR.out.c5
  by_cases hq4 : q.length ≤ 400
  rotate_left
  · have hno := Lib.hid (sp_size (l := l) (s := s) (q := q) (n := n) (d := d) (g := g) (fun h => hq4 h.1))
    have hq5 : decide ((400 : Int) < (q.length : Int)) = true := decide_eq_true (by omega)
    go_wp2_with ((go_at_call 66; refine (spec_ill 2 _).mono ?_; rintro e w5 ⟨rfl, hb⟩; replace XR := Lib.hid (XR.out.below hb); replace XA := Lib.hid (XA.out.below hb); replace D := Lib.hid (D.out.below hb); clear hb a0 a1 r0 r1 r2 r3 r4 f0 f1 f2 f3 f4; obtain ⟨a0, a1, _⟩ := XA.out.c2; obtain ⟨r0, r1, r2, r3, r4, f0, f1, f2, f3, f4⟩ := XR.out.c5))
    have XF := cells_set5 XR.out (.slice none 0 0) (.slice none 0 0) (.int .i64 0) (.int .i64 0) (.int .i64 2)
    obtain ⟨q0, q1, q2, q3, q4, -⟩ := XF.c5
    refine bodyPost_ret (v := .agg #[.slice none 0 0, .slice none 0 0, .int .i64 0, .int .i64 0, .int .i64 2]) (by simp [results, Try.results16, go_sem, q0, q1, q2, q3, q4]) rfl ?_
    replace hno := hno.out
    rw [hno.1, hno.2.1, hno.2.2.1, hno.2.2.2.1, hno.2.2.2.2]
    exact givesSO_no 2 (D.out.within (within_set5 _ _ _ _ _ _ _) (by omega))
  have hq5 : decide ((400 : Int) < (q.length : Int)) = false := decide_eq_false (by omega)
  by_cases hd8 : d.size ≤ 8000
  rotate_left
  · have hno := Lib.hid (sp_size (l := l) (s := s) (q := q) (n := n) (d := d) (g := g) (fun h => hd8 h.2))
    have hd9 : decide ((8000 : Int) < (d.size : Int)) = true := decide_eq_true (by omega)
    go_wp2_with ((go_at_call 66; refine (spec_ill 2 _).mono ?_; rintro e w5 ⟨rfl, hb⟩; replace XR := Lib.hid (XR.out.below hb); replace XA := Lib.hid (XA.out.below hb); replace D := Lib.hid (D.out.below hb); clear hb a0 a1 r0 r1 r2 r3 r4 f0 f1 f2 f3 f4; obtain ⟨a0, a1, _⟩ := XA.out.c2; obtain ⟨r0, r1, r2, r3, r4, f0, f1, f2, f3, f4⟩ := XR.out.c5))
    have XF := cells_set5 XR.out (.slice none 0 0) (.slice none 0 0) (.int .i64 0) (.int .i64 0) (.int .i64 2)
    obtain ⟨q0, q1, q2, q3, q4, -⟩ := XF.c5
    refine bodyPost_ret (v := .agg #[.slice none 0 0, .slice none 0 0, .int .i64 0, .int .i64 0, .int .i64 2]) (by simp [results, Try.results16, go_sem, q0, q1, q2, q3, q4]) rfl ?_
    replace hno := hno.out
    rw [hno.1, hno.2.1, hno.2.2.1, hno.2.2.2.1, hno.2.2.2.2]
    exact givesSO_no 2 (D.out.within (within_set5 _ _ _ _ _ _ _) (by omega))
  have hd9 : decide ((8000 : Int) < (d.size : Int)) = false := decide_eq_false (by omega)
  have H0 := Lib.hid (⟨hq4, hd8⟩ : q.length ≤ 400 ∧ d.size ≤ 8000)
  cases hsA : setB l s
  · have hno := Lib.hid (sp_form (l := l) (s := s) (q := q) (n := n) (d := d) (g := g) H0.out (fun h => by rw [h.1] at hsA; cases hsA))
    go_wp2_with (first | (go_at_call 25; refine (spec_setRight am as_ c1 c2 l s _ hl hs hd (R2.out _ D.out).1 (R2.out _ D.out).2.2).mono ?_; rintro e w1 ⟨rfl, hb⟩; rw [hsA]; replace XR := Lib.hid (XR.out.below hb); replace XA := Lib.hid (XA.out.below hb); replace D := Lib.hid (D.out.below hb); clear hb a0 a1 r0 r1 r2 r3 r4 f0 f1 f2 f3 f4; obtain ⟨a0, a1, _⟩ := XA.out.c2; obtain ⟨r0, r1, r2, r3, r4, f0, f1, f2, f3, f4⟩ := XR.out.c5) | (go_at_call 67; refine (spec_seenRight bm c3 q _ hq (R2.out _ D.out).2.1).mono ?_; rintro e w2 ⟨rfl, hb⟩; rw [hqR]; replace XR := Lib.hid (XR.out.below hb); replace XA := Lib.hid (XA.out.below hb); replace D := Lib.hid (D.out.below hb); clear hb a0 a1 r0 r1 r2 r3 r4 f0 f1 f2 f3 f4; obtain ⟨a0, a1, _⟩ := XA.out.c2; obtain ⟨r0, r1, r2, r3, r4, f0, f1, f2, f3, f4⟩ := XR.out.c5) | (go_at_call 68; refine (spec_node n _).mono ?_; rintro e w3 ⟨rfl, rfl⟩; rw [show isB n 1 5 = _ from hnR]) | (go_at_call 66; refine (spec_ill 1 _).mono ?_; rintro e w5 ⟨rfl, hb⟩; replace XR := Lib.hid (XR.out.below hb); replace XA := Lib.hid (XA.out.below hb); replace D := Lib.hid (D.out.below hb); clear hb a0 a1 r0 r1 r2 r3 r4 f0 f1 f2 f3 f4; obtain ⟨a0, a1, _⟩ := XA.out.c2; obtain ⟨r0, r1, r2, r3, r4, f0, f1, f2, f3, f4⟩ := XR.out.c5))
    have XF := cells_set5 XR.out (.slice none 0 0) (.slice none 0 0) (.int .i64 0) (.int .i64 0) (.int .i64 1)
    obtain ⟨q0, q1, q2, q3, q4, -⟩ := XF.c5
    refine bodyPost_ret (v := .agg #[.slice none 0 0, .slice none 0 0, .int .i64 0, .int .i64 0, .int .i64 1]) (by simp [results, Try.results16, go_sem, q0, q1, q2, q3, q4]) rfl ?_
    replace hno := hno.out
    rw [hno.1, hno.2.1, hno.2.2.1, hno.2.2.2.1, hno.2.2.2.2]
    exact givesSO_no 1 (D.out.within (within_set5 _ _ _ _ _ _ _) (by omega))
  cases hqR : rightB q
  · have hno := Lib.hid (sp_form (l := l) (s := s) (q := q) (n := n) (d := d) (g := g) H0.out (fun h => by rw [h.2.1] at hqR; cases hqR))
    go_wp2_with (first | (go_at_call 25; refine (spec_setRight am as_ c1 c2 l s _ hl hs hd (R2.out _ D.out).1 (R2.out _ D.out).2.2).mono ?_; rintro e w1 ⟨rfl, hb⟩; rw [hsA]; replace XR := Lib.hid (XR.out.below hb); replace XA := Lib.hid (XA.out.below hb); replace D := Lib.hid (D.out.below hb); clear hb a0 a1 r0 r1 r2 r3 r4 f0 f1 f2 f3 f4; obtain ⟨a0, a1, _⟩ := XA.out.c2; obtain ⟨r0, r1, r2, r3, r4, f0, f1, f2, f3, f4⟩ := XR.out.c5) | (go_at_call 67; refine (spec_seenRight bm c3 q _ hq (R2.out _ D.out).2.1).mono ?_; rintro e w2 ⟨rfl, hb⟩; rw [hqR]; replace XR := Lib.hid (XR.out.below hb); replace XA := Lib.hid (XA.out.below hb); replace D := Lib.hid (D.out.below hb); clear hb a0 a1 r0 r1 r2 r3 r4 f0 f1 f2 f3 f4; obtain ⟨a0, a1, _⟩ := XA.out.c2; obtain ⟨r0, r1, r2, r3, r4, f0, f1, f2, f3, f4⟩ := XR.out.c5) | (go_at_call 68; refine (spec_node n _).mono ?_; rintro e w3 ⟨rfl, rfl⟩; rw [show isB n 1 5 = _ from hnR]) | (go_at_call 66; refine (spec_ill 1 _).mono ?_; rintro e w5 ⟨rfl, hb⟩; replace XR := Lib.hid (XR.out.below hb); replace XA := Lib.hid (XA.out.below hb); replace D := Lib.hid (D.out.below hb); clear hb a0 a1 r0 r1 r2 r3 r4 f0 f1 f2 f3 f4; obtain ⟨a0, a1, _⟩ := XA.out.c2; obtain ⟨r0, r1, r2, r3, r4, f0, f1, f2, f3, f4⟩ := XR.out.c5))
    have XF := cells_set5 XR.out (.slice none 0 0) (.slice none 0 0) (.int .i64 0) (.int .i64 0) (.int .i64 1)
    obtain ⟨q0, q1, q2, q3, q4, -⟩ := XF.c5
    refine bodyPost_ret (v := .agg #[.slice none 0 0, .slice none 0 0, .int .i64 0, .int .i64 0, .int .i64 1]) (by simp [results, Try.results16, go_sem, q0, q1, q2, q3, q4]) rfl ?_
    replace hno := hno.out
    rw [hno.1, hno.2.1, hno.2.2.1, hno.2.2.2.1, hno.2.2.2.2]
    exact givesSO_no 1 (D.out.within (within_set5 _ _ _ _ _ _ _) (by omega))
  cases hnR : nodeB n
  · have hno := Lib.hid (sp_form (l := l) (s := s) (q := q) (n := n) (d := d) (g := g) H0.out (fun h => by rw [h.2.2.1] at hnR; cases hnR))
    go_wp2_with (first | (go_at_call 25; refine (spec_setRight am as_ c1 c2 l s _ hl hs hd (R2.out _ D.out).1 (R2.out _ D.out).2.2).mono ?_; rintro e w1 ⟨rfl, hb⟩; rw [hsA]; replace XR := Lib.hid (XR.out.below hb); replace XA := Lib.hid (XA.out.below hb); replace D := Lib.hid (D.out.below hb); clear hb a0 a1 r0 r1 r2 r3 r4 f0 f1 f2 f3 f4; obtain ⟨a0, a1, _⟩ := XA.out.c2; obtain ⟨r0, r1, r2, r3, r4, f0, f1, f2, f3, f4⟩ := XR.out.c5) | (go_at_call 67; refine (spec_seenRight bm c3 q _ hq (R2.out _ D.out).2.1).mono ?_; rintro e w2 ⟨rfl, hb⟩; rw [hqR]; replace XR := Lib.hid (XR.out.below hb); replace XA := Lib.hid (XA.out.below hb); replace D := Lib.hid (D.out.below hb); clear hb a0 a1 r0 r1 r2 r3 r4 f0 f1 f2 f3 f4; obtain ⟨a0, a1, _⟩ := XA.out.c2; obtain ⟨r0, r1, r2, r3, r4, f0, f1, f2, f3, f4⟩ := XR.out.c5) | (go_at_call 68; refine (spec_node n _).mono ?_; rintro e w3 ⟨rfl, rfl⟩; rw [show isB n 1 5 = _ from hnR]) | (go_at_call 66; refine (spec_ill 1 _).mono ?_; rintro e w5 ⟨rfl, hb⟩; replace XR := Lib.hid (XR.out.below hb); replace XA := Lib.hid (XA.out.below hb); replace D := Lib.hid (D.out.below hb); clear hb a0 a1 r0 r1 r2 r3 r4 f0 f1 f2 f3 f4; obtain ⟨a0, a1, _⟩ := XA.out.c2; obtain ⟨r0, r1, r2, r3, r4, f0, f1, f2, f3, f4⟩ := XR.out.c5))
    have XF := cells_set5 XR.out (.slice none 0 0) (.slice none 0 0) (.int .i64 0) (.int .i64 0) (.int .i64 1)
    obtain ⟨q0, q1, q2, q3, q4, -⟩ := XF.c5
    refine bodyPost_ret (v := .agg #[.slice none 0 0, .slice none 0 0, .int .i64 0, .int .i64 0, .int .i64 1]) (by simp [results, Try.results16, go_sem, q0, q1, q2, q3, q4]) rfl ?_
    replace hno := hno.out
    rw [hno.1, hno.2.1, hno.2.2.1, hno.2.2.2.1, hno.2.2.2.2]
    exact givesSO_no 1 (D.out.within (within_set5 _ _ _ _ _ _ _) (by omega))
  cases hcR : contB d g
  rotate_left
  · exact absurd ⟨H0.out, hsA, hqR, hnR, hcR⟩ HBAD.out
  have hno := Lib.hid (sp_form (l := l) (s := s) (q := q) (n := n) (d := d) (g := g) H0.out (fun h => by rw [h.2.2.2] at hcR; cases hcR))
  by_cases h16 : d.size ≤ 16
  rotate_left
  · have h17 : decide ((16 : Int) < (d.size : Int)) = true := decide_eq_true (by omega)
    go_wp2_with (first | (go_at_call 25; refine (spec_setRight am as_ c1 c2 l s _ hl hs hd (R2.out _ D.out).1 (R2.out _ D.out).2.2).mono ?_; rintro e w1 ⟨rfl, hb⟩; rw [hsA]; replace XR := Lib.hid (XR.out.below hb); replace XA := Lib.hid (XA.out.below hb); replace D := Lib.hid (D.out.below hb); clear hb a0 a1 r0 r1 r2 r3 r4 f0 f1 f2 f3 f4; obtain ⟨a0, a1, _⟩ := XA.out.c2; obtain ⟨r0, r1, r2, r3, r4, f0, f1, f2, f3, f4⟩ := XR.out.c5) | (go_at_call 67; refine (spec_seenRight bm c3 q _ hq (R2.out _ D.out).2.1).mono ?_; rintro e w2 ⟨rfl, hb⟩; rw [hqR]; replace XR := Lib.hid (XR.out.below hb); replace XA := Lib.hid (XA.out.below hb); replace D := Lib.hid (D.out.below hb); clear hb a0 a1 r0 r1 r2 r3 r4 f0 f1 f2 f3 f4; obtain ⟨a0, a1, _⟩ := XA.out.c2; obtain ⟨r0, r1, r2, r3, r4, f0, f1, f2, f3, f4⟩ := XR.out.c5) | (go_at_call 68; refine (spec_node n _).mono ?_; rintro e w3 ⟨rfl, rfl⟩; rw [show isB n 1 5 = _ from hnR]) | (go_at_call 66; refine (spec_ill 1 _).mono ?_; rintro e w5 ⟨rfl, hb⟩; replace XR := Lib.hid (XR.out.below hb); replace XA := Lib.hid (XA.out.below hb); replace D := Lib.hid (D.out.below hb); clear hb a0 a1 r0 r1 r2 r3 r4 f0 f1 f2 f3 f4; obtain ⟨a0, a1, _⟩ := XA.out.c2; obtain ⟨r0, r1, r2, r3, r4, f0, f1, f2, f3, f4⟩ := XR.out.c5))
    have XF := cells_set5 XR.out (.slice none 0 0) (.slice none 0 0) (.int .i64 0) (.int .i64 0) (.int .i64 1)
    obtain ⟨q0, q1, q2, q3, q4, -⟩ := XF.c5
    refine bodyPost_ret (v := .agg #[.slice none 0 0, .slice none 0 0, .int .i64 0, .int .i64 0, .int .i64 1]) (by simp [results, Try.results16, go_sem, q0, q1, q2, q3, q4]) rfl ?_
    replace hno := hno.out
    rw [hno.1, hno.2.1, hno.2.2.1, hno.2.2.2.1, hno.2.2.2.2]
    exact givesSO_no 1 (D.out.within (within_set5 _ _ _ _ _ _ _) (by omega))
  have h17 : decide ((16 : Int) < (d.size : Int)) = false := decide_eq_false (by omega)
  have hg : g = true := by cases g with | true => rfl | false => (unfold contB at hcR; simp [h16] at hcR)
  subst hg
  have h00 : ¬ d.size = 0 := fun e => by unfold contB at hcR; simp [h16, e] at hcR
  have hne : d.toList.isEmpty = false := empty_no h00
  go_wp2_with (first | (go_at_call 25; refine (spec_setRight am as_ c1 c2 l s _ hl hs hd (R2.out _ D.out).1 (R2.out _ D.out).2.2).mono ?_; rintro e w1 ⟨rfl, hb⟩; rw [hsA]; replace XR := Lib.hid (XR.out.below hb); replace XA := Lib.hid (XA.out.below hb); replace D := Lib.hid (D.out.below hb); clear hb a0 a1 r0 r1 r2 r3 r4 f0 f1 f2 f3 f4; obtain ⟨a0, a1, _⟩ := XA.out.c2; obtain ⟨r0, r1, r2, r3, r4, f0, f1, f2, f3, f4⟩ := XR.out.c5) | (go_at_call 67; refine (spec_seenRight bm c3 q _ hq (R2.out _ D.out).2.1).mono ?_; rintro e w2 ⟨rfl, hb⟩; rw [hqR]; replace XR := Lib.hid (XR.out.below hb); replace XA := Lib.hid (XA.out.below hb); replace D := Lib.hid (D.out.below hb); clear hb a0 a1 r0 r1 r2 r3 r4 f0 f1 f2 f3 f4; obtain ⟨a0, a1, _⟩ := XA.out.c2; obtain ⟨r0, r1, r2, r3, r4, f0, f1, f2, f3, f4⟩ := XR.out.c5) | (go_at_call 68; refine (spec_node n _).mono ?_; rintro e w3 ⟨rfl, rfl⟩; rw [show isB n 1 5 = _ from hnR]) | (go_at_call 66; refine (spec_ill 1 _).mono ?_; rintro e w5 ⟨rfl, hb⟩; replace XR := Lib.hid (XR.out.below hb); replace XA := Lib.hid (XA.out.below hb); replace D := Lib.hid (D.out.below hb); clear hb a0 a1 r0 r1 r2 r3 r4 f0 f1 f2 f3 f4; obtain ⟨a0, a1, _⟩ := XA.out.c2; obtain ⟨r0, r1, r2, r3, r4, f0, f1, f2, f3, f4⟩ := XR.out.c5))
  have XF := cells_set5 XR.out (.slice none 0 0) (.slice none 0 0) (.int .i64 0) (.int .i64 0) (.int .i64 1)
  obtain ⟨q0, q1, q2, q3, q4, -⟩ := XF.c5
  refine bodyPost_ret (v := .agg #[.slice none 0 0, .slice none 0 0, .int .i64 0, .int .i64 0, .int .i64 1]) (by simp [results, Try.results16, go_sem, q0, q1, q2, q3, q4]) rfl ?_
  replace hno := hno.out
  rw [hno.1, hno.2.1, hno.2.2.1, hno.2.2.2.1, hno.2.2.2.2]
  exact givesSO_no 1 (D.out.within (within_set5 _ _ _ _ _ _ _) (by omega))
end Go.Proofs.Ytgbcogncnhbmeaa.Sb

set_option linter.unusedSimpArgs false
set_option linter.unusedVariables false
namespace Go.Proofs.Ytgbcogncnhbmeaa.Sb
open Go.RowKit Go.Proofs.Ytgbcogncnhbmeaa.Mk Go.Proofs.Ytgbcogncnhbmeaa.Rw

theorem collect_uns {l : List (Int × Int)} {s : List Sib} (q : List (Int × Int)) (h : setB l s = true) : collect (uns s q) = uns s q := collect_inc (Inc.filter (of_decide_eq_true h : SetOk l s).2.2.2 _)
theorem joinTo_len (a b : List (Int × Int)) : (joinTo a b 5).length ≤ 5 := by
  unfold joinTo
  exact Nat.le_trans (List.length_filterMap_le _ _) (by simp)
theorem putL_len (l : List (Int × Int)) (m : Int × Int) : (putL l m).length ≤ 5 := by
  unfold putL
  split
  · exact joinTo_len l [m]
  · simp
theorem put_join {l q : List (Int × Int)} {n : Int} (hl : rightB l = true) (hq : rightB q = true) (hn : nodeB n = true) (hv : putN l q n ≤ 1000000) :
    putL (joinV l q) (n, putN l q n) = joinTo (joinTo l q 5) [(n, putN l q n)] 5 := by
  have hr := join_right hl hq
  have hj : joinV l q = joinTo l q 5 := if_pos ⟨hl, hq⟩
  have h1 : 1 ≤ putN l q n := by
    unfold putN seenOf
    rw [if_pos hr]
    have := (ofL_nonneg hr n).1
    omega
  have hd : dotB (n, putN l q n) = true := by
    unfold nodeB at hn
    rw [Bool.and_eq_true, decide_eq_true_eq, decide_eq_true_eq] at hn
    unfold dotB
    simp [isB]
    omega
  unfold putL
  rw [if_pos ⟨Nat.le_trans (joinV_length l q) (by decide), hr, hd⟩, hj]
section
variable (l : List (Int × Int)) (s : List Sib) (q : List (Int × Int)) (n : Int) (d : ByteArray) (g : Bool)
theorem spSeen_len : (spSeen l s q n d g).length ≤ 5 := by
  unfold spSeen
  split
  · exact putL_len _ _
  · simp
theorem spSibs_len : (spSibs l s q n d g).length ≤ 8 := by
  unfold spSibs
  split
  · rename_i h
    unfold spC at h
    split at h
    · split at h
      · split at h
        · rename_i h8; exact h8.2
        · cases h
      · cases h
    · cases h
  · simp
end
end Go.Proofs.Ytgbcogncnhbmeaa.Sb

set_option linter.unusedSimpArgs false
set_option linter.unusedVariables false
namespace Go.Proofs.Ytgbcogncnhbmeaa.Sb
open Go.RowKit Go.Proofs.Ytgbcogncnhbmeaa.Mk Go.Proofs.Ytgbcogncnhbmeaa.Rw

theorem uns_yes {s : List Sib} {q : List (Int × Int)} {k : Nat} (h : k < s.length) (h1 : hasB q s[k].1 = true) : uns (s.take (k + 1)) q = uns (s.take k) q := by rw [uns_take _ _ _ h, if_pos h1, List.append_nil]
theorem uns_no {s : List Sib} {q : List (Int × Int)} {k : Nat} (h : k < s.length) (h1 : hasB q s[k].1 = false) : uns (s.take (k + 1)) q = uns (s.take k) q ++ [s[k]] := by rw [uns_take _ _ _ h, if_neg (by rw [h1]; decide)]
/-- what stands while spec.SetPut goes through the Sibs; x: the value in the cell of out.Sibs, v: the row that is made -/
structure Pst (w wr : World) (O : Nat) (va : List Value) (ja : Option Addr) (jc : Nat) (J : List (Int × Int)) (x v : Value) (S : List Sib) : Prop where
  xa : Cells wr w.heap.size va
  xr : Cells wr (w.heap.size + 1) [.slice none 0 0, .slice none 0 0, .int .i64 0, .int .i64 0, .int .i64 0]
  xo : Cells wr O [.slice ja J.length jc, x]
  jo : OwnIn wr (w.heap.size + 2) O ja J
  so : wr.ownsRow (O + 1) 48 4 v S.length (flatE 4 senc S)
  d : Base w wr
  ol : w.heap.size + 2 ≤ O
section
variable {w wr w' : World} {O : Nat} {va : List Value} {ja : Option Addr} {jc : Nat} {J : List (Int × Int)} {x v v' : Value} {S S' : List Sib}
theorem Pst.below (h : Pst w wr O va ja jc J x v S) (hb : Below wr.heap.size wr w') : Pst w w' O va ja jc J x v S :=
  ⟨h.xa.below hb, h.xr.below hb, h.xo.below hb, h.jo.same (Same.of_below hb (by have := h.xo.lt; omega)), own_below h.so hb, h.d.below hb, h.ol⟩
theorem pst_start {w5 : World} (xa : Cells w5 w.heap.size va) (xr : Cells w5 (w.heap.size + 1) [.slice none 0 0, .slice none 0 0, .int .i64 0, .int .i64 0, .int .i64 0]) (jo : OwnIn w5 (w.heap.size + 2) w5.heap.size ja J) (d : Base w w5) :
    Pst w (w5.alloc (.cells #[.slice ja J.length jc, .slice none 0 0] 26)) w5.heap.size va ja jc J (.slice none 0 0) (.slice none 0 0) [] := by
  have hb := step_alloc w5 (.cells #[.slice ja J.length jc, .slice none 0 0] 26)
  have XO := Cells.new w5 #[.slice ja J.length jc, .slice none 0 0] 26
  exact ⟨xa.below hb, xr.below hb, XO, jo.same (Same.of_below hb (Nat.le_refl _)), World.ownsRow_nil _ _ _ _, d.below hb, xr.lt⟩
theorem Pst.grew (h : Pst w wr O va ja jc J x v S) (hb : Below (O + 1) wr w') (hs : w'.ownsRow (O + 1) 48 4 v' S'.length (flatE 4 senc S')) : Pst w w' O va ja jc J x v' S' := by
  have ho := h.ol
  have hO := h.xo.lt
  exact ⟨h.xa.same (hb.block _ (by omega)) hb.size, h.xr.same (hb.block _ (by omega)) hb.size, h.xo.same (hb.block _ (by omega)) hb.size, h.jo.same (Same.of_below hb (by omega)), hs, Below.trans h.d (hb.mono (by omega)), ho⟩
theorem Pst.put (h : Pst w wr O va ja jc J x v S) : Pst w (wr.setCell ⟨O, 1, none⟩ v) O va ja jc J v v S := by
  have hw := one_store wr O 1 v
  have ho := h.ol
  have hO := h.xo.lt
  exact ⟨h.xa.within hw (by omega), h.xr.within hw (by omega), h.xo.set 1 (by simp) v, h.jo.same (fun b h3 h4 => hw.block b (by omega) (.inl (by omega))), own_within h.so hw (Nat.le_refl _), h.d.within hw (by omega), ho⟩
end
set_option maxRecDepth 100000 in
set_option maxHeartbeats 8000000 in
theorem spec_setPut_ok (am as_ bm : Option Addr) (c1 c2 c3 : Nat) (l : List (Int × Int)) (s : List Sib) (q : List (Int × Int)) (n : Int) (d : ByteArray) (g : Bool) (w : World) (hl : l.length ≤ maxLen) (hs : s.length ≤ maxLen) (hq : q.length ≤ maxLen) (hdz : d.size ≤ maxLen) (hd : SmallData s)
    (hma : MarksAt w am l) (hra : SibsAt w as_ s) (hmb : MarksAt w bm q) (h0 : q.length ≤ 400 ∧ d.size ≤ 8000) (hok : PutOk l s q n d g) :
    Calls Try.prog 16 #[.agg #[.slice am l.length c1, .slice as_ s.length c2], .slice bm q.length c3, .int .i64 n, .string d, .bool g] w (GivesSO w (spSeen l s q n d g) (spSibs l s q n d g) (spX l s q n d g) (spY l s q n d g) (spC l s q n d g)) := by
  have R2 := Lib.hid (fun (W : World) (h : Base w W) => (⟨hma.mono h, hmb.mono h, SibsAt.mono hra h⟩ : MarksAt W am l ∧ MarksAt W bm q ∧ SibsAt W as_ s))
  clear hma hra hmb
  obtain ⟨hq4, hd8⟩ := h0
  have H0 := Lib.hid (⟨hq4, hd8⟩ : q.length ≤ 400 ∧ d.size ≤ 8000)
  have HOK := Lib.hid hok
  obtain ⟨hsA, hqR, hnR, hcR⟩ := hok
  have h16 : d.size ≤ 16 := by unfold contB at hcR; rw [Bool.and_eq_true, decide_eq_true_eq] at hcR; exact hcR.1
  have h17 : decide ((16 : Int) < (d.size : Int)) = false := decide_eq_false (by omega)
  have hq5 : decide ((400 : Int) < (q.length : Int)) = false := decide_eq_false (by omega)
  have hd9 : decide ((8000 : Int) < (d.size : Int)) = false := decide_eq_false (by omega)
  have hs8 := setB_len hsA
  obtain ⟨W2, hW2⟩ : ∃ W2, (w.alloc (.cells #[.slice am l.length c1, .slice as_ s.length c2] 26)).alloc (.cells #[.slice none 0 0, .slice none 0 0, .int .i64 0, .int .i64 0, .int .i64 0] 32) = W2 := ⟨_, rfl⟩
  have hb1 := step_alloc w (.cells #[.slice am l.length c1, .slice as_ s.length c2] 26)
  have hb2 := step_alloc (w.alloc (.cells #[.slice am l.length c1, .slice as_ s.length c2] 26)) (.cells #[.slice none 0 0, .slice none 0 0, .int .i64 0, .int .i64 0, .int .i64 0] 32)
  have XA := Lib.hid ((Cells.new w #[.slice am l.length c1, .slice as_ s.length c2] 26).below hb2)
  have XR := Lib.hid (Cells.new (w.alloc (.cells #[.slice am l.length c1, .slice as_ s.length c2] 26)) #[.slice none 0 0, .slice none 0 0, .int .i64 0, .int .i64 0, .int .i64 0] 32)
  have D := Lib.hid (show Base w ((w.alloc (.cells #[.slice am l.length c1, .slice as_ s.length c2] 26)).alloc (.cells #[.slice none 0 0, .slice none 0 0, .int .i64 0, .int .i64 0, .int .i64 0] 32)) from hb1.trans (hb2.mono (by simp)))
  simp only [World.size_alloc, List.toList_toArray] at XA XR
  clear hb1 hb2
  rw [hW2] at XA
  rw [hW2] at XR
  rw [hW2] at D
  go_enter Try.func16, Try.ntmps16
  go_upto_region 3 with fail
  have DD := Lib.hid (Below.refl W2.heap.size W2)
  clear hW2
  go_cut [48] (fun sl wx => sl = .bool false ∧ Below W2.heap.size W2 wx)
  case first =>
    obtain ⟨a0, a1, _⟩ := XA.out.c2
    obtain ⟨r0, r1, r2, r3, r4, f0, f1, f2, f3, f4⟩ := XR.out.c5
    cases g
    · go_wp2_with (first | (go_at_call 25; refine (spec_setRight am as_ c1 c2 l s _ hl hs hd (R2.out _ D.out).1 (R2.out _ D.out).2.2).mono ?_; rintro e w1 ⟨rfl, hb⟩; rw [hsA]; replace XR := Lib.hid (XR.out.below hb); replace XA := Lib.hid (XA.out.below hb); replace D := Lib.hid (D.out.below hb); replace DD := Lib.hid (DD.out.trans (hb.mono DD.out.size)); clear hb a0 a1 r0 r1 r2 r3 r4 f0 f1 f2 f3 f4; obtain ⟨a0, a1, _⟩ := XA.out.c2; obtain ⟨r0, r1, r2, r3, r4, f0, f1, f2, f3, f4⟩ := XR.out.c5) | (go_at_call 67; refine (spec_seenRight bm c3 q _ hq (R2.out _ D.out).2.1).mono ?_; rintro e w2 ⟨rfl, hb⟩; rw [hqR]; replace XR := Lib.hid (XR.out.below hb); replace XA := Lib.hid (XA.out.below hb); replace D := Lib.hid (D.out.below hb); replace DD := Lib.hid (DD.out.trans (hb.mono DD.out.size)); clear hb a0 a1 r0 r1 r2 r3 r4 f0 f1 f2 f3 f4; obtain ⟨a0, a1, _⟩ := XA.out.c2; obtain ⟨r0, r1, r2, r3, r4, f0, f1, f2, f3, f4⟩ := XR.out.c5) | (go_at_call 68; refine (spec_node n _).mono ?_; rintro e w3 ⟨rfl, rfl⟩; rw [show isB n 1 5 = _ from hnR]))
      go_meet
      exact ⟨rfl, DD.out⟩
    · have h00 : d.size = 0 := by unfold contB at hcR; simpa [h16] using hcR
      have hne : d.toList.isEmpty = true := empty_yes h00
      go_wp2_with (first | (go_at_call 25; refine (spec_setRight am as_ c1 c2 l s _ hl hs hd (R2.out _ D.out).1 (R2.out _ D.out).2.2).mono ?_; rintro e w1 ⟨rfl, hb⟩; rw [hsA]; replace XR := Lib.hid (XR.out.below hb); replace XA := Lib.hid (XA.out.below hb); replace D := Lib.hid (D.out.below hb); replace DD := Lib.hid (DD.out.trans (hb.mono DD.out.size)); clear hb a0 a1 r0 r1 r2 r3 r4 f0 f1 f2 f3 f4; obtain ⟨a0, a1, _⟩ := XA.out.c2; obtain ⟨r0, r1, r2, r3, r4, f0, f1, f2, f3, f4⟩ := XR.out.c5) | (go_at_call 67; refine (spec_seenRight bm c3 q _ hq (R2.out _ D.out).2.1).mono ?_; rintro e w2 ⟨rfl, hb⟩; rw [hqR]; replace XR := Lib.hid (XR.out.below hb); replace XA := Lib.hid (XA.out.below hb); replace D := Lib.hid (D.out.below hb); replace DD := Lib.hid (DD.out.trans (hb.mono DD.out.size)); clear hb a0 a1 r0 r1 r2 r3 r4 f0 f1 f2 f3 f4; obtain ⟨a0, a1, _⟩ := XA.out.c2; obtain ⟨r0, r1, r2, r3, r4, f0, f1, f2, f3, f4⟩ := XR.out.c5) | (go_at_call 68; refine (spec_node n _).mono ?_; rintro e w3 ⟨rfl, rfl⟩; rw [show isB n 1 5 = _ from hnR]))
      go_meet
      exact ⟨rfl, DD.out⟩
  case rest =>
    obtain ⟨rfl, hb⟩ := hcut
    replace XR := Lib.hid (XR.out.below hb)
    replace XA := Lib.hid (XA.out.below hb)
    replace D := Lib.hid (D.out.below hb)
    clear hb DD
    obtain ⟨a0, a1, _⟩ := XA.out.c2
    obtain ⟨r0, r1, r2, r3, r4, f0, f1, f2, f3, f4⟩ := XR.out.c5
    go_upto_region 6 with (go_at_call 69; refine (spec_join am bm c1 c3 l q _ hl hq (R2.out _ D.out).1 (R2.out _ D.out).2.1).mono ?_; rintro e w5 ⟨ja, jc, rfl, hjo, hb⟩; have JO := Lib.hid (hjo.wide (show w.heap.size + 2 ≤ _ from XR.out.lt) (Nat.le_refl _)); have hz5 := XR.out.lt; replace XR := Lib.hid (XR.out.below hb); replace XA := Lib.hid (XA.out.below hb); replace D := Lib.hid (D.out.below hb); clear hb a0 a1 r0 r1 r2 r3 r4 f0 f1 f2 f3 f4; obtain ⟨a0, a1, _⟩ := XA.out.c2; obtain ⟨r0, r1, r2, r3, r4, f0, f1, f2, f3, f4⟩ := XR.out.c5; clear hjo)
    have Y := Lib.hid (pst_start (jc := jc) XA.out XR.out JO.out D.out)
    clear XA XR D JO a0 a1 r0 r1 r2 r3 r4 f0 f1 f2 f3 f4
    obtain ⟨O, hO⟩ : ∃ O, w5.heap.size = O := ⟨_, rfl⟩
    rw [hO] at Y ⊢
    clear hO hz5
    generalize w5.alloc (.cells #[.slice ja (joinTo l q 5).length jc, .slice none 0 0] 26) = w6 at Y ⊢
    have hJ5 := joinTo_len l q
    have hrl := setB_right hsA
    have hjv : joinV l q = joinTo l q 5 := if_pos ⟨hrl, hqR⟩
    have hrj := join_right hrl hqR
    rw [hjv] at hrj
    obtain ⟨v, hv⟩ : ∃ v, ofL (joinTo l q 5) n = v := ⟨_, rfl⟩
    have hv1 : 0 ≤ v ∧ v ≤ 1000000 := by rw [← hv]; exact ofL_nonneg hrj n
    have HN := Lib.hid (show putN l q n = v + 1 by unfold putN seenOf; rw [hjv, if_pos hrj, hv])
    have HV := Lib.hid hv
    have HPJ := Lib.hid (fun h6 => put_join (l := l) (q := q) (n := n) hrl hqR hnR h6)
    clear hv
    obtain ⟨J, hJ⟩ : ∃ J, joinTo l q 5 = J := ⟨_, rfl⟩
    rw [hJ] at HV hJ5 Y HPJ
    clear hJ hrj hjv
    obtain ⟨o0, o1, _⟩ := Y.out.xo.c2
    go_upto_region 7 with (go_at_call 70; refine (spec_of ja jc J n _ (by unfold maxLen; omega) (OwnIn.at_ Y.out.jo)).mono ?_; rintro e w6 ⟨rfl, rfl⟩; rw [HV.out])
    clear o0 o1
    by_cases hv6 : 1000000 ≤ v
    · have hv7 : decide ((1000000 : Int) ≤ v) = true := decide_eq_true hv6
      have XR := Lib.hid Y.out.xr
      have D := Lib.hid Y.out.d
      obtain ⟨r0, r1, r2, r3, r4, f0, f1, f2, f3, f4⟩ := XR.out.c5
      go_wp2_with ((go_at_call 66; refine (spec_ill 9 _).mono ?_; rintro e w5 ⟨rfl, hb⟩; replace XR := Lib.hid (XR.out.below hb); replace D := Lib.hid (D.out.below hb); clear hb; obtain ⟨r0, r1, r2, r3, r4, f0, f1, f2, f3, f4⟩ := XR.out.c5))
      have XF := cells_set5 XR.out (.slice none 0 0) (.slice none 0 0) (.int .i64 0) (.int .i64 0) (.int .i64 9)
      obtain ⟨q0, q1, q2, q3, q4, -⟩ := XF.c5
      refine bodyPost_ret (v := .agg #[.slice none 0 0, .slice none 0 0, .int .i64 0, .int .i64 0, .int .i64 9]) (by simp [results, Try.results16, go_sem, q0, q1, q2, q3, q4]) rfl ?_
      have hno := sp_full H0.out HOK.out (by rw [HN.out]; intro h; exact absurd h.1 (by omega))
      rw [hno.1, hno.2.1, hno.2.2.1, hno.2.2.2.1, hno.2.2.2.2]
      exact givesSO_no 9 (D.out.within (within_set5 _ _ _ _ _ _ _) (by omega))
    have hv7 : decide ((1000000 : Int) ≤ v) = false := decide_eq_false hv6
    have Y0 := Lib.hid (show Pst w _ O [.slice am l.length c1, .slice as_ s.length c2] ja jc J (.slice none 0 0) (.slice none 0 0) (uns (s.take 0) q) from Y.out)
    clear Y
    go_wp2
    go_loopw [13] (fun i wr => ∃ (k : Nat) (vq : Value), k ≤ s.length ∧ i = .int .i64 k ∧ Pst w wr O [.slice am l.length c1, .slice as_ s.length c2] ja jc J vq vq (uns (s.take k) q)) (fun i _ => s.length - (intOf i).toNat)
    case atStart => exact ⟨0, _, Nat.zero_le _, rfl, Y0.out⟩
    case round =>
      obtain ⟨k, vq, hk, rfl, hy⟩ := hrel
      have Y := Lib.hid hy
      clear hy Y0
      by_cases hlt : k < s.length
      rotate_left
      · obtain rfl : k = s.length := by omega
        rw [List.take_length] at Y
        obtain ⟨a0, a1, _⟩ := Y.out.xa.c2
        have HS := Lib.hid (show putS l s q n d g = ins (uns s q) ((n, v + 1), g, d) by unfold putS; rw [HN.out, collect_uns q hsA])
        have hU8 : (uns s q).length ≤ 8 := by unfold uns; exact Nat.le_trans (List.length_filter_le _ _) hs8
        obtain ⟨U, hU⟩ : ∃ U, uns s q = U := ⟨_, rfl⟩
        rw [hU] at Y HS hU8
        clear hU
        obtain ⟨qa, qc, rfl, hh, hso⟩ := own_head Y.out.so
        have HH := Lib.hid hh
        have SO := Lib.hid (show ROwnI 4 senc wr (O + 1) wr.heap.size qa U from ⟨hso, Nat.le_refl _⟩)
        have XR := Lib.hid Y.out.xr
        have XO := Lib.hid Y.out.xo
        have JO := Lib.hid (show OwnI wr (w.heap.size + 2) O ja J from ⟨Y.out.jo, Nat.le_of_lt Y.out.xo.lt⟩)
        have D := Lib.hid Y.out.d
        have hol := Y.out.ol
        have hO1 := Y.out.xo.lt
        clear hh hso Y
        have XM := Lib.hid (Cells.new wr #[.int .i64 n, .int .i64 (v + 1)] 30)
        have hb := step_alloc wr (.cells #[.int .i64 n, .int .i64 (v + 1)] 30)
        simp only [List.toList_toArray] at XM
        go_upto_region 15 with fail
        clear a0 a1
        obtain ⟨M, hM⟩ : ∃ M, wr.heap.size = M := ⟨_, rfl⟩
        have hzM : M < (wr.alloc (.cells #[.int .i64 n, .int .i64 (v + 1)] 30)).heap.size := by rw [← hM]; simp
        replace XR := Lib.hid (XR.out.below hb)
        replace XO := Lib.hid (XO.out.below hb)
        replace JO := Lib.hid (JO.out.below hb)
        replace SO := Lib.hid (SO.out.below hb)
        replace D := Lib.hid (D.out.below hb)
        rw [hM] at XM SO hO1 ⊢
        clear hb
        generalize wr.alloc (.cells #[.int .i64 n, .int .i64 (v + 1)] 30) = w7 at XM XR XO JO SO D hzM ⊢
        have hb7 := step_alloc w7 (.cells #[.int .i64 n, .int .i64 (v + 1)] 30)
        obtain ⟨o0, o1, fo0, fo1⟩ := XO.out.c2
        obtain ⟨m0, m1, _⟩ := XM.out.c2
        have MO := Lib.hid (marks_one w7 n (v + 1))
        go_upto_region 16 with (go_at_call 69; refine (spec_join ja (some ⟨w7.heap.size, 0, none⟩) jc 1 J [(n, v + 1)] _ (by unfold maxLen; omega) (by unfold maxLen; simp) (MarksAt.mono (OwnIn.at_ JO.out.1) hb7) MO.out).mono ?_; rintro e w8 ⟨ka, kc, rfl, hko, hb⟩; clear MO; replace XR := Lib.hid ((XR.out.below hb7).below hb); replace XO := Lib.hid ((XO.out.below hb7).below hb); replace SO := Lib.hid ((SO.out.below hb7).below hb); replace XM := Lib.hid ((XM.out.below hb7).below hb); replace D := Lib.hid ((D.out.below hb7).below hb); have KO := Lib.hid (show OwnI w8 w7.heap.size w8.heap.size ka (joinTo J [(n, v + 1)] 5) from ⟨hko.wide (by simp) (Nat.le_refl _), Nat.le_refl _⟩); have hz8 : w7.heap.size ≤ w8.heap.size := Nat.le_trans (by simp) hb.size; clear hb hb7 hko o0 o1 fo0 fo1 m0 m1; obtain ⟨o0, o1, fo0, fo1⟩ := XO.out.c2)
        obtain ⟨K, hK⟩ : ∃ K, joinTo J [(n, v + 1)] 5 = K := ⟨_, rfl⟩
        have HK := Lib.hid hK
        rw [hK] at KO ⊢
        clear hK
        have hw := one_store w8 O 0 (.slice ka K.length kc)
        replace XO := Lib.hid (XO.out.set 0 (by simp) (.slice ka K.length kc))
        replace XR := Lib.hid (XR.out.within hw (by omega))
        replace SO := Lib.hid (SO.out.within hw (by omega))
        replace XM := Lib.hid (XM.out.within hw (by omega))
        replace D := Lib.hid (D.out.within hw (by omega))
        replace KO := Lib.hid (KO.out.within hw (by omega))
        have hz9 : w8.heap.size ≤ (w8.setCell ⟨O, 0, none⟩ (.slice ka K.length kc)).heap.size := hw.size
        clear hw o0 o1 fo0 fo1
        simp only [List.set_cons_zero] at XO
        generalize w8.setCell ⟨O, 0, none⟩ (.slice ka K.length kc) = w9 at XO XR SO XM D KO hz9 ⊢
        obtain ⟨o0, o1, fo0, fo1⟩ := XO.out.c2
        obtain ⟨m0, m1, _⟩ := XM.out.c2
        go_upto_region 17 with (go_at_call 71; refine (spec_in qa qc U ((n, v + 1), g, d) _ (by omega) HH.out (ROwnIn.at_ SO.out.1)).mono ?_; rintro e w10 ⟨ra, rc, rfl, hrh, hro, hb⟩; rw [← HS.out]; rw [← HS.out] at hrh hro; replace XR := Lib.hid (XR.out.below hb); replace XO := Lib.hid (XO.out.below hb); replace XM := Lib.hid (XM.out.below hb); replace KO := Lib.hid (KO.out.below hb); replace D := Lib.hid (D.out.below hb); have RO := Lib.hid (show ROwnI 4 senc w10 w9.heap.size w10.heap.size ra (putS l s q n d g) from ⟨hro, Nat.le_refl _⟩); have RH := Lib.hid hrh; have hz10 := hb.size; clear hb hro hrh o0 o1 fo0 fo1 m0 m1; obtain ⟨o0, o1, fo0, fo1⟩ := XO.out.c2)
        obtain ⟨P, hP⟩ : ∃ P, putS l s q n d g = P := ⟨_, rfl⟩
        have HP := Lib.hid hP
        rw [hP] at RO RH ⊢
        clear hP HH
        have hw := one_store w10 O 1 (.slice ra P.length rc)
        replace XO := Lib.hid (XO.out.set 1 (by simp) (.slice ra P.length rc))
        replace XR := Lib.hid (XR.out.within hw (by omega))
        replace XM := Lib.hid (XM.out.within hw (by omega))
        replace D := Lib.hid (D.out.within hw (by omega))
        replace KO := Lib.hid (KO.out.within hw (by omega))
        replace RO := Lib.hid (RO.out.within hw (by omega))
        have hz11 : w10.heap.size ≤ (w10.setCell ⟨O, 1, none⟩ (.slice ra P.length rc)).heap.size := hw.size
        clear hw o0 o1 fo0 fo1
        simp only [List.set_cons_zero, List.set_cons_succ] at XO
        generalize w10.setCell ⟨O, 1, none⟩ (.slice ra P.length rc) = w11 at XO XR XM D KO RO hz11 ⊢
        obtain ⟨o0, o1, _⟩ := XO.out.c2
        obtain ⟨m0, m1, _⟩ := XM.out.c2
        obtain ⟨r0, r1, r2, r3, r4, f0, f1, f2, f3, f4⟩ := XR.out.c5
        by_cases h8 : P.length ≤ 8
        rotate_left
        · have h9 : decide ((8 : Int) < (P.length : Int)) = true := decide_eq_true (by omega)
          go_wp2_with ((go_at_call 66; refine (spec_ill 9 _).mono ?_; rintro e w5 ⟨rfl, hb⟩; replace XR := Lib.hid (XR.out.below hb); replace D := Lib.hid (D.out.below hb); clear hb; obtain ⟨r0, r1, r2, r3, r4, f0, f1, f2, f3, f4⟩ := XR.out.c5))
          have XF := cells_set5 XR.out (.slice none 0 0) (.slice none 0 0) (.int .i64 0) (.int .i64 0) (.int .i64 9)
          obtain ⟨q0, q1, q2, q3, q4, -⟩ := XF.c5
          refine bodyPost_ret (v := .agg #[.slice none 0 0, .slice none 0 0, .int .i64 0, .int .i64 0, .int .i64 9]) (by simp [results, Try.results16, go_sem, q0, q1, q2, q3, q4]) rfl ?_
          have hno := sp_full H0.out HOK.out (by rw [HN.out, HP.out]; intro h; exact h8 h.2)
          rw [hno.1, hno.2.1, hno.2.2.1, hno.2.2.2.1, hno.2.2.2.2]
          exact givesSO_no 9 (D.out.within (within_set5 _ _ _ _ _ _ _) (by omega))
        have h9 : decide ((8 : Int) < (P.length : Int)) = false := decide_eq_false (by omega)
        go_wp2_with fail
        have XF := Lib.hid (cells_set5 XR.out (.slice ka K.length kc) (.slice ra P.length rc) (.int .i64 n) (.int .i64 (v + 1)) (.int .i64 0))
        have HWW := Lib.hid (within_set5 w11 (w.heap.size + 1) (.slice ka K.length kc) (.slice ra P.length rc) (.int .i64 n) (.int .i64 (v + 1)) (.int .i64 0))
        obtain ⟨q0, q1, q2, q3, q4, -⟩ := XF.out.c5
        refine bodyPost_ret (v := .agg #[.slice ka K.length kc, .slice ra P.length rc, .int .i64 n, .int .i64 (v + 1), .int .i64 0]) (by simp [results, Try.results16, go_sem, q0, q1, q2, q3, q4]) rfl ?_
        have hno := sp_ok H0.out HOK.out (by rw [HN.out, HP.out]; exact ⟨by omega, h8⟩)
        have hk : putL (joinV l q) (n, putN l q n) = K := by rw [HPJ.out (by rw [HN.out]; omega), HN.out]; exact HK.out
        rw [hno.1, hno.2.1, hno.2.2.1, hno.2.2.2.1, hno.2.2.2.2, hk, HP.out, HN.out]
        have KO6 := KO.out.within HWW.out (by omega)
        have RO6 := RO.out.within HWW.out (by omega)
        exact ⟨ka, kc, ra, rc, _, _, _, _, rfl, KO6.1, RO6.1, by have := D.out.size; omega, by omega, KO6.2, RO6.2, by omega, RH.out, D.out.within HWW.out (by omega)⟩
      obtain ⟨g0, off, rfl, hg0, c0, c1, c2_, c3_⟩ := SibsAt.cells (R2.out w (Below.refl _ _)).2.2 hlt
      obtain ⟨U, hU⟩ : ∃ U, uns (s.take k) q = U := ⟨_, rfl⟩
      have hU8 : U.length ≤ 8 := by rw [← hU]; unfold uns; exact Nat.le_trans (List.length_filter_le _ _) (by rw [List.length_take]; omega)
      have HY := Lib.hid (fun h1 => (uns_yes (q := q) hlt h1).trans hU)
      have HNo := Lib.hid (fun h1 => (uns_no (q := q) hlt h1).trans (congrArg (· ++ [s[k]]) hU))
      rw [hU] at Y
      clear hU
      obtain ⟨⟨⟨en, em⟩, eg, ed⟩, hx⟩ : ∃ x, s[k] = x := ⟨_, rfl⟩
      rw [hx] at c0 c1 c2_ c3_
      rw [hx] at HNo
      rw [hx] at HY
      clear hx
      have E := Lib.hid (fun (W : World) (h : Base w W) => (⟨(Below.cell h hg0).trans c0, (Below.cell h hg0).trans c1, (Below.cell h hg0).trans c2_, (Below.cell h hg0).trans c3_⟩ : W.cell? ⟨g0, off + k * 4, none⟩ = some (.int .i64 en) ∧ W.cell? ⟨g0, off + k * 4 + 1, none⟩ = some (.int .i64 em) ∧ W.cell? ⟨g0, off + k * 4 + 2, none⟩ = some (.bool eg) ∧ W.cell? ⟨g0, off + k * 4 + 3, none⟩ = some (.string ed)))
      clear c0 c1 c2_ c3_
      have i0' : (0 : Int) ≤ (k : Int) := by omega
      have i1' : (k : Int) < (s.length : Int) := by omega
      obtain ⟨i0, hi, hz0, hz1, hz2⟩ := info_parts infoS
      obtain ⟨a0, a1, _⟩ := Y.out.xa.c2
      obtain ⟨e0, e1, e2, e3⟩ := E.out _ Y.out.d
      cases hh : hasB q (en, em)
      · have HH := Lib.hid hh
        go_upto_region 13 with (go_at_call 27; refine (spec_seenHas bm c3 q (en, em) _ hq (R2.out _ Y.out.d).2.1).mono ?_; rintro e w3 ⟨rfl, hb⟩; rw [HH.out]; replace Y := Lib.hid (Y.out.below hb); clear hb a0 a1 e0 e1 e2 e3)
        have Yd := Lib.hid (Y.out.below (show Below w3.heap.size w3 w3.drew from (Below.refl _ _).drew))
        clear Y
        refine wp_region_held_drew (S := fun w' => w'.cell? ⟨w.heap.size, 1, none⟩ = some (.slice (some ⟨g0, off, none⟩) s.length c2) ∧ w'.cell? ⟨g0, off + k * 4, none⟩ = some (.int .i64 en) ∧ w'.cell? ⟨g0, off + k * 4 + 1, none⟩ = some (.int .i64 em) ∧ w'.cell? ⟨g0, off + k * 4 + 2, none⟩ = some (.bool eg) ∧ w'.cell? ⟨g0, off + k * 4 + 3, none⟩ = some (.string ed)) (by kernel_rfl) (by exact ⟨Yd.out.xa.c2.2.1, (E.out _ Yd.out.d).1, (E.out _ Yd.out.d).2.1, (E.out _ Yd.out.d).2.2.1, (E.out _ Yd.out.d).2.2.2⟩) (fun hHeld => ?_)
        have Y := Lib.hid Yd.out
        clear Yd
        generalize w3.drew = w5 at Y hHeld ⊢
        refine wpAnyH_take (i := 0) (v := ?_) rfl (by kernel_rfl) (by kernel_rfl) (by kernel_rfl) (fun _ _ _ h => h) (Or.inl ⟨by rfl, fun w hSw => by (try dsimp only at hSw); go_simp; (try with_reducible rfl)⟩) (by assumption) ?_
        try simp only [Act.put, List.setIfInBounds_toArray, List.set_cons_zero, List.set_cons_succ, List.getElem_toArray, List.getElem_cons_zero, List.getElem_cons_succ]
        refine wpAnyH_take (i := 2) (v := ?_) rfl (by kernel_rfl) (by kernel_rfl) (by kernel_rfl) (fun _ _ _ h => h) (Or.inl ⟨by rfl, fun w hSw => by (try dsimp only at hSw); go_simp; (try with_reducible rfl)⟩) (by assumption) ?_
        try simp only [Act.put, List.setIfInBounds_toArray, List.set_cons_zero, List.set_cons_succ, List.getElem_toArray, List.getElem_cons_zero, List.getElem_cons_succ]
        refine wpAnyH_take (i := 3) (v := ?_) rfl (by kernel_rfl) (by kernel_rfl) (by kernel_rfl) (fun _ _ _ h => h) (Or.inl ⟨by rfl, fun w hSw => by (try dsimp only at hSw); go_simp; (try with_reducible rfl)⟩) (by assumption) ?_
        try simp only [Act.put, List.setIfInBounds_toArray, List.set_cons_zero, List.set_cons_succ, List.getElem_toArray, List.getElem_cons_zero, List.getElem_cons_succ]
        refine wpAnyH_take (i := 4) (v := ?_) rfl (by kernel_rfl) (by kernel_rfl) (by kernel_rfl) (fun _ _ _ h => h) (Or.inl ⟨by rfl, fun w hSw => by (try dsimp only at hSw); go_simp; (try with_reducible rfl)⟩) (by assumption) ?_
        try simp only [Act.put, List.setIfInBounds_toArray, List.set_cons_zero, List.set_cons_succ, List.getElem_toArray, List.getElem_cons_zero, List.getElem_cons_succ]
        refine wpAnyH_take (i := 5) (v := ?_) rfl (by kernel_rfl) (by kernel_rfl) (by kernel_rfl) (fun _ _ _ h => h) (Or.inl ⟨by rfl, fun w hSw => by (try dsimp only at hSw); go_simp; (try with_reducible rfl)⟩) (by assumption) ?_
        try simp only [Act.put, List.setIfInBounds_toArray, List.set_cons_zero, List.set_cons_succ, List.getElem_toArray, List.getElem_cons_zero, List.getElem_cons_succ]
        refine wpAnyH_take (i := 6) (v := ?_) rfl (by kernel_rfl) (by kernel_rfl) (by kernel_rfl) (fun _ _ _ h => h) (Or.inl ⟨by rfl, fun w hSw => by (try dsimp only at hSw); go_simp; (try with_reducible rfl)⟩) (by assumption) ?_
        try simp only [Act.put, List.setIfInBounds_toArray, List.set_cons_zero, List.set_cons_succ, List.getElem_toArray, List.getElem_cons_zero, List.getElem_cons_succ]
        refine wpAnyH_ready (rs := [1, 7]) (by kernel_rfl) (by simp) ?_
        refine AllReadyH.cons rfl (fun K hK => ?_) (AllReadyH.cons rfl (fun K hK => ?_) AllReadyH.nil)
        · obtain ⟨o0, o1, f0, f1⟩ := Y.out.xo.c2
          go_simp
          clear o0 o1 f0 f1
          refine hK.out _ _ (by exact ⟨Y.out.xa.c2.2.1, (E.out _ Y.out.d).1, (E.out _ Y.out.d).2.1, (E.out _ Y.out.d).2.2.1, (E.out _ Y.out.d).2.2.2⟩) (fun hHeld => ?_)
          clear hK K
          try simp only [Act.put, List.setIfInBounds_toArray, List.set_cons_zero, List.set_cons_succ, List.getElem_toArray, List.getElem_cons_zero, List.getElem_cons_succ]
          refine wpAnyH_ready (rs := [7]) (by kernel_rfl) (by simp) ?_
          refine AllReadyH.cons rfl (fun K hK => ?_) AllReadyH.nil
          go_simp
          have hb := step_alloc w5 (.cells #[.int .i64 en, .int .i64 em, .bool eg, .string ed] 48)
          replace Y := Lib.hid (Y.out.below hb)
          clear hb
          refine hK.out _ _ (by exact ⟨Y.out.xa.c2.2.1, (E.out _ Y.out.d).1, (E.out _ Y.out.d).2.1, (E.out _ Y.out.d).2.2.1, (E.out _ Y.out.d).2.2.2⟩) (fun hHeld => ?_)
          clear hK K
          try simp only [Act.put, List.setIfInBounds_toArray, List.set_cons_zero, List.set_cons_succ, List.getElem_toArray, List.getElem_cons_zero, List.getElem_cons_succ]
          refine wpAnyH_ready (rs := [8]) (by kernel_rfl) (by simp) ?_
          refine AllReadyH.cons rfl (fun K hK => ?_) AllReadyH.nil
          refine step_append_lies (w5.alloc (.cells #[.int .i64 en, .int .i64 em, .bool eg, .string ed] 48)) rfl (.tmp 79) (.tmp 85) 24 rfl (O + 1) 48 i0 _ 4 40 Try.underlying24 hi hz0 hz1 hz2 rfl (by decide) vq U.length (flatE 4 senc U) (by rfl) Y.out.so ⟨w5.heap.size, 0, none⟩ 1 1 (flatE 4 senc [((en, em), eg, ed)]) (by rfl) rfl (World.news_of_block (cs := #[.int .i64 en, .int .i64 em, .bool eg, .string ed]) (heap_alloc_new w5 (.cells #[.int .i64 en, .int .i64 em, .bool eg, .string ed] 48))) flat_one (by omega) (by unfold maxLen; omega) (by omega) Y.out.xo.lt (w5.alloc (.cells #[.int .i64 en, .int .i64 em, .bool eg, .string ed] 48)).heap.size rfl ?_
          intro g6 c6 w6 ho6 hg6 _ _
          have hb := (Below.refl (O + 1) (w5.alloc (.cells #[.int .i64 en, .int .i64 em, .bool eg, .string ed] 48))).grown hg6 Y.out.xo.lt (fun k hk => (Y.out.so.lt k hk).1)
          rw [← flatE_append] at ho6
          have O6 := Lib.hid (show w6.ownsRow (O + 1) 48 4 (.slice (some ⟨g6, 0, none⟩) (U.length + 1) c6) (U ++ [((en, em), eg, ed)]).length (flatE 4 senc (U ++ [((en, em), eg, ed)])) from by rw [List.length_append]; exact ho6)
          replace Y := Lib.hid (Y.out.grew hb O6.out)
          clear hb ho6 hg6 O6
          refine hK.out _ _ (by exact ⟨Y.out.xa.c2.2.1, (E.out _ Y.out.d).1, (E.out _ Y.out.d).2.1, (E.out _ Y.out.d).2.2.1, (E.out _ Y.out.d).2.2.2⟩) (fun hHeld => ?_)
          clear hK K
          try simp only [Act.put, List.setIfInBounds_toArray, List.set_cons_zero, List.set_cons_succ, List.getElem_toArray, List.getElem_cons_zero, List.getElem_cons_succ]
          refine wpAnyH_take (i := 9) (v := ?_) rfl (by kernel_rfl) (by kernel_rfl) (by kernel_rfl) (fun _ _ _ h => h) (Or.inl ⟨by rfl, fun w hSw => by (try dsimp only at hSw); go_simp; (try with_reducible rfl)⟩) (by assumption) ?_
          try simp only [Act.put, List.setIfInBounds_toArray, List.set_cons_zero, List.set_cons_succ, List.getElem_toArray, List.getElem_cons_zero, List.getElem_cons_succ]
          refine wpAnyH_ready (rs := [10]) (by kernel_rfl) (by simp) ?_
          refine AllReadyH.cons rfl (fun K hK => ?_) AllReadyH.nil
          go_simp
          obtain ⟨o0, o1, f0, f1⟩ := Y.out.xo.c2
          go_simp
          replace Y := Lib.hid (Y.out.put)
          clear o0 o1 f0 f1
          refine hK.out _ _ (by exact ⟨Y.out.xa.c2.2.1, (E.out _ Y.out.d).1, (E.out _ Y.out.d).2.1, (E.out _ Y.out.d).2.2.1, (E.out _ Y.out.d).2.2.2⟩) (fun hHeld => ?_)
          clear hK K
          try simp only [Act.put, List.setIfInBounds_toArray, List.set_cons_zero, List.set_cons_succ, List.getElem_toArray, List.getElem_cons_zero, List.getElem_cons_succ]
          refine wpAnyH_done (by kernel_rfl) ?_ _
          go_wp2
          go_roundw
          case rel => exact ⟨k + 1, _, by omega, by go_num, by rw [HNo.out HH.out]; exact Y.out⟩
          case measure => go_light; simp [intOf]; omega
        · go_simp
          have hb := step_alloc w5 (.cells #[.int .i64 en, .int .i64 em, .bool eg, .string ed] 48)
          replace Y := Lib.hid (Y.out.below hb)
          clear hb
          refine hK.out _ _ (by exact ⟨Y.out.xa.c2.2.1, (E.out _ Y.out.d).1, (E.out _ Y.out.d).2.1, (E.out _ Y.out.d).2.2.1, (E.out _ Y.out.d).2.2.2⟩) (fun hHeld => ?_)
          clear hK K
          try simp only [Act.put, List.setIfInBounds_toArray, List.set_cons_zero, List.set_cons_succ, List.getElem_toArray, List.getElem_cons_zero, List.getElem_cons_succ]
          refine wpAnyH_ready (rs := [1]) (by kernel_rfl) (by simp) ?_
          refine AllReadyH.cons rfl (fun K hK => ?_) AllReadyH.nil
          obtain ⟨o0, o1, f0, f1⟩ := Y.out.xo.c2
          go_simp
          clear o0 o1 f0 f1
          refine hK.out _ _ (by exact ⟨Y.out.xa.c2.2.1, (E.out _ Y.out.d).1, (E.out _ Y.out.d).2.1, (E.out _ Y.out.d).2.2.1, (E.out _ Y.out.d).2.2.2⟩) (fun hHeld => ?_)
          clear hK K
          try simp only [Act.put, List.setIfInBounds_toArray, List.set_cons_zero, List.set_cons_succ, List.getElem_toArray, List.getElem_cons_zero, List.getElem_cons_succ]
          refine wpAnyH_ready (rs := [8]) (by kernel_rfl) (by simp) ?_
          refine AllReadyH.cons rfl (fun K hK => ?_) AllReadyH.nil
          refine step_append_lies (w5.alloc (.cells #[.int .i64 en, .int .i64 em, .bool eg, .string ed] 48)) rfl (.tmp 79) (.tmp 85) 24 rfl (O + 1) 48 i0 _ 4 40 Try.underlying24 hi hz0 hz1 hz2 rfl (by decide) vq U.length (flatE 4 senc U) (by rfl) Y.out.so ⟨w5.heap.size, 0, none⟩ 1 1 (flatE 4 senc [((en, em), eg, ed)]) (by rfl) rfl (World.news_of_block (cs := #[.int .i64 en, .int .i64 em, .bool eg, .string ed]) (heap_alloc_new w5 (.cells #[.int .i64 en, .int .i64 em, .bool eg, .string ed] 48))) flat_one (by omega) (by unfold maxLen; omega) (by omega) Y.out.xo.lt (w5.alloc (.cells #[.int .i64 en, .int .i64 em, .bool eg, .string ed] 48)).heap.size rfl ?_
          intro g6 c6 w6 ho6 hg6 _ _
          have hb := (Below.refl (O + 1) (w5.alloc (.cells #[.int .i64 en, .int .i64 em, .bool eg, .string ed] 48))).grown hg6 Y.out.xo.lt (fun k hk => (Y.out.so.lt k hk).1)
          rw [← flatE_append] at ho6
          have O6 := Lib.hid (show w6.ownsRow (O + 1) 48 4 (.slice (some ⟨g6, 0, none⟩) (U.length + 1) c6) (U ++ [((en, em), eg, ed)]).length (flatE 4 senc (U ++ [((en, em), eg, ed)])) from by rw [List.length_append]; exact ho6)
          replace Y := Lib.hid (Y.out.grew hb O6.out)
          clear hb ho6 hg6 O6
          refine hK.out _ _ (by exact ⟨Y.out.xa.c2.2.1, (E.out _ Y.out.d).1, (E.out _ Y.out.d).2.1, (E.out _ Y.out.d).2.2.1, (E.out _ Y.out.d).2.2.2⟩) (fun hHeld => ?_)
          clear hK K
          try simp only [Act.put, List.setIfInBounds_toArray, List.set_cons_zero, List.set_cons_succ, List.getElem_toArray, List.getElem_cons_zero, List.getElem_cons_succ]
          refine wpAnyH_take (i := 9) (v := ?_) rfl (by kernel_rfl) (by kernel_rfl) (by kernel_rfl) (fun _ _ _ h => h) (Or.inl ⟨by rfl, fun w hSw => by (try dsimp only at hSw); go_simp; (try with_reducible rfl)⟩) (by assumption) ?_
          try simp only [Act.put, List.setIfInBounds_toArray, List.set_cons_zero, List.set_cons_succ, List.getElem_toArray, List.getElem_cons_zero, List.getElem_cons_succ]
          refine wpAnyH_ready (rs := [10]) (by kernel_rfl) (by simp) ?_
          refine AllReadyH.cons rfl (fun K hK => ?_) AllReadyH.nil
          go_simp
          obtain ⟨o0, o1, f0, f1⟩ := Y.out.xo.c2
          go_simp
          replace Y := Lib.hid (Y.out.put)
          clear o0 o1 f0 f1
          refine hK.out _ _ (by exact ⟨Y.out.xa.c2.2.1, (E.out _ Y.out.d).1, (E.out _ Y.out.d).2.1, (E.out _ Y.out.d).2.2.1, (E.out _ Y.out.d).2.2.2⟩) (fun hHeld => ?_)
          clear hK K
          try simp only [Act.put, List.setIfInBounds_toArray, List.set_cons_zero, List.set_cons_succ, List.getElem_toArray, List.getElem_cons_zero, List.getElem_cons_succ]
          refine wpAnyH_done (by kernel_rfl) ?_ _
          go_wp2
          go_roundw
          case rel => exact ⟨k + 1, _, by omega, by go_num, by rw [HNo.out HH.out]; exact Y.out⟩
          case measure => go_light; simp [intOf]; omega
      · have HH := Lib.hid hh
        go_wp2_with (go_at_call 27; refine (spec_seenHas bm c3 q (en, em) _ hq (R2.out _ Y.out.d).2.1).mono ?_; rintro e w3 ⟨rfl, hb⟩; rw [HH.out]; replace Y := Lib.hid (Y.out.below hb); clear hb a0 a1 e0 e1 e2 e3)
        go_roundw
        case rel => exact ⟨k + 1, vq, by omega, by go_num, by rw [HY.out HH.out]; exact Y.out⟩
        case measure => go_light; simp [intOf]; omega

theorem spec_setPut (am as_ bm : Option Addr) (c1 c2 c3 : Nat) (l : List (Int × Int)) (s : List Sib) (q : List (Int × Int)) (n : Int) (d : ByteArray) (g : Bool) (w : World) (hl : l.length ≤ maxLen) (hs : s.length ≤ maxLen) (hq : q.length ≤ maxLen) (hdz : d.size ≤ maxLen) (hd : SmallData s)
    (hma : MarksAt w am l) (hra : SibsAt w as_ s) (hmb : MarksAt w bm q) :
    Calls Try.prog 16 #[.agg #[.slice am l.length c1, .slice as_ s.length c2], .slice bm q.length c3, .int .i64 n, .string d, .bool g] w (GivesSO w (spSeen l s q n d g) (spSibs l s q n d g) (spX l s q n d g) (spY l s q n d g) (spC l s q n d g)) := by
  by_cases h : (q.length ≤ 400 ∧ d.size ≤ 8000) ∧ PutOk l s q n d g
  · exact spec_setPut_ok am as_ bm c1 c2 c3 l s q n d g w hl hs hq hdz hd hma hra hmb h.1 h.2
  · exact spec_setPut_no am as_ bm c1 c2 c3 l s q n d g w hl hs hq hdz hd h hma hra hmb
end Go.Proofs.Ytgbcogncnhbmeaa.Sb

set_option linter.unusedSimpArgs false
set_option linter.unusedVariables false
namespace Go.Proofs.Ytgbcogncnhbmeaa.Sb
open Go.RowKit Go.Proofs.Ytgbcogncnhbmeaa.Mk Go.Proofs.Ytgbcogncnhbmeaa.Rw

structure Var5 (w : World) (g : Nat) (u v x y z : Value) : Prop where
  c0 : w.cell? ⟨g, 0, none⟩ = some u
  c1 : w.cell? ⟨g, 1, none⟩ = some v
  c2 : w.cell? ⟨g, 2, none⟩ = some x
  c3 : w.cell? ⟨g, 3, none⟩ = some y
  c4 : w.cell? ⟨g, 4, none⟩ = some z
  lt : g < w.heap.size
theorem Var5.of {w : World} {g : Nat} {u v x y z : Value} (h : Cells w g [u, v, x, y, z]) : Var5 w g u v x y z := by
  obtain ⟨a, b, c, d, e, -⟩ := h.c5
  exact ⟨a, b, c, d, e, h.lt⟩
theorem Var5.below {w w' : World} {g : Nat} {u v x y z : Value} (h : Var5 w g u v x y z) (hb : Below w.heap.size w w') : Var5 w' g u v x y z :=
  ⟨(hb.cell (p := ⟨g, 0, none⟩) h.lt).trans h.c0, (hb.cell (p := ⟨g, 1, none⟩) h.lt).trans h.c1, (hb.cell (p := ⟨g, 2, none⟩) h.lt).trans h.c2, (hb.cell (p := ⟨g, 3, none⟩) h.lt).trans h.c3, (hb.cell (p := ⟨g, 4, none⟩) h.lt).trans h.c4, Nat.lt_of_lt_of_le h.lt hb.size⟩
theorem Var5.within {w w' : World} {lo hi g : Nat} {u v x y z : Value} (h : Var5 w g u v x y z) (hw : Within lo hi w w') (ha : g < lo ∨ hi ≤ g) : Var5 w' g u v x y z := by
  have e := hw.block g h.lt ha
  exact ⟨(World.cell?_of_block (a := ⟨g, 0, none⟩) e).trans h.c0, (World.cell?_of_block (a := ⟨g, 1, none⟩) e).trans h.c1, (World.cell?_of_block (a := ⟨g, 2, none⟩) e).trans h.c2, (World.cell?_of_block (a := ⟨g, 3, none⟩) e).trans h.c3, (World.cell?_of_block (a := ⟨g, 4, none⟩) e).trans h.c4, Nat.lt_of_lt_of_le h.lt hw.size⟩
theorem Var5.new (w : World) (u v x y z : Value) (t : TypeId) : Var5 (w.alloc (.cells #[u, v, x, y, z] t)) w.heap.size u v x y z := Var5.of (Cells.new w #[u, v, x, y, z] t)
def New5 (w : World) (g : Nat) (u v x y z : Value) : Prop := Cells w g [u, v, x, y, z]
theorem New5.below {w w' : World} {g : Nat} {u v x y z : Value} (h : New5 w g u v x y z) (hb : Below w.heap.size w w') : New5 w' g u v x y z := Cells.below h hb
theorem New5.within {w w' : World} {lo hi g : Nat} {u v x y z : Value} (h : New5 w g u v x y z) (hw : Within lo hi w w') (ha : g < lo ∨ hi ≤ g) : New5 w' g u v x y z := Cells.within h hw ha
theorem New5.new (w : World) (u v x y z : Value) (t : TypeId) : New5 (w.alloc (.cells #[u, v, x, y, z] t)) w.heap.size u v x y z := Cells.new w #[u, v, x, y, z] t
theorem New5.all {w : World} {g : Nat} {u v x y z : Value} (h : New5 w g u v x y z) : w.cell? ⟨g, 0, none⟩ = some u ∧ w.cell? ⟨g, 1, none⟩ = some v ∧ w.cell? ⟨g, 2, none⟩ = some x ∧ w.cell? ⟨g, 3, none⟩ = some y ∧ w.cell? ⟨g, 4, none⟩ = some z ∧ w.frozen? ⟨g, 0, none⟩ = false ∧ w.frozen? ⟨g, 1, none⟩ = false ∧ w.frozen? ⟨g, 2, none⟩ = false ∧ w.frozen? ⟨g, 3, none⟩ = false ∧ w.frozen? ⟨g, 4, none⟩ = false ∧ g < w.heap.size := by
  obtain ⟨a, b, c, d, e, f0, f1, f2, f3, f4⟩ := Cells.c5 h
  exact ⟨a, b, c, d, e, f0, f1, f2, f3, f4, Cells.lt h⟩
theorem New5.store {w : World} {g : Nat} {u v x y z : Value} (h : New5 w g u v x y z) (v0 v1 v2 v3 v4 : Value) : Var5 (((((w.setCell ⟨g, 0, none⟩ v0).setCell ⟨g, 1, none⟩ v1).setCell ⟨g, 2, none⟩ v2).setCell ⟨g, 3, none⟩ v3).setCell ⟨g, 4, none⟩ v4) g v0 v1 v2 v3 v4 := Var5.of (cells_set5 h v0 v1 v2 v3 v4)
theorem synSeen_len (la : List (Int × Int)) (sa : List Sib) (lb : List (Int × Int)) (sb : List Sib) : (synSeen la sa lb sb).length ≤ 5 := by
  unfold synSeen
  split
  · exact joinV_length la lb
  · simp
theorem synSibs_len (la : List (Int × Int)) (sa : List Sib) (lb : List (Int × Int)) (sb : List Sib) : (synSibs la sa lb sb).length ≤ 8 := by
  unfold synSibs
  split
  · rename_i h
    unfold synC at h
    split at h
    · split at h
      · assumption
      · cases h
    · cases h
  · simp
end Go.Proofs.Ytgbcogncnhbmeaa.Sb

set_option linter.unusedSimpArgs false
set_option linter.unusedVariables false
namespace Go.Proofs.Ytgbcogncnhbmeaa.Nu
open Go.RowKit

/-- the bytes of some strings, one behind the other -/
def cat (ss : List ByteArray) : List UInt8 := (ss.map (·.data.toList)).flatten
theorem cat_take (ss : List ByteArray) (k : Nat) (h : k < ss.length) : cat (ss.take (k + 1)) = cat (ss.take k) ++ ss[k].data.toList := by
  unfold cat; rw [List.take_succ_eq_append_getElem h, List.map_append, List.flatten_append]; simp
theorem cat_take_le (ss : List ByteArray) (k : Nat) : (cat (ss.take k)).length ≤ (cat ss).length := by
  have : cat ss = cat (ss.take k) ++ cat (ss.drop k) := by
    unfold cat; rw [← List.flatten_append, ← List.map_append, List.take_append_drop]
  rw [this, List.length_append]; omega
theorem size_data (s : ByteArray) : s.data.toList.length = s.size := by rw [Array.length_toList]; rfl
theorem info8s : (Try.prog.info? 5).map (·.size) = some 1 := by kernel_rfl

/-- block g is a row of these bytes -/
def Row (w : World) (g : Nat) (l : List UInt8) : Prop := w.heap[g]? = some (.cells (l.map bv).toArray 5 (0, 0))
theorem Row.new (w : World) (m : Nat) : Row (w.alloc (.cells (madeCells #[.int .u8 0] m) 5)) w.heap.size (List.replicate m 0) := by
  unfold Row
  have e : madeCells #[Value.int .u8 0] m = ((List.replicate m (0 : UInt8)).map bv).toArray := by
    apply Array.ext
    · simp [madeCells]
    · intro i h1 h2
      simp [madeCells, bv, Nat.mod_one]
  rw [← e]
  show (w.heap.push _)[w.heap.size]? = _
  simp
theorem Row.string {w : World} {g : Nat} {l : List UInt8} (h : Row w g l) (c : Nat) :
    (convert 22 9 (.slice (some ⟨g, 0, none⟩) l.length c)).run Try.prog w = .ok (.string ⟨l.toArray⟩) w := by
  refine run_convert_bytes_back (P := Try.prog) w 22 9 5 ⟨g, 0, none⟩ c l Try.underlying22 Try.underlying5 Try.underlying9 (fun j hj => ?_)
  have e : (⟨g, 0, none⟩ : Addr).add j = ⟨g, j, none⟩ := by unfold Addr.add; split <;> simp_all
  rw [e]
  have hh : w.heap[g]? = some (.cells (l.map bv).toArray 5 (0, 0)) := h
  simp [World.cell?, hh, hj, bv]
/-- what copy leaves of a row -/
def laid (l : List UInt8) (a : Nat) (p : ByteArray) : List UInt8 := l.take a ++ p.data.toList ++ l.drop (a + p.size)
theorem laid_length (l : List UInt8) (a : Nat) (p : ByteArray) (h : a + p.size ≤ l.length) : (laid l a p).length = l.length := by
  unfold laid; rw [List.length_append, List.length_append, size_data, List.length_take, List.length_drop]; omega
theorem laid_take (l : List UInt8) (a : Nat) (p : ByteArray) (h : a + p.size ≤ l.length) : (laid l a p).take (a + p.size) = l.take a ++ p.data.toList := by
  unfold laid
  have : (l.take a ++ p.data.toList).length = a + p.size := by rw [List.length_append, size_data, List.length_take]; omega
  rw [← this, List.take_left']; rfl
theorem Row.copy {w : World} {g : Nat} {l : List UInt8} (h : Row w g l) (ty : TypeId) (a d c : Nat) (p : ByteArray) (hd : p.size ≤ d) (hf : a + p.size ≤ l.length) :
    (Builtin.copy_ #[22, 9] ty #[.slice (some ⟨g, a, none⟩) d c, .string p]).run Try.prog w = .ok (goInt p.size) (w.setRow g ((laid l a p).map bv).toArray) := by
  have := Lib.run_copy_row_string (P := Try.prog) w 22 9 ty 5 g a d c p (l.map bv).toArray 5 Try.underlying22 info8s h hd (by simpa using hf)
  refine this.trans (congrArg (fun c => Result.ok (goInt p.size) (w.setRow g c)) ?_)
  unfold laid
  simp [Lib.byteCells, bv]
theorem Row.laid {w : World} {g : Nat} {l : List UInt8} (h : Row w g l) (l' : List UInt8) : Row (w.setRow g (l'.map bv).toArray) g l' :=
  setRow_heap w g _ _ 5 _ h

set_option maxRecDepth 100000 in
set_option maxHeartbeats 2000000 in
theorem joined_any (b : Nat) (ss : List ByteArray) (cap : Nat) (w : World) (hn : ss.length ≤ 1000) (ht : (cat ss).length ≤ 1000000)
    (hc : ∀ i (h : i < ss.length), w.cell? ⟨b, i, none⟩ = some (.string ss[i])) :
    Calls Try.prog 62 #[.slice (some ⟨b, 0, none⟩) ss.length cap] w fun e w' => e = .returned (.string ⟨(cat ss).toArray⟩) ∧ Below w.heap.size w w' := by
  have HC := Lib.hid hc
  clear hc
  go_enter Try.func62, Try.ntmps62
  go_wp2
  go_loop [3, 12] (fun z i => ∃ k m : Nat, k ≤ ss.length ∧ i = .int .i64 k ∧ z = .int .i64 m ∧ m = (cat (ss.take k)).length) (fun _ i => ss.length - (intOf i).toNat)
  case atStart => exact ⟨0, 0, Nat.zero_le _, rfl, rfl, by simp [cat]⟩
  case round =>
    obtain ⟨k, m, hk, rfl, rfl, hm⟩ := hrel
    have hml := cat_take_le ss k
    rw [← hm] at hml
    have HM := Lib.hid hm
    clear hm
    by_cases hlt : k < ss.length
    · have hcell := HC.out k hlt
      have hs2 := cat_take_le ss (k + 1)
      rw [cat_take ss k hlt, List.length_append, ← HM.out, size_data] at hs2
      have HN : Hid (m + ss[k].size = (cat (ss.take (k + 1))).length) := Lib.hid (by rw [cat_take ss k hlt, List.length_append, ← HM.out, size_data])
      generalize ss[k] = p at hcell hs2 HN
      go_wp2
      go_round
      case rel => exact ⟨k + 1, m + p.size, by omega, by go_num, by go_num, HN.out⟩
      case measure => go_light; simp [intOf]; omega
    · have hmt : m = (cat ss).length := by rw [HM.out, List.take_of_length_le (by omega)]
      have HMT := Lib.hid hmt
      clear hmt
      have hmk := run_make_row' (P := Try.prog) 22 5 (.int .u8 0) 1 Try.underlying22 info8 rfl .i64 .i64 m (by omega) (by omega)
      go_wp2
      clear hmk
      go_loopw [7, 25] (fun z i wr => ∃ (k a : Nat) (l : List UInt8), k ≤ ss.length ∧ i = .int .i64 k ∧ z = .int .i64 a ∧ a = (cat (ss.take k)).length ∧ l.length = m ∧ l.take a = cat (ss.take k) ∧ Row wr w.heap.size l ∧ Below w.heap.size w wr) (fun _ i _ => ss.length - (intOf i).toNat)
      case atStart => exact ⟨0, 0, List.replicate m 0, Nat.zero_le _, rfl, rfl, by simp [cat], by simp, by simp [cat], Row.new w m, (Below.refl _ _).alloc (Nat.le_refl _) _⟩
      case round =>
        obtain ⟨k, a, l, hk, rfl, rfl, ha, hl, htk, hrow, hbel⟩ := hrel
        have hal := cat_take_le ss k
        rw [← ha, ← HMT.out] at hal
        have HA := Lib.hid ha
        have HL := Lib.hid hl
        have HT := Lib.hid htk
        have HR := Lib.hid hrow
        clear ha hl htk hrow
        by_cases hlt : k < ss.length
        · have hb : b < w.heap.size := by simpa using World.block_lt_of_cell? w _ (HC.out k hlt)
          have hcell := (hbel.cell (p := ⟨b, k, none⟩) hb).trans (HC.out k hlt)
          have hs2 := cat_take_le ss (k + 1)
          rw [cat_take ss k hlt, List.length_append, ← HA.out, size_data, ← HMT.out] at hs2
          have HN := Lib.hid (cat_take ss k hlt)
          generalize ss[k] = p at hcell hs2 HN
          by_cases ham : m = a
          · have hp0 : p.size = 0 := by omega
            have hcp := Lib.run_copy_empty_string (P := Try.prog) wr 22 9 3 5 (some ⟨w.heap.size, 0, none⟩) 0 0 p Try.underlying22 (by kernel_rfl) hp0
            have HP := Lib.hid hp0
            clear hp0
            go_wp2
            go_roundw
            case rel =>
              have hd : p.data.toList = [] := List.length_eq_zero_iff.1 (by rw [size_data, HP.out])
              refine ⟨k + 1, a, l, by omega, by go_num, rfl, ?_, HL.out, ?_, HR.out, hbel⟩
              · rw [HN.out, hd, List.append_nil]; exact HA.out
              · rw [HN.out, hd, List.append_nil]; exact HT.out
            case measure => go_light; simp [intOf]; omega
          · have hcp := HR.out.copy 3 a (m - a) (m - a) p (by omega) (by rw [HL.out]; omega)
            have hrow' := HR.out.laid (laid l a p)
            have hbel' := below_setRow hbel (Nat.le_refl _) ((laid l a p).map bv).toArray
            generalize wr.setRow w.heap.size ((laid l a p).map bv).toArray = w2 at hcp hrow' hbel'
            have HR' := Lib.hid hrow'
            clear hrow'
            go_wp2
            go_roundw
            case rel =>
              refine ⟨k + 1, a + p.size, laid l a p, by omega, by go_num, by go_num, ?_, ?_, ?_, HR'.out, hbel'⟩
              · rw [HN.out, List.length_append, size_data, ← HA.out]
              · rw [laid_length _ _ _ (by rw [HL.out]; omega)]; exact HL.out
              · rw [laid_take _ _ _ (by rw [HL.out]; omega), HT.out, HN.out]
            case measure => go_light; simp [intOf]; omega
        · have hc : _ := HR.out.string m
          have he : l = cat ss := by
            have h1 := HT.out
            rw [HA.out, List.take_of_length_le (show ss.length ≤ k by omega), ← HMT.out, List.take_of_length_le (by rw [HL.out]; exact Nat.le_refl _)] at h1
            exact h1
          rw [HL.out, he] at hc
          clear he
          go_wp2
          go_ret
          exact ⟨rfl, hbel⟩

theorem mk_data (s : ByteArray) : ByteArray.mk s.data.toList.toArray = s := by simp
theorem cat_one (s : ByteArray) : ByteArray.mk (cat [s]).toArray = s := by simp [cat]
theorem cat_two (s t : ByteArray) : ByteArray.mk (cat [s, t]).toArray = s ++ t := by
  apply ByteArray.ext; rw [ByteArray.data_append]; simp [cat]
/-- joined of two strings that were just laid in memory -/
theorem joined_two (s t : ByteArray) (w : World) (h : s.size + t.size ≤ 1000000) :
    Calls Try.prog 62 #[.slice (some ⟨w.heap.size, 0, none⟩) 2 2] (w.alloc (.cells #[.string s, .string t] 9)) fun e w' => e = .returned (.string (s ++ t)) ∧ Below w.heap.size w w' := by
  have hb : Below w.heap.size w (w.alloc (.cells #[.string s, .string t] 9)) := (Below.refl _ _).alloc (Nat.le_refl _) _
  refine (joined_any w.heap.size [s, t] 2 _ (by simp) (by simp [cat]; exact h) (fun i hi => ?_)).mono fun e w' he => ?_
  · rw [World.cell?_alloc_mark]
    match i, hi with
    | 0, _ | 1, _ => rfl
  · rw [cat_two] at he
    exact ⟨he.1, hb.trans (he.2.mono hb.size)⟩
theorem joined_one (s : ByteArray) (w : World) (h : s.size ≤ 1000000) :
    Calls Try.prog 62 #[.slice (some ⟨w.heap.size, 0, none⟩) 1 1] (w.alloc (.cells #[.string s] 9)) fun e w' => e = .returned (.string s) ∧ Below w.heap.size w w' := by
  have hb : Below w.heap.size w (w.alloc (.cells #[.string s] 9)) := (Below.refl _ _).alloc (Nat.le_refl _) _
  refine (joined_any w.heap.size [s] 1 _ (by simp) (by simp [cat]; exact h) (fun i hi => ?_)).mono fun e w' he => ?_
  · rw [World.cell?_alloc_mark]
    match i, hi with
    | 0, _ => rfl
  · rw [cat_one] at he
    exact ⟨he.1, hb.trans (he.2.mono hb.size)⟩
end Go.Proofs.Ytgbcogncnhbmeaa.Nu

set_option linter.unusedSimpArgs false
set_option linter.unusedVariables false
namespace Go.Proofs.Ytgbcogncnhbmeaa.Nu
open Go.RowKit

theorem i64_not_neg (n : Int) (h0 : n < 0) (h1 : -9223372036854775808 ≤ n) : bits .xor .i64 (-1) n = -1 - n := by
  have e : (BitVec.ofInt 64 (-1) ^^^ BitVec.ofInt 64 n) = ~~~ (BitVec.ofInt 64 n) := by
    have : BitVec.ofInt 64 (-1) = BitVec.allOnes 64 := by decide
    rw [this, BitVec.allOnes_xor]
  show IntKind.i64.wrap ((BitVec.ofInt 64 (-1) ^^^ BitVec.ofInt 64 n).toNat : Int) = _
  rw [e, BitVec.toNat_not, BitVec.toNat_ofInt]
  have : n % ((2 ^ 64 : Nat) : Int) = n + 18446744073709551616 := by omega
  rw [this]
  have e2 : ((2 ^ 64 - 1 - (n + 18446744073709551616).toNat : Nat) : Int) = -1 - n := by omega
  rw [e2]
  simp [IntKind.wrap, IntKind.bits, IntKind.signed]; omega
theorem or1_even (k : Nat) (h : k < 9223372036854775808) : bits .or .u64 ((k : Int) * 2) 1 = (k : Int) * 2 + 1 := by
  have h1 := u64_or_nat (k * 2) 1 (by omega) (by omega)
  have h2 : k * 2 ||| 1 = k * 2 + 1 := nat_join 1 (k * 2) 1 (by omega) (by omega)
  rw [h2] at h1
  have e : ((k * 2 : Nat) : Int) = (k : Int) * 2 := by omega
  rw [e] at h1
  rw [show (1 : Int) = ((1 : Nat) : Int) from rfl, h1]; omega

theorem spec_fold (n : Int) (wn : (Lit.int .i64 n).wf = true) (w : World) :
    Calls Try.prog 126 #[.int .i64 n] w fun e w' => e = .returned (.int .u64 (fold n : Nat)) ∧ w = w' := by
  have hb := bounds_i64 wn
  by_cases h : n < 0
  all_goals
    go_enter Try.func126, Try.ntmps126
    go_wp2
    all_goals go_ret
    all_goals (refine ⟨ret_int ?_, rfl⟩; go_light; unfold fold; split <;> omega)
theorem impl_zigzag (n : Int) (wn : (Lit.int .i64 n).wf = true) (w : World) :
    Calls Try.prog 101 #[.int .i64 n] w fun e w' => e = .returned (.int .u64 (fold n : Nat)) ∧ w = w' := by
  have hb := bounds_i64 wn
  by_cases h : n < 0
  · obtain ⟨k, hk⟩ : ∃ k : Nat, (k : Int) = -1 - n := ⟨(-1 - n).toNat, by omega⟩
    have hx : bits .xor .i64 (-1) n = (k : Int) := by rw [i64_not_neg n h hb.1, hk]
    have ho := or1_even k (by omega)
    have q1 : IntKind.u64.wrap (k : Int) = k := by rw [IntKind.wrap_u64]; omega
    have q2 : IntKind.u64.wrap ((k : Int) * 2) = (k : Int) * 2 := by rw [IntKind.wrap_u64]; omega
    have HK := Lib.hid hk
    have HB := Lib.hid hb
    clear hk hb
    go_enter Try.func101, Try.ntmps101
    go_wp2
    all_goals go_ret
    all_goals (refine ⟨ret_int ?_, rfl⟩; go_light; have := HK.out; have := HB.out; unfold fold; split <;> omega)
  · go_enter Try.func101, Try.ntmps101
    go_wp2
    all_goals go_ret
    all_goals (refine ⟨ret_int ?_, rfl⟩; go_light; unfold fold; split <;> omega)

/-- u' is what is left of a 64-bit number behind k bytes -/
def Rest (u' k : Nat) : Prop := u' * 128 ^ k < 18446744073709551616
theorem Rest.lt {u' k : Nat} (h : Rest u' k) : u' < 18446744073709551616 :=
  Nat.lt_of_le_of_lt (Nat.le_mul_of_pos_right u' (Nat.pow_pos (by omega))) h
theorem Rest.div {u' k : Nat} (h : Rest u' k) : IntKind.u64.wrap ((u' : Int) / 128) = (u' : Int) / 128 := by
  have := h.lt
  rw [IntKind.wrap_u64]; omega
def zeros : List UInt8 := [0, 0, 0, 0, 0, 0, 0, 0, 0, 0]

theorem arr10 : Try.prog.arrayLen 134 = 10 := by kernel_rfl
theorem size8 (W : World) : (sizeOf (Try.prog.elem 134)).run Try.prog W = .ok 1 W := by kernel_rfl
theorem slice10 (g k : Nat) (hk : k ≤ 9) (W : World) :
    (Instr.sliceAt 134 (.pointer (some ⟨g, 0, none⟩)) none (some (.int .i64 ((k : Int) + 1))) none).run Try.prog W = .ok (.slice (some ⟨g, 0, none⟩) (k + 1) 10) W := by
  rw [run_sliceAt_array_h W 134 _ (by kernel_rfl) .i64 ((k : Int) + 1) (by omega) (by rw [arr10]; omega), size8, arr10]
  simp [slicedAt, Addr.add]
set_option maxRecDepth 10000 in
theorem or128 (u' : Nat) : bits .or .u8 ((u' : Int) % 256) 128 = ((u' % 128 + 128 : Nat) : Int) := by
  have h1 := u8_or_nat (u' % 256) 128 (by omega) (by omega)
  have h2 : ∀ a : Fin 256, a.val ||| 128 = a.val % 128 + 128 := by decide
  have h3 := h2 ⟨u' % 256, by omega⟩
  simp only at h3
  rw [h3, show u' % 256 % 128 = u' % 128 by omega] at h1
  rw [← h1]; rfl
/-- the first cells of a new array are zeros -/
theorem arr_new (w : World) : Arr (w.alloc (.cells #[.int .u8 0, .int .u8 0, .int .u8 0, .int .u8 0, .int .u8 0, .int .u8 0, .int .u8 0, .int .u8 0, .int .u8 0, .int .u8 0] 134)) w.heap.size zeros := by
  constructor
  · intro j hj
    have : j < 10 := hj
    rw [World.cell?_alloc_mark]
    match j, this with
    | 0, _ | 1, _ | 2, _ | 3, _ | 4, _ | 5, _ | 6, _ | 7, _ | 8, _ | 9, _ => rfl
  · intro j
    rw [World.frozen?_alloc_mark]; simp

set_option maxRecDepth 100000 in
set_option maxHeartbeats 1000000 in
theorem impl_PutNum (n : Int) (wn : (Lit.int .i64 n).wf = true) (w : World) :
    Calls Try.prog 60 #[.int .i64 n] w fun e w' => e = .returned (.string ⟨(enc (fold n)).toArray⟩) ∧ Below w.heap.size w w' := by
  have hb := bounds_i64 wn
  have hu := fold_lt n hb
  have HU := Lib.hid hu
  clear hu hb
  go_enter Try.func60, Try.ntmps60
  go_wp2_with (go_at_call 101; refine (impl_zigzag n wn _).mono ?_; rintro e w' ⟨rfl, rfl⟩)
  go_loopw [4, 5] (fun u i wr => ∃ (u' k : Nat) (l : List UInt8), u = .int .u64 u' ∧ i = .int .i64 k ∧ l.length = 10 ∧ Rest u' k ∧ k ≤ 9 ∧ l.take k ++ enc u' = enc (fold n) ∧ Arr wr w.heap.size l ∧ Below w.heap.size w wr) (fun u _ _ => (intOf u).toNat)
  case atStart =>
    exact ⟨fold n, 0, zeros, rfl, rfl, rfl, by unfold Rest; simpa using HU.out, by omega, by simp, arr_new w, (Below.refl _ _).alloc (Nat.le_refl _) _⟩
  case round =>
    obtain ⟨u', k, l, rfl, rfl, hl, hlt, hk9, hen, harr, hbel⟩ := hrel
    have HL := Lib.hid hl
    have HT := Lib.hid hlt
    have HE := Lib.hid hen
    have HA := Lib.hid harr
    clear hl hlt hen harr
    have c1 := HA.out.cell k (by rw [HL.out]; omega)
    have c2 := HA.out.free k
    generalize l[k]'(by rw [HL.out]; omega) = lk at c1
    clear wn
    by_cases h8 : u' < 128
    · have hs := slice10 w.heap.size k hk9
      have hv := bv_of u' (by omega)
      have ha := HA.out.set k (by rw [HL.out]; omega) (UInt8.ofNat u')
      rw [← hv] at ha
      have hc := ha.string (k + 1) 10 (by rw [List.length_set, HL.out]; omega)
      rw [take_set _ _ (by rw [HL.out]; omega), last_bytes _ _ _ HE.out h8] at hc
      clear hv ha
      go_wp2
      go_ret
      exact ⟨rfl, hbel.setCell (Nat.le_refl _) _⟩
    · have ho := or128 u'
      have h9 := left_lt u' k HT.out (by omega)
      go_wp2
      go_roundw
      case rel =>
        refine ⟨u' / 128, k + 1, l.set k (UInt8.ofNat (u' % 128 + 128)), rfl, by go_num, ?_, left_next _ _ HT.out, by omega, ?_, ?_, hbel.setCell (Nat.le_refl _) _⟩
        · rw [List.length_set]; exact HL.out
        · rw [take_set _ _ (by rw [HL.out]; omega)]; exact step_bytes _ _ _ HE.out h8
        · show Arr (wr.setCell _ (.int .u8 ((u' % 128 + 128 : Nat) : Int))) _ _
          rw [bv_of _ (by omega)]; exact HA.out.set k (by rw [HL.out]; omega) _
      case measure => go_light; simp [intOf]; omega

set_option maxRecDepth 100000 in
set_option maxHeartbeats 1000000 in
theorem spec_PutNum (n : Int) (wn : (Lit.int .i64 n).wf = true) (w : World) :
    Calls Try.prog 109 #[.int .i64 n] w fun e w' => e = .returned (.string ⟨(enc (fold n)).toArray⟩) ∧ Below w.heap.size w w' := by
  have hb := bounds_i64 wn
  have hu := fold_lt n hb
  have HU := Lib.hid hu
  clear hu hb
  obtain ⟨i0, hi, hz0, hz1, hz2⟩ := info_parts info8
  go_enter Try.func109, Try.ntmps109
  go_wp2_with (go_at_call 126; refine (spec_fold n wn _).mono ?_; rintro e w' ⟨rfl, rfl⟩)
  go_loopw [3, 4] (fun u v wr => ∃ (u' : Nat) (acc : List UInt8), u = .int .u64 u' ∧ Rest u' acc.length ∧ acc ++ enc u' = enc (fold n) ∧ wr.ownsRow w.heap.size 5 1 v acc.length (acc.map bv) ∧ Below w.heap.size w wr) (fun u _ _ => (intOf u).toNat)
  case atStart =>
    exact ⟨fold n, [], rfl, by unfold Rest; simpa using HU.out, rfl, World.ownsRow_made w #[] 0 (Nat.le_refl _) (by unfold maxLen; omega) rfl, (Below.refl _ _).alloc (Nat.le_refl _) _⟩
  case round =>
    obtain ⟨u', acc, rfl, hlt, hen, hown, hbel⟩ := hrel
    have HT := Lib.hid hlt
    have HE := Lib.hid hen
    have HO := Lib.hid hown
    clear hlt hen hown
    have ha10 : acc.length < 10 := by
      have h1 := congrArg List.length HE.out
      rw [List.length_append] at h1
      have h2 := enc_len10 _ HU.out
      have h3 := enc_pos u'
      omega
    have hz := hbel.size
    by_cases h8 : u' < 128
    · go_wp2_with (at_builtin; refine wpList_append_own _ rfl _ _ 22 rfl w.heap.size 5 i0 (.int .u8 0) 1 1 Try.underlying22 hi hz0 hz1 hz2 rfl (by decide) _ _ _ rfl (HO.out.alloc _) ⟨wr.heap.size, 0, none⟩ 1 1 [.int .u8 (u' : Int)] rfl rfl ?c1 ?c2 ?c3 ?c4 ?c5 ?_)
      case c1 => exact cell_one_new _ _ _
      case c2 => intro u hu; simp at hu; subst hu; rfl
      case c3 => unfold maxLen; omega
      case c4 => omega
      case c5 => simp; omega
      intro v' w1 hown1 hgrow1 _
      have hv := bv_of u' (by omega)
      rw [hv, show acc.map bv ++ [bv (UInt8.ofNat u')] = (acc ++ [UInt8.ofNat u']).map bv by simp] at hown1
      have hc := own_string hown1
      rw [last_bytes _ _ _ HE.out h8] at hc
      have hb1 : Below w.heap.size w w1 := (hbel.alloc hz _).grown hgrow1 (by simp; omega) (fun k hk => (HO.out.lt k hk).1)
      clear hv hown1 hgrow1
      go_wp2
      go_ret
      exact ⟨rfl, hb1⟩
    · have hdv := HT.out.div
      go_wp2_with (at_builtin; refine wpList_append_own _ rfl _ _ 22 rfl w.heap.size 5 i0 (.int .u8 0) 1 1 Try.underlying22 hi hz0 hz1 hz2 rfl (by decide) _ _ _ rfl (HO.out.alloc _) ⟨wr.heap.size, 0, none⟩ 1 1 [.int .u8 ((u' % 128 + 128 : Nat) : Int)] rfl rfl ?d1 ?d2 ?d3 ?d4 ?d5 ?_)
      case d1 => exact cell_one_new _ _ _
      case d2 => intro u hu; simp at hu; subst hu; rfl
      case d3 => unfold maxLen; omega
      case d4 => omega
      case d5 => simp; omega
      intro v' w1 hown1 hgrow1 _
      rw [show Value.int .u8 ((u' : Int) % 128 + 128) = bv (UInt8.ofNat (u' % 128 + 128)) from bv_of (u' % 128 + 128) (by omega), show acc.map bv ++ [bv (UInt8.ofNat (u' % 128 + 128))] = (acc ++ [UInt8.ofNat (u' % 128 + 128)]).map bv by simp] at hown1
      have hb1 : Below w.heap.size w w1 := (hbel.alloc hz _).grown hgrow1 (by simp; omega) (fun k hk => (HO.out.lt k hk).1)
      have HO1 := Lib.hid hown1
      clear hown1 hgrow1
      go_wp2
      go_roundw
      case rel =>
        refine ⟨u' / 128, acc ++ [UInt8.ofNat (u' % 128 + 128)], rfl, ?_, step_bytes _ _ _ HE.out h8, ?_, hb1⟩
        · rw [List.length_append]; exact left_next _ _ HT.out
        · rw [List.length_append]; exact HO1.out
      case measure => go_light; simp [intOf]; omega

end Go.Proofs.Ytgbcogncnhbmeaa.Nu

set_option linter.unusedSimpArgs false
set_option linter.unusedVariables false
namespace Go.Proofs.Ytgbcogncnhbmeaa.Mk
open Go.RowKit

theorem impl_ret_str {a b : ByteArray} (h : a = b) : Ending.returned (.string a) = .returned (.string b) := by rw [h]
theorem impl_wf_dot {m : Int × Int} (h : dotB m = true) : (Lit.int .i64 m.1).wf = true ∧ (Lit.int .i64 m.2).wf = true := by
  have := (dotB_iff m).1 h
  exact ⟨WalkArith.wf_i64 (by omega), WalkArith.wf_i64 (by omega)⟩
set_option maxRecDepth 100000 in
set_option maxHeartbeats 1000000 in
theorem markBytes (m : Int × Int) (w : World) (hd : dotB m = true) :
    Calls Try.prog 100 #[mv m] w fun e w' => e = .returned (.string (markS m)) ∧ Below w.heap.size w w' := by
  have hm := (dotB_iff m).1 hd
  have hw := impl_wf_dot hd
  have HE : Hid (markS m = Nu.numS m.1 ++ Nu.numS m.2) := Lib.hid rfl
  rw [HE.out]
  clear HE hd
  obtain ⟨x, y⟩ := m
  unfold mv
  simp only at hm hw ⊢
  have Wx := Lib.hid hw.1
  have Wy := Lib.hid hw.2
  have sx := Nu.numS_size_of x (by omega)
  have sy := Nu.numS_size_of y (by omega)
  clear hw
  have V := Lib.hid ((Var2.new w (.int .i64 x) (.int .i64 y) 30).below (step_drew _))
  have D := Lib.hid ((show Base w _ from step_alloc w (.cells #[.int .i64 x, .int .i64 y] 30)).below (step_drew _))
  go_enter Try.func100, Try.ntmps100
  go_wp2_with fail
  refine wp_region_held_drew (S := (fun w' => w'.cell? ⟨w.heap.size, 0, none⟩ = some (.int .i64 x) ∧ w'.cell? ⟨w.heap.size, 1, none⟩ = some (.int .i64 y))) (by kernel_rfl) (by exact ⟨V.out.c0, V.out.c1⟩) (fun hHeld => ?_)
  refine wpAnyH_take (i := 0) (v := ?_) rfl (by kernel_rfl) (by kernel_rfl) (by kernel_rfl) (fun _ _ _ h => h) (Or.inl ⟨by rfl, fun w hSw => by (try dsimp only at hSw); go_simp; (try with_reducible rfl)⟩) (by assumption) ?_
  try simp only [Act.put, List.setIfInBounds_toArray, List.set_cons_zero, List.set_cons_succ, List.getElem_toArray, List.getElem_cons_zero, List.getElem_cons_succ]
  refine wpAnyH_take (i := 1) (v := ?_) rfl (by kernel_rfl) (by kernel_rfl) (by kernel_rfl) (fun _ _ _ h => h) (Or.inl ⟨by rfl, fun w hSw => by (try dsimp only at hSw); go_simp; (try with_reducible rfl)⟩) (by assumption) ?_
  try simp only [Act.put, List.setIfInBounds_toArray, List.set_cons_zero, List.set_cons_succ, List.getElem_toArray, List.getElem_cons_zero, List.getElem_cons_succ]
  refine wpAnyH_take (i := 3) (v := ?_) rfl (by kernel_rfl) (by kernel_rfl) (by kernel_rfl) (fun _ _ _ h => h) (Or.inl ⟨by rfl, fun w hSw => by (try dsimp only at hSw); go_simp; (try with_reducible rfl)⟩) (by assumption) ?_
  try simp only [Act.put, List.setIfInBounds_toArray, List.set_cons_zero, List.set_cons_succ, List.getElem_toArray, List.getElem_cons_zero, List.getElem_cons_succ]
  refine wpAnyH_take (i := 4) (v := ?_) rfl (by kernel_rfl) (by kernel_rfl) (by kernel_rfl) (fun _ _ _ h => h) (Or.inl ⟨by rfl, fun w hSw => by (try dsimp only at hSw); go_simp; (try with_reducible rfl)⟩) (by assumption) ?_
  try simp only [Act.put, List.setIfInBounds_toArray, List.set_cons_zero, List.set_cons_succ, List.getElem_toArray, List.getElem_cons_zero, List.getElem_cons_succ]
  refine wpAnyH_ready (rs := [2]) (by kernel_rfl) (by simp) ?_
  refine AllReadyH.cons rfl (fun K hK => ?_) AllReadyH.nil
  go_simp
  go_at_call 60
  refine (Nu.impl_PutNum x Wx.out _).mono ?_
  rintro e w1 ⟨rfl, hb⟩
  rw [Nu.numS_mk]
  replace V := Lib.hid (V.out.below hb)
  replace D := Lib.hid (D.out.below hb)
  clear hb
  go_wp2_with fail
  refine hK.out _ _ (by exact ⟨V.out.c0, V.out.c1⟩) (fun hHeld => ?_)
  clear hK K
  try simp only [Act.put, List.setIfInBounds_toArray, List.set_cons_zero, List.set_cons_succ, List.getElem_toArray, List.getElem_cons_zero, List.getElem_cons_succ]
  refine wpAnyH_ready (rs := [5]) (by kernel_rfl) (by simp) ?_
  refine AllReadyH.cons rfl (fun K hK => ?_) AllReadyH.nil
  go_simp
  go_at_call 60
  refine (Nu.impl_PutNum y Wy.out _).mono ?_
  rintro e w2 ⟨rfl, hb⟩
  rw [Nu.numS_mk]
  replace V := Lib.hid (V.out.below hb)
  replace D := Lib.hid (D.out.below hb)
  clear hb
  go_wp2_with fail
  refine hK.out _ _ (by exact ⟨V.out.c0, V.out.c1⟩) (fun hHeld => ?_)
  clear hK K
  try simp only [Act.put, List.setIfInBounds_toArray, List.set_cons_zero, List.set_cons_succ, List.getElem_toArray, List.getElem_cons_zero, List.getElem_cons_succ]
  refine wpAnyH_ready (rs := [6]) (by kernel_rfl) (by simp) ?_
  refine AllReadyH.cons rfl (fun K hK => ?_) AllReadyH.nil
  go_simp
  have V2 := V
  have hb := step_alloc w2 (.cells #[.string (Nu.numS x), .string (Nu.numS y)] 9)
  replace V := Lib.hid (V.out.below hb)
  clear hb
  refine hK.out _ _ (by exact ⟨V.out.c0, V.out.c1⟩) (fun hHeld => ?_)
  clear hK K
  try simp only [Act.put, List.setIfInBounds_toArray, List.set_cons_zero, List.set_cons_succ, List.getElem_toArray, List.getElem_cons_zero, List.getElem_cons_succ]
  refine wpAnyH_ready (rs := [7]) (by kernel_rfl) (by simp) ?_
  refine AllReadyH.cons rfl (fun K hK => ?_) AllReadyH.nil
  go_simp
  go_at_call 62
  refine (Nu.joined_two (Nu.numS x) (Nu.numS y) w2 (by omega)).mono ?_
  rintro e w3 ⟨rfl, hb⟩
  have V0 := Lib.hid (V.out)
  replace V := Lib.hid (V2.out.below hb)
  replace D := Lib.hid (D.out.below hb)
  clear hb
  go_wp2_with fail
  refine hK.out _ _ (by exact ⟨V.out.c0, V.out.c1⟩) (fun hHeld => ?_)
  clear hK K
  try simp only [Act.put, List.setIfInBounds_toArray, List.set_cons_zero, List.set_cons_succ, List.getElem_toArray, List.getElem_cons_zero, List.getElem_cons_succ]
  refine wpAnyH_take (i := 8) (v := ?_) rfl (by kernel_rfl) (by kernel_rfl) (by kernel_rfl) (fun _ _ _ h => h) (Or.inl ⟨by rfl, fun w hSw => by (try dsimp only at hSw); go_simp; (try with_reducible rfl)⟩) (by assumption) ?_
  try simp only [Act.put, List.setIfInBounds_toArray, List.set_cons_zero, List.set_cons_succ, List.getElem_toArray, List.getElem_cons_zero, List.getElem_cons_succ]
  refine wpAnyH_done (by kernel_rfl) ?_ _
  go_wp2
  go_ret
  exact ⟨rfl, D.out⟩

theorem infoS : (Try.prog.info? 9).map (fun i => (i.zero, i.size, i.bytes)) = some (some (.string ⟨#[]⟩), 1, 16) := by kernel_rfl
theorem wpList_append_str (w0 : World) {ops : Array Oper} {rest : List Oper} {o : Oper} {a : Act} {Q : Exit → Act → World → Prop} (hg : o.guard = none) (s x : Operand)
    (hop : o.op = .call { callee := .builtin .append, args := #[s, x], argTypes := #[43, 43] }) (B : Nat) (v : Value) (l : List ByteArray) (m : ByteArray) (hs : a.eval s = v) (G : Nat) (hG : w0.heap.size = G)
    (hx : a.eval x = .slice (some ⟨G, 0, none⟩) 1 1) (hown : w0.ownsRow B 9 1 v l.length (l.map .string)) (hl : l.length ≤ 1000000) (hB : B ≤ w0.heap.size)
    (h : ∀ v' w', w'.ownsRow B 9 1 v' (l ++ [m]).length ((l ++ [m]).map .string) → Below B w0 w' → wpList Try.prog ops Q rest (a.put o.dst v') w') :
    wpList Try.prog ops Q (o :: rest) a (w0.alloc (.cells #[.string m] 9)) := by
  subst hG
  obtain ⟨i0, hi, hz0, hz1, hz2⟩ := info_parts infoS
  refine wpList_append_own _ hg s x 43 hop B 9 i0 _ 1 16 Try.underlying43 hi hz0 hz1 hz2 rfl (by decide) v l.length (l.map .string) hs (hown.alloc _) ⟨w0.heap.size, 0, none⟩ 1 1 [.string m] hx rfl
    (World.news_of_block (cs := #[.string m]) (heap_alloc_new w0 _)) (fun u hu => by simp at hu; subst hu; rfl) (by unfold maxLen; omega) (by omega) (by simp; omega) (fun v' w' h1 h2 _ => h v' w' ?_ ?_)
  · rw [List.map_append, List.length_append]; exact h1
  · exact ((Below.refl B w0).alloc hB _).grown h2 (by simp; omega) (fun k hk => (hown.lt k hk).1)
theorem own_strs {w : World} {B n : Nat} {v : Value} {l : List ByteArray} (h : w.ownsRow B 9 1 v n (l.map .string)) (h0 : 0 < n) :
    ∃ g cap, v = .slice (some ⟨g, 0, none⟩) l.length cap ∧ ∀ i (hi : i < l.length), w.cell? ⟨g, i, none⟩ = some (.string l[i]) := by
  obtain ⟨hlen, hc⟩ := h
  have hn : n = l.length := by simp at hlen; omega
  subst hn
  rcases hc with ⟨rfl, h1⟩ | ⟨g, cap, cur, rfl, hg, hh, hn, hm, hs, ht⟩
  · omega
  · refine ⟨g, cap, rfl, fun i hi => ?_⟩
    have e : cur[i]? = some (.string l[i]) := by
      have h1 : (cur.toList.take (l.length * 1))[i]? = some (.string l[i]) := by rw [ht]; simp [hi]
      rw [List.getElem?_take_of_lt (by omega)] at h1
      simpa using h1
    simp [World.cell?, hh, e]
/-- the parts that are joined -/
def partsOf (l : List (Int × Int)) (k : Nat) : List ByteArray := Nu.numS l.length :: (l.take k).map markS
theorem partsOf_next (l : List (Int × Int)) (k : Nat) (h : k < l.length) : partsOf l (k + 1) = partsOf l k ++ [markS l[k]] := by
  unfold partsOf; rw [List.take_succ_eq_append_getElem h, List.map_append]; rfl
theorem cat_parts (l : List (Int × Int)) (k : Nat) : Nu.cat (partsOf l k) = Nu.enc (Nu.fold l.length) ++ (l.take k).flatMap markB := by
  unfold partsOf Nu.cat
  rw [List.map_cons, List.flatten_cons, Nu.numS_data, List.map_map]
  rw [List.flatMap_def, show List.map ((fun x => x.data.toList) ∘ markS) (l.take k) = (l.take k).map markB from List.map_congr_left fun m _ => markS_data m]
theorem own_lit (w : World) (s : ByteArray) (B : Nat) (hB : B ≤ w.heap.size) : (w.alloc (.cells #[.string s] 9)).ownsRow B 9 1 (.slice (some ⟨w.heap.size, 0, none⟩) 1 1) [s].length ([s].map .string) :=
  ⟨rfl, .inr ⟨w.heap.size, 1, #[.string s], rfl, hB, heap_alloc_new w _, Nat.le_refl _, by unfold maxLen; omega, rfl, rfl⟩⟩

set_option maxRecDepth 100000 in
set_option maxHeartbeats 2000000 in
theorem impl_seenBytes (a : Option Addr) (cap : Nat) (l : List (Int × Int)) (w : World) (hl : l.length ≤ maxLen) (h : MarksAt w a l) :
    Calls Try.prog 59 #[.slice a l.length cap] w fun e w' => e = .returned (.string (bytesV l)) ∧ Below w.heap.size w w' := by
  have H := Lib.hid h
  clear h
  cases hr : rightB l
  · have HE := Lib.hid (bytesV_no hr)
    go_enter Try.func59, Try.ntmps59
    go_wp2_with (go_at_call 50; refine (seenRight _ _ l _ hl H.out).mono ?_; rintro e w' ⟨rfl, hb⟩)
    go_ret
    exact ⟨impl_ret_str HE.out.symm, hb⟩
  · have HR := Lib.hid hr
    have h5 := right_len hr
    have HE := Lib.hid (bytesV_yes hr)
    go_enter Try.func59, Try.ntmps59
    go_wp2_with fail
    refine (seenRight a cap l _ hl H.out).mono ?_
    rintro e w1 ⟨rfl, hb⟩
    have HB1 := Lib.hid hb
    clear hb
    go_wp2_with fail
    refine (Nu.impl_PutNum (l.length : Int) (WalkArith.wf_i64 (by omega)) _).mono ?_
    rintro e w2 ⟨rfl, hb2⟩
    rw [Nu.numS_mk]
    have HB2 := Lib.hid (HB1.out.trans (hb2.mono HB1.out.size))
    clear hb2
    go_wp2
    go_loopw [3, 15] (fun z i wr => ∃ (k : Nat), k ≤ l.length ∧ i = .int .i64 k ∧ wr.ownsRow w.heap.size 9 1 z (partsOf l k).length ((partsOf l k).map .string) ∧ Below w.heap.size w wr) (fun _ i _ => l.length - (intOf i).toNat)
    case atStart => exact ⟨0, Nat.zero_le _, rfl, own_lit w2 _ _ HB2.out.size, HB2.out.alloc HB2.out.size _⟩
    case round =>
      obtain ⟨k, hk, rfl, ho, hbel⟩ := hrel
      have HO := Lib.hid ho
      have HB := Lib.hid hbel
      clear ho hbel
      have HL : Hid ((partsOf l k).length ≤ 6) := Lib.hid (by unfold partsOf; simp; omega)
      by_cases hlt : k < l.length
      · obtain ⟨g, off, rfl, hg, c0, c1⟩ := (H.out.mono HB.out).cells hlt
        have hd := right_dot HR.out _ (List.getElem_mem hlt)
        have HS := Lib.hid (partsOf_next l k hlt)
        have HD := Lib.hid hd
        clear hd
        generalize l[k] = m at c0 c1 HS HD
        obtain ⟨x, y⟩ := m
        simp only at c0 c1
        go_wp2_with fail
        refine (markBytes (x, y) _ HD.out).mono ?_
        rintro e w3 ⟨rfl, hb3⟩
        have HO3 := Lib.hid (own_below (HO.out.alloc (.cells #[.int .i64 x, .int .i64 y] 30)) hb3)
        have HB3 := Lib.hid ((HB.out.alloc HB.out.size (.cells #[.int .i64 x, .int .i64 y] 30)).trans (hb3.mono (by have := HB.out.size; simp; omega)))
        clear hb3
        generalize markS (x, y) = p at HS ⊢
        go_wp2_with (at_builtin; refine wpList_append_str _ rfl _ _ rfl w.heap.size _ (partsOf l k) p (by rfl) w3.heap.size (by rfl) (by rfl) HO3.out (by have := HL.out; omega) HB3.out.size ?_; intro v' w4 ho4 hb4)
        have HO4 := Lib.hid ho4
        have HB4 := Lib.hid (HB3.out.trans hb4)
        clear ho4 hb4
        go_wp2
        go_roundw
        case rel => exact ⟨k + 1, by omega, by go_num, by rw [HS.out]; exact HO4.out, HB4.out⟩
        case measure => go_light; simp [intOf]; omega
      · obtain ⟨g, cp, rfl, hc⟩ := own_strs HO.out (by unfold partsOf; simp)
        have hcat : Nu.cat (partsOf l k) = seenB l := by rw [cat_parts, List.take_of_length_le (by omega)]; rfl
        have hle := flat_length_le l (right_dot HR.out)
        have hsz : (Nu.cat (partsOf l k)).length ≤ 1000000 := by
          have h2 := Nu.enc_len10 (Nu.fold l.length) (Nu.fold_lt _ (by omega))
          rw [hcat]; unfold seenB; rw [List.length_append]; omega
        have HC := Lib.hid hc
        have HT := Lib.hid hcat
        have HZ := Lib.hid hsz
        clear hc hcat hsz hle
        go_wp2_with fail
        refine (Nu.joined_any g (partsOf l k) cp _ (by have := HL.out; omega) HZ.out HC.out).mono ?_
        rintro e w5 ⟨rfl, hb5⟩
        rw [HT.out, ← HE.out]
        go_wp2
        go_ret
        exact ⟨rfl, HB.out.trans (hb5.mono HB.out.size)⟩
end Go.Proofs.Ytgbcogncnhbmeaa.Mk

set_option linter.unusedSimpArgs false
set_option linter.unusedVariables false
namespace Go.Proofs.Ytgbcogncnhbmeaa.Sb
open Go.RowKit Go.Proofs.Ytgbcogncnhbmeaa.Mk Go.Proofs.Ytgbcogncnhbmeaa.Rw

def tenc (s : ByteArray) : Nat → Value := fun _ => .string s
theorem flat1 (l : List ByteArray) : flatE 1 tenc l = l.map .string := by
  induction l with
  | nil => rfl
  | cons x r ih =>
    show tenc x 0 :: flatE 1 tenc r = _
    rw [ih]; rfl
theorem tcell {w : World} {a : Option Addr} {l : List ByteArray} (h : RowAt 1 tenc w a l) {i : Nat} (hi : i < l.length) : ∃ g off, a = some ⟨g, off, none⟩ ∧ g < w.heap.size ∧ w.cell? ⟨g, off + i, none⟩ = some (.string l[i]) := by
  obtain ⟨g, off, ha, hg, hc⟩ := RowAt.cells (by decide) h hi
  have := hc 0 (by decide)
  rw [Nat.mul_one, Nat.add_zero] at this
  exact ⟨g, off, ha, hg, this⟩
theorem town {w : World} {g : Nat} {l : List ByteArray} (h : ROwn 1 tenc w g l) {i : Nat} (hi : i < l.length) : w.cell? ⟨g, i, none⟩ = some (.string l[i]) := by
  have := h.cell i hi 0 (by decide)
  rwa [Nat.mul_one, Nat.add_zero] at this
theorem town_set {w : World} {g : Nat} {l : List ByteArray} (h : ROwn 1 tenc w g l) (i : Nat) (hi : i < l.length) (x : ByteArray) : ROwn 1 tenc (w.setCell ⟨g, i, none⟩ (.string x)) g (l.set i x) :=
  h.put i x (fun j hj => by
      obtain rfl : j = 0 := by omega
      rw [Nat.mul_one, Nat.add_zero]
      exact World.cell?_setCell_same _ _ _ (town h hi))
    (fun o ho => World.cell?_setCell_other _ _ _ _ (ne_off (by omega))) (fun j => World.frozen?_setCell _ _ _ _)
def strL (k n : Nat) : List ByteArray := (List.range n).map fun i => markT (k + i)
theorem strL_length (k n : Nat) : (strL k n).length = n := by simp [strL]
theorem strL_get (k n i : Nat) (h : i < (strL k n).length) : (strL k n)[i] = markT (k + i) := by simp [strL]
def MarkedT (w : World) (lo hi : Nat) (a : Option Addr) (k n : Nat) (e : Ending) (w' : World) : Prop :=
  e = .returned (.int .i64 ((k + n : Nat) : Int)) ∧ ROwnIn 1 tenc w' lo hi a (strL k n) ∧ Within lo hi w w'
/-- the data of the Sibs that are not gone -/
def vals (s : List Sib) : List ByteArray := (s.filter fun x => !x.2.1).map fun x => x.2.2
def setVals (l : List (Int × Int)) (s : List Sib) : List ByteArray := if setB l s = true then vals s else []
theorem vals_len (s : List Sib) : (vals s).length ≤ s.length := by unfold vals; rw [List.length_map]; exact List.length_filter_le _ _
theorem vals_take (s : List Sib) (k : Nat) (h : k < s.length) : vals (s.take (k + 1)) = vals (s.take k) ++ (if s[k].2.1 = true then [] else [s[k].2.2]) := by
  unfold vals
  rw [List.take_succ_eq_append_getElem h, List.filter_append, List.map_append]
  cases e : s[k].2.1 <;> simp [e]
theorem setVals_no {l : List (Int × Int)} {s : List Sib} (h : setB l s = false) : setVals l s = [] := if_neg (by rw [h]; simp)
theorem setVals_yes {l : List (Int × Int)} {s : List Sib} (h : setB l s = true) : setVals l s = vals s := if_pos h
def VGives (w : World) (l : List ByteArray) (e : Ending) (w' : World) : Prop :=
  ∃ a cap, e = .returned (.slice a l.length cap) ∧ ROwnIn 1 tenc w' w.heap.size w'.heap.size a l ∧ Below w.heap.size w w'
theorem run_make_strs (n : Nat) (hn : n ≤ 1048576) (w : World) :
    (Instr.makeSlice 43 (.int .i64 0) (.int .i64 (n : Int))).run Try.prog w = .ok (.slice (some ⟨w.heap.size, 0, none⟩) 0 n) (w.alloc (.cells (madeCells #[.string ⟨#[]⟩] (n * 1)) 9)) := by
  obtain ⟨i0, hi, hz0, hz1, hz2⟩ := info_parts Mk.infoS
  have := run_make (P := Try.prog) w 43 9 i0 _ Try.underlying43 hi hz0 .i64 .i64 0 n (by omega) (by omega) (by rw [hz2]; omega) (by omega)
  rw [hz1] at this
  simpa [Value.cells] using this
end Go.Proofs.Ytgbcogncnhbmeaa.Sb

set_option linter.unusedSimpArgs false
set_option linter.unusedVariables false
namespace Go.Proofs.Ytgbcogncnhbmeaa.Sb
open Go.RowKit Go.Proofs.Ytgbcogncnhbmeaa.Mk Go.Proofs.Ytgbcogncnhbmeaa.Rw

set_option maxRecDepth 100000 in
set_option maxHeartbeats 2000000 in
theorem impl_values (a b : Option Addr) (cap cap' : Nat) (l : List (Int × Int)) (s : List Sib) (w : World) (hl : l.length ≤ maxLen) (hs : s.length ≤ maxLen) (hd : SmallData s) (hwd : WfDots s) (h : MarksAt w a l) (h' : SibsAt w b s) :
    Calls Try.prog 22 #[.agg #[.slice a l.length cap, .slice b s.length cap']] w (VGives w (setVals l s)) := by
  have H := Lib.hid h
  have H' := Lib.hid h'
  clear h h'
  have X := Lib.hid (Cells.new w #[.slice a l.length cap, .slice b s.length cap'] 26)
  have D := Lib.hid (show Base w _ from step_alloc w (.cells #[.slice a l.length cap, .slice b s.length cap'] 26))
  cases hr : setB l s
  · have HE := Lib.hid (setVals_no hr)
    rw [HE.out]
    go_enter Try.func22, Try.ntmps22
    go_wp2_with (go_at_call 24; refine (impl_setRight a b cap cap' l s _ hl hs hd hwd (H.out.mono D.out) (H'.out.mono D.out)).mono ?_; rintro e w1 ⟨rfl, hb⟩; rw [hr]; have D1 := Lib.hid (D.out.below hb))
    go_ret
    exact ⟨_, _, rfl, .inl rfl, D1.out⟩
  have HE := Lib.hid (setVals_yes hr)
  rw [HE.out]
  have h8 := (of_decide_eq_true hr : SetOk l s).2.1
  go_enter Try.func22, Try.ntmps22
  go_wp2_with fail
  refine (impl_setRight a b cap cap' l s _ hl hs hd hwd (H.out.mono D.out) (H'.out.mono D.out)).mono ?_
  rintro e w0 ⟨rfl, hb⟩
  rw [hr]
  replace X := Lib.hid (X.out.below hb)
  replace D := Lib.hid (D.out.below hb)
  clear hb hr
  obtain ⟨x0, x1, _⟩ := X.out.c2
  have hmk := run_make_strs s.length (by omega)
  have x1a : ∀ o, (w0.alloc o).cell? ⟨w.heap.size, 1, none⟩ = some (.slice b s.length cap') := fun o => ((step_alloc w0 o).cell (p := ⟨w.heap.size, 1, none⟩) X.out.lt).trans x1
  go_wp2
  clear x0 x1
  go_loopw [3, 16] (fun z i wr => ∃ (k : Nat), k ≤ s.length ∧ i = .int .i64 k ∧ wr.ownsRow w.heap.size 9 1 z (vals (s.take k)).length ((vals (s.take k)).map .string) ∧ Base w wr) (fun _ i _ => s.length - (intOf i).toNat)
  case atStart => exact ⟨0, Nat.zero_le _, rfl, by simpa [vals] using World.ownsRow_made w0 _ s.length D.out.size (by unfold maxLen; omega) (by rw [size_madeCells]; try omega), D.out.below (step_alloc _ _)⟩
  case round =>
    obtain ⟨k, hk, rfl, ho, hbel⟩ := hrel
    clear X D
    have HO := Lib.hid ho
    have D := Lib.hid hbel
    have HB := Lib.hid (show Below w.heap.size w wr from hbel)
    clear ho hbel
    have HL : Hid ((vals (s.take k)).length ≤ 8) := Lib.hid (Nat.le_trans (vals_len _) (by rw [List.length_take]; omega))
    by_cases hlt : k < s.length
    rotate_left
    · go_wp2
      go_ret
      have ho := HO.out
      rw [List.take_of_length_le (by omega), ← flat1] at ho
      obtain ⟨qa, qc, rfl, ho2⟩ := own_row (by decide) ho
      exact ⟨qa, qc, rfl, ho2.wide (by omega) (Nat.le_refl _), HB.out⟩
    obtain ⟨g, off, rfl, hg, c0, c1, c2, c3⟩ := (H'.out.mono HB.out).cells hlt
    have HS := Lib.hid (vals_take s k hlt)
    generalize s[k] = x at c0 c1 c2 c3 HS
    obtain ⟨⟨n, m⟩, gn, d⟩ := x
    dsimp only at c0 c1 c2 c3
    cases gn
    · have HS2 := Lib.hid (show vals (s.take (k + 1)) = vals (s.take k) ++ [d] by rw [HS.out]; simp)
      have hb := step_alloc wr (.cells #[.int .i64 n, .int .i64 m, .bool false, .string d] 48)
      replace HO := Lib.hid (HO.out.alloc (.cells #[.int .i64 n, .int .i64 m, .bool false, .string d] 48))
      replace D := Lib.hid (D.out.below hb)
      have hdz : w.heap.size ≤ (wr.alloc (.cells #[.int .i64 n, .int .i64 m, .bool false, .string d] 48)).heap.size := D.out.size
      clear hb
      go_wp2_with (at_builtin; refine wpList_append_str _ rfl _ _ rfl w.heap.size _ (vals (s.take k)) d (by rfl) (wr.heap.size + 1) (by simp) (by rfl) HO.out (by have := HL.out; omega) hdz ?_; intro v' w4 ho4 hb4)
      have HO4 := Lib.hid ho4
      have D4 := Lib.hid (show Base w w4 from Below.trans (show Below w.heap.size w _ from D.out) (hb4.mono (by omega)))
      clear ho4 hb4
      go_wp2
      go_roundw
      case rel => exact ⟨k + 1, by omega, by go_num, by rw [HS2.out]; exact HO4.out, D4.out⟩
      case measure => go_light; simp [intOf]; omega
    · have HS2 := Lib.hid (show vals (s.take (k + 1)) = vals (s.take k) by rw [HS.out]; simp)
      go_wp2
      go_roundw
      case rel => exact ⟨k + 1, by omega, by go_num, by rw [HS2.out]; exact HO.out.alloc (.cells #[.int .i64 n, .int .i64 m, .bool true, .string d] 48), D.out.below (step_alloc wr (.cells #[.int .i64 n, .int .i64 m, .bool true, .string d] 48))⟩
      case measure => go_light; simp [intOf]; omega

set_option maxRecDepth 100000 in
set_option maxHeartbeats 2000000 in
theorem spec_values (a b : Option Addr) (cap cap' : Nat) (l : List (Int × Int)) (s : List Sib) (w : World) (hl : l.length ≤ maxLen) (hs : s.length ≤ maxLen) (hd : SmallData s) (h : MarksAt w a l) (h' : SibsAt w b s) :
    Calls Try.prog 23 #[.agg #[.slice a l.length cap, .slice b s.length cap']] w (VGives w (setVals l s)) := by
  have H := Lib.hid h
  have H' := Lib.hid h'
  clear h h'
  have X := Lib.hid (Cells.new w #[.slice a l.length cap, .slice b s.length cap'] 26)
  have D := Lib.hid (show Base w _ from step_alloc w (.cells #[.slice a l.length cap, .slice b s.length cap'] 26))
  have hb0 := step_alloc (w.alloc (.cells #[.slice a l.length cap, .slice b s.length cap'] 26)) (.cells #[] 9)
  replace X := Lib.hid (X.out.below hb0)
  replace D := Lib.hid (D.out.below hb0)
  clear hb0
  have O : Hid (((w.alloc (.cells #[.slice a l.length cap, .slice b s.length cap'] 26)).alloc (.cells #[] 9)).ownsRow (w.heap.size + 1) 9 1 (.slice (some ⟨(w.alloc (.cells #[.slice a l.length cap, .slice b s.length cap'] 26)).heap.size, 0, none⟩) 0 0) 0 []) := Lib.hid (World.ownsRow_made (w.alloc (.cells #[.slice a l.length cap, .slice b s.length cap'] 26)) _ 0 (by simp) (by unfold maxLen; omega) rfl)
  rw [World.size_alloc] at O
  cases hr : setB l s
  · have HE := Lib.hid (setVals_no hr)
    rw [HE.out]
    go_enter Try.func23, Try.ntmps23
    go_wp2_with (go_at_call 25; refine (spec_setRight a b cap cap' l s _ hl hs hd (H.out.mono D.out) (H'.out.mono D.out)).mono ?_; rintro e w1 ⟨rfl, hb⟩; rw [hr]; have D1 := Lib.hid (D.out.below hb))
    go_ret
    exact ⟨_, _, rfl, .inl rfl, D1.out⟩
  have HE := Lib.hid (setVals_yes hr)
  rw [HE.out]
  have h8 := (of_decide_eq_true hr : SetOk l s).2.1
  go_enter Try.func23, Try.ntmps23
  go_wp2_with fail
  refine (spec_setRight a b cap cap' l s _ hl hs hd (H.out.mono D.out) (H'.out.mono D.out)).mono ?_
  rintro e w0 ⟨rfl, hb⟩
  rw [hr]
  replace X := Lib.hid (X.out.below hb)
  replace D := Lib.hid (D.out.below hb)
  replace O := Lib.hid (own_below O.out hb)
  clear hb hr
  obtain ⟨x0, x1, _⟩ := X.out.c2
  go_wp2
  clear x0 x1
  go_loopw [3, 4] (fun z i wr => ∃ (k : Nat), k ≤ s.length ∧ i = .int .i64 k ∧ wr.ownsRow (w.heap.size + 1) 9 1 z (vals (s.take k)).length ((vals (s.take k)).map .string) ∧ Cells wr w.heap.size [.slice a l.length cap, .slice b s.length cap'] ∧ Base w wr) (fun _ i _ => s.length - (intOf i).toNat)
  case atStart => exact ⟨0, Nat.zero_le _, rfl, by simpa [vals] using O.out, X.out, D.out⟩
  case round =>
    obtain ⟨k, hk, rfl, ho, hy, hbel⟩ := hrel
    clear X D
    have HO := Lib.hid ho
    have D := Lib.hid hbel
    have HB := Lib.hid (show Below w.heap.size w wr from hbel)
    have Y := Lib.hid hy
    obtain ⟨y0, y1, _⟩ := hy.c2
    have hyl := hy.lt
    clear hy
    clear ho hbel
    have HL : Hid ((vals (s.take k)).length ≤ 8) := Lib.hid (Nat.le_trans (vals_len _) (by rw [List.length_take]; omega))
    by_cases hlt : k < s.length
    rotate_left
    · go_wp2
      go_ret
      have ho := HO.out
      rw [List.take_of_length_le (by omega), ← flat1] at ho
      obtain ⟨qa, qc, rfl, ho2⟩ := own_row (by decide) ho
      exact ⟨qa, qc, rfl, ho2.wide (by omega) (Nat.le_refl _), HB.out⟩
    obtain ⟨g, off, rfl, hg, c0, c1, c2, c3⟩ := (H'.out.mono HB.out).cells hlt
    have HS := Lib.hid (vals_take s k hlt)
    generalize s[k] = x at c0 c1 c2 c3 HS
    obtain ⟨⟨n, m⟩, gn, d⟩ := x
    dsimp only at c0 c1 c2 c3
    cases gn
    · have HS2 := Lib.hid (show vals (s.take (k + 1)) = vals (s.take k) ++ [d] by rw [HS.out]; simp)
      have hdz : w.heap.size + 1 ≤ wr.heap.size := hyl
      go_wp2_with (at_builtin; refine wpList_append_str _ rfl _ _ rfl (w.heap.size + 1) _ (vals (s.take k)) d (by rfl) wr.heap.size (by simp) (by rfl) HO.out (by have := HL.out; omega) hdz ?_; intro v' w4 ho4 hb4)
      have HO4 := Lib.hid ho4
      have D4 := Lib.hid (show Base w w4 from Below.trans (show Below w.heap.size w _ from D.out) (hb4.mono (by omega)))
      have Y4 := Lib.hid (Y.out.same (hb4.block _ (Nat.lt_succ_self _)) hb4.size)
      clear ho4 hb4
      go_wp2
      go_roundw
      case rel => exact ⟨k + 1, by omega, by go_num, by rw [HS2.out]; exact HO4.out, Y4.out, D4.out⟩
      case measure => go_light; simp [intOf]; omega
    · have HS2 := Lib.hid (show vals (s.take (k + 1)) = vals (s.take k) by rw [HS.out]; simp)
      go_wp2
      go_roundw
      case rel => exact ⟨k + 1, by omega, by go_num, by rw [HS2.out]; exact HO.out, Y.out, D.out⟩
      case measure => go_light; simp [intOf]; omega
end Go.Proofs.Ytgbcogncnhbmeaa.Sb

set_option linter.unusedSimpArgs false
set_option linter.unusedVariables false
namespace Go.Proofs.Ytgbcogncnhbmeaa.Sb
open Go.RowKit Go.Proofs.Ytgbcogncnhbmeaa.Mk Go.Proofs.Ytgbcogncnhbmeaa.Rw

theorem markSetZ (z : Int) (k : Nat) (hz : z = (k : Int)) (lo mid hi : Nat) (a b : Option Addr) (cap cap' : Nat) (l : List (Int × Int)) (s : List Sib) (w : World) (hl : l.length ≤ 1048576) (hs : s.length ≤ 1048576) (hk0 : 0 < k) (hk1 : k ≤ 90000000) (h1 : lo ≤ mid) (h2 : mid ≤ hi) (h3 : hi ≤ w.heap.size)
    (h : OwnIn w lo mid a l) (h' : SOwnIn w mid hi b s) :
    Calls Try.prog 40 #[.agg #[.slice a l.length cap, .slice b s.length cap'], .int .i64 z] w (MarkedSet w lo mid hi a b k l.length s.length) := by
  subst hz
  exact markSet lo mid hi a b cap cap' l s k w hl hs hk0 hk1 h1 h2 h3 h h'
theorem setVals_len (l : List (Int × Int)) (s : List Sib) : (setVals l s).length ≤ 8 := by
  cases h : setB l s
  · rw [setVals_no h]; simp
  · rw [setVals_yes h]
    have := vals_len s
    have := (of_decide_eq_true h : SetOk l s).2.1
    omega
end Go.Proofs.Ytgbcogncnhbmeaa.Sb

set_option linter.unusedSimpArgs false
set_option linter.unusedVariables false
namespace Go.Proofs.Ytgbcogncnhbmeaa.Sb
open Go.RowKit Go.Proofs.Ytgbcogncnhbmeaa.Mk Go.Proofs.Ytgbcogncnhbmeaa.Rw

set_option maxRecDepth 100000 in
set_option maxHeartbeats 4000000 in
theorem law_SetPut (a0 : Option Addr) (cap0 : Nat) (l0 : List (Int × Int)) (b0 : Option Addr) (dap0 : Nat) (s0 : List Sib) (a1 : Option Addr) (cap1 : Nat) (l1 : List (Int × Int)) (n2 : Int) (s3 : ByteArray) (c4 : Bool) (w : World) (h0 : CameSet w a0 b0 l0 s0) (h1 : CameMarks w a1 l1) (h2 : (Lit.int .i64 n2).wf = true) (h3 : s3.size ≤ maxLen) (h4 : c4 = c4) :
    Calls Try.prog 5 #[.agg #[.slice a0 l0.length cap0, .slice b0 s0.length dap0], .slice a1 l1.length cap1, .int .i64 n2, .string s3, .bool c4] w fun e w' => e = .returned (.bool true) ∧ Below w.heap.size w w' := by
  obtain ⟨⟨hm0, hl0, _⟩, hs0, hk0, hd0, hf0⟩ := h0
  have H0 := Lib.hid (InAt.of hm0)
  have K0 := Lib.hid (RIn.of (by decide) hs0)
  have HD0 := Lib.hid hd0
  have HF0 := Lib.hid hf0
  clear hm0 hs0 hd0 hf0
  unfold maxLen at hl0 hk0
  obtain ⟨hm1, hl1, _⟩ := h1
  have H1 := Lib.hid (InAt.of hm1)
  clear hm1
  unfold maxLen at hl1
  have Wn2 := Lib.hid h2
  clear h2
  have HS3 := Lib.hid h3
  unfold maxLen at h3
  clear h4
  have B := Lib.hid (show Base w w from Below.refl _ _)
  have hj : (spSeen l0 s0 l1 n2 s3 c4).length ≤ 5 := spSeen_len l0 s0 l1 n2 s3 c4
  have hj2 : (spSibs l0 s0 l1 n2 s3 c4).length ≤ 8 := spSibs_len l0 s0 l1 n2 s3 c4
  by_cases hlong3 : 1048576 < s3.size
  · go_enter Try.func5, Try.ntmps5
    go_wp2
    go_ret
    exact ⟨rfl, (Below.refl _ _).alloc (Nat.le_refl _) _⟩
  have hlong3b : decide ((1048576 : Int) < (s3.size : Int)) = false := decide_eq_false (by omega)
  go_enter Try.func5, Try.ntmps5
  have hb := step_alloc w (.cells #[.slice a0 l0.length cap0, .slice b0 s0.length dap0] 58)
  replace B := Lib.hid (B.out.below hb)
  replace H0 := Lib.hid (H0.out.below hb)
  replace K0 := Lib.hid (K0.out.below hb)
  replace H1 := Lib.hid (H1.out.below hb)
  clear hb
  have Z1 : w.heap.size < (w.alloc (.cells #[.slice a0 l0.length cap0, .slice b0 s0.length dap0] 58)).heap.size := by simp
  have yZ1 : (w.alloc (.cells #[.slice a0 l0.length cap0, .slice b0 s0.length dap0] 58)).heap.size ≤ w.heap.size + 1 := by simp
  have V2 := Lib.hid (Var2.new w (.slice a0 l0.length cap0) (.slice b0 s0.length dap0) 58)
  obtain ⟨V2_c0, V2_c1, V2_l⟩ := V2.out
  go_wp2_with fail
  clear V2_c0 V2_c1 V2_l
  refine (szSet a0 b0 cap0 dap0 (l0) (s0) (1048576) _ (by unfold maxLen; omega) (by unfold maxLen; omega) HD0.out (by omega) (by omega) K0.out.at_).mono ?_
  rintro e wx3 ⟨r4, rfl, hr, hb⟩
  replace B := Lib.hid (B.out.below hb)
  replace H0 := Lib.hid (H0.out.below hb)
  replace K0 := Lib.hid (K0.out.below hb)
  replace H1 := Lib.hid (H1.out.below hb)
  replace V2 := Lib.hid (V2.out.below hb)
  have Z5 := hb.size
  clear hb
  simp at Z5
  rcases hr with rfl | ⟨q0r4, q1r4, q2r4, q3r4⟩
  · go_wp2
    go_ret
    exact ⟨rfl, B.out⟩
  have hnr4 : ¬ r4 < 0 := by omega
  obtain ⟨V2_c0, V2_c1, V2_l⟩ := V2.out
  go_wp2_with fail
  clear V2_c0 V2_c1 V2_l
  by_cases hm6 : r4 < ((l1).length : Int)
  · refine (szMarkS_no _ _ _ _ _ (by unfold maxLen; omega) (by omega) (by omega) hm6).mono ?_
    rintro e w' ⟨rfl, rfl⟩
    go_wp2
    go_ret
    exact ⟨rfl, B.out⟩
  refine (szMarkS_yes _ _ _ _ _ (by omega) (by omega) (by omega)).mono ?_
  rintro e w' ⟨rfl, rfl⟩
  obtain ⟨V2_c0, V2_c1, V2_l⟩ := V2.out
  go_wp2_with fail
  clear V2_c0 V2_c1 V2_l
  refine (toSet a0 b0 cap0 dap0 (l0) (s0) _ (by omega) (by omega) H0.out.at_ K0.out.at_).mono ?_
  rintro e wx12 ⟨qa7, qc8, qb9, qd10, mid11, rfl, ho, hs, hm1, hm2, hb⟩
  replace B := Lib.hid (B.out.below hb)
  replace H0 := Lib.hid (H0.out.below hb)
  replace K0 := Lib.hid (K0.out.below hb)
  replace H1 := Lib.hid (H1.out.below hb)
  replace V2 := Lib.hid (V2.out.below hb)
  have O13 := Lib.hid (show OwnI wx12 wx3.heap.size mid11 qa7 (l0) from ⟨ho, hm2⟩)
  have O14 := Lib.hid (show ROwnI 4 senc wx12 mid11 wx12.heap.size qb9 (s0) from ⟨hs, Nat.le_refl _⟩)
  have Z15 := hb.size
  have Z15a := hm1
  have Z15b := hm2
  clear hb ho hs hm1 hm2
  obtain ⟨V2_c0, V2_c1, V2_l⟩ := V2.out
  go_wp2_with fail
  clear V2_c0 V2_c1 V2_l
  refine (toMarkS a1 cap1 (l1) _ (by omega) H1.out.at_).mono ?_
  rintro e wx18 ⟨qa16, qc17, rfl, ho, hb⟩
  replace B := Lib.hid (B.out.below hb)
  replace H0 := Lib.hid (H0.out.below hb)
  replace K0 := Lib.hid (K0.out.below hb)
  replace H1 := Lib.hid (H1.out.below hb)
  replace V2 := Lib.hid (V2.out.below hb)
  replace O13 := Lib.hid (O13.out.below hb)
  replace O14 := Lib.hid (O14.out.below hb)
  have O19 := Lib.hid (show OwnI wx18 wx12.heap.size wx18.heap.size qa16 (l1) from ⟨ho, Nat.le_refl _⟩)
  have Z20 := hb.size
  clear hb ho
  obtain ⟨V2_c0, V2_c1, V2_l⟩ := V2.out
  go_wp2_with fail
  clear V2_c0 V2_c1 V2_l
  refine (spec_setPut qa7 qb9 qa16 qc8 qd10 qc17 (l0) (s0) (l1) (n2) (s3) (c4) _ (by unfold maxLen; omega) (by unfold maxLen; omega) (by unfold maxLen; omega) HS3.out HD0.out O13.out.at_ O14.out.at_ O19.out.at_).mono ?_
  rintro e wx26 ⟨qa21, qc22, qb23, qd24, lo1k25, hi1k25, lo2k25, hi2k25, rfl, ho, hs, g1k25, g2k25, g3k25, g4k25, g5k25, -, hb⟩
  replace B := Lib.hid (B.out.below hb)
  replace H0 := Lib.hid (H0.out.below hb)
  replace K0 := Lib.hid (K0.out.below hb)
  replace H1 := Lib.hid (H1.out.below hb)
  replace V2 := Lib.hid (V2.out.below hb)
  replace O13 := Lib.hid (O13.out.below hb)
  replace O14 := Lib.hid (O14.out.below hb)
  replace O19 := Lib.hid (O19.out.below hb)
  have O27 := Lib.hid (show OwnI wx26 lo1k25 hi1k25 qa21 (spSeen (l0) (s0) (l1) (n2) (s3) (c4)) from ⟨ho, g3k25⟩)
  have O28 := Lib.hid (show ROwnI 4 senc wx26 lo2k25 hi2k25 qb23 (spSibs (l0) (s0) (l1) (n2) (s3) (c4)) from ⟨hs, g4k25⟩)
  have Z29 := hb.size
  clear hb ho hs
  have hb := step_alloc wx26 (.cells #[.slice qa21 (spSeen (l0) (s0) (l1) (n2) (s3) (c4)).length qc22, .slice qb23 (spSibs (l0) (s0) (l1) (n2) (s3) (c4)).length qd24, .int .i64 (spX (l0) (s0) (l1) (n2) (s3) (c4)), .int .i64 (spY (l0) (s0) (l1) (n2) (s3) (c4)), .int .i64 (spC (l0) (s0) (l1) (n2) (s3) (c4))] 32)
  replace B := Lib.hid (B.out.below hb)
  replace H0 := Lib.hid (H0.out.below hb)
  replace K0 := Lib.hid (K0.out.below hb)
  replace H1 := Lib.hid (H1.out.below hb)
  replace V2 := Lib.hid (V2.out.below hb)
  replace O13 := Lib.hid (O13.out.below hb)
  replace O14 := Lib.hid (O14.out.below hb)
  replace O19 := Lib.hid (O19.out.below hb)
  replace O27 := Lib.hid (O27.out.below hb)
  replace O28 := Lib.hid (O28.out.below hb)
  clear hb
  have Z30 : wx26.heap.size < (wx26.alloc (.cells #[.slice qa21 (spSeen (l0) (s0) (l1) (n2) (s3) (c4)).length qc22, .slice qb23 (spSibs (l0) (s0) (l1) (n2) (s3) (c4)).length qd24, .int .i64 (spX (l0) (s0) (l1) (n2) (s3) (c4)), .int .i64 (spY (l0) (s0) (l1) (n2) (s3) (c4)), .int .i64 (spC (l0) (s0) (l1) (n2) (s3) (c4))] 32)).heap.size := by simp
  have yZ30 : (wx26.alloc (.cells #[.slice qa21 (spSeen (l0) (s0) (l1) (n2) (s3) (c4)).length qc22, .slice qb23 (spSibs (l0) (s0) (l1) (n2) (s3) (c4)).length qd24, .int .i64 (spX (l0) (s0) (l1) (n2) (s3) (c4)), .int .i64 (spY (l0) (s0) (l1) (n2) (s3) (c4)), .int .i64 (spC (l0) (s0) (l1) (n2) (s3) (c4))] 32)).heap.size ≤ wx26.heap.size + 1 := by simp
  have V31 := Lib.hid (Var5.new wx26 (.slice qa21 (spSeen (l0) (s0) (l1) (n2) (s3) (c4)).length qc22) (.slice qb23 (spSibs (l0) (s0) (l1) (n2) (s3) (c4)).length qd24) (.int .i64 (spX (l0) (s0) (l1) (n2) (s3) (c4))) (.int .i64 (spY (l0) (s0) (l1) (n2) (s3) (c4))) (.int .i64 (spC (l0) (s0) (l1) (n2) (s3) (c4))) 32)
  obtain ⟨V2_c0, V2_c1, V2_l⟩ := V2.out
  obtain ⟨V31_c0, V31_c1, V31_c2, V31_c3, V31_c4, V31_l⟩ := V31.out
  go_wp2_with fail
  clear V2_c0 V2_c1 V2_l V31_c0 V31_c1 V31_c2 V31_c3 V31_c4 V31_l
  refine (toSet a0 b0 cap0 dap0 (l0) (s0) _ (by omega) (by omega) H0.out.at_ K0.out.at_).mono ?_
  rintro e wx37 ⟨qa32, qc33, qb34, qd35, mid36, rfl, ho, hs, hm1, hm2, hb⟩
  replace B := Lib.hid (B.out.below hb)
  replace H0 := Lib.hid (H0.out.below hb)
  replace K0 := Lib.hid (K0.out.below hb)
  replace H1 := Lib.hid (H1.out.below hb)
  replace V2 := Lib.hid (V2.out.below hb)
  replace O13 := Lib.hid (O13.out.below hb)
  replace O14 := Lib.hid (O14.out.below hb)
  replace O19 := Lib.hid (O19.out.below hb)
  replace O27 := Lib.hid (O27.out.below hb)
  replace O28 := Lib.hid (O28.out.below hb)
  replace V31 := Lib.hid (V31.out.below hb)
  have O38 := Lib.hid (show OwnI wx37 (wx26.alloc (.cells #[.slice qa21 (spSeen (l0) (s0) (l1) (n2) (s3) (c4)).length qc22, .slice qb23 (spSibs (l0) (s0) (l1) (n2) (s3) (c4)).length qd24, .int .i64 (spX (l0) (s0) (l1) (n2) (s3) (c4)), .int .i64 (spY (l0) (s0) (l1) (n2) (s3) (c4)), .int .i64 (spC (l0) (s0) (l1) (n2) (s3) (c4))] 32)).heap.size mid36 qa32 (l0) from ⟨ho, hm2⟩)
  have O39 := Lib.hid (show ROwnI 4 senc wx37 mid36 wx37.heap.size qb34 (s0) from ⟨hs, Nat.le_refl _⟩)
  have Z40 := hb.size
  have Z40a := hm1
  have Z40b := hm2
  clear hb ho hs hm1 hm2
  simp at Z40
  simp at Z40a
  have hb := step_alloc wx37 (.cells #[.slice qa32 (l0).length qc33, .slice qb34 (s0).length qd35] 26)
  replace B := Lib.hid (B.out.below hb)
  replace H0 := Lib.hid (H0.out.below hb)
  replace K0 := Lib.hid (K0.out.below hb)
  replace H1 := Lib.hid (H1.out.below hb)
  replace V2 := Lib.hid (V2.out.below hb)
  replace O13 := Lib.hid (O13.out.below hb)
  replace O14 := Lib.hid (O14.out.below hb)
  replace O19 := Lib.hid (O19.out.below hb)
  replace O27 := Lib.hid (O27.out.below hb)
  replace O28 := Lib.hid (O28.out.below hb)
  replace V31 := Lib.hid (V31.out.below hb)
  replace O38 := Lib.hid (O38.out.below hb)
  replace O39 := Lib.hid (O39.out.below hb)
  clear hb
  have Z41 : wx37.heap.size < (wx37.alloc (.cells #[.slice qa32 (l0).length qc33, .slice qb34 (s0).length qd35] 26)).heap.size := by simp
  have yZ41 : (wx37.alloc (.cells #[.slice qa32 (l0).length qc33, .slice qb34 (s0).length qd35] 26)).heap.size ≤ wx37.heap.size + 1 := by simp
  have V42 := Lib.hid (Var2.new wx37 (.slice qa32 (l0).length qc33) (.slice qb34 (s0).length qd35) 26)
  obtain ⟨V2_c0, V2_c1, V2_l⟩ := V2.out
  obtain ⟨V31_c0, V31_c1, V31_c2, V31_c3, V31_c4, V31_l⟩ := V31.out
  obtain ⟨V42_c0, V42_c1, V42_l⟩ := V42.out
  go_wp2_with fail
  clear V2_c0 V2_c1 V2_l V31_c0 V31_c1 V31_c2 V31_c3 V31_c4 V31_l V42_c0 V42_c1 V42_l
  refine (toMarkS a1 cap1 (l1) _ (by omega) H1.out.at_).mono ?_
  rintro e wx45 ⟨qa43, qc44, rfl, ho, hb⟩
  replace B := Lib.hid (B.out.below hb)
  replace H0 := Lib.hid (H0.out.below hb)
  replace K0 := Lib.hid (K0.out.below hb)
  replace H1 := Lib.hid (H1.out.below hb)
  replace V2 := Lib.hid (V2.out.below hb)
  replace O13 := Lib.hid (O13.out.below hb)
  replace O14 := Lib.hid (O14.out.below hb)
  replace O19 := Lib.hid (O19.out.below hb)
  replace O27 := Lib.hid (O27.out.below hb)
  replace O28 := Lib.hid (O28.out.below hb)
  replace V31 := Lib.hid (V31.out.below hb)
  replace O38 := Lib.hid (O38.out.below hb)
  replace O39 := Lib.hid (O39.out.below hb)
  replace V42 := Lib.hid (V42.out.below hb)
  have O46 := Lib.hid (show OwnI wx45 (wx37.alloc (.cells #[.slice qa32 (l0).length qc33, .slice qb34 (s0).length qd35] 26)).heap.size wx45.heap.size qa43 (l1) from ⟨ho, Nat.le_refl _⟩)
  have Z47 := hb.size
  clear hb ho
  simp at Z47
  obtain ⟨V2_c0, V2_c1, V2_l⟩ := V2.out
  obtain ⟨V31_c0, V31_c1, V31_c2, V31_c3, V31_c4, V31_l⟩ := V31.out
  obtain ⟨V42_c0, V42_c1, V42_l⟩ := V42.out
  go_wp2_with fail
  clear V2_c0 V2_c1 V2_l V31_c0 V31_c1 V31_c2 V31_c3 V31_c4 V31_l V42_c0 V42_c1 V42_l
  refine (impl_setPut qa32 qb34 qa43 qc33 qd35 qc44 (l0) (s0) (l1) (n2) (s3) (c4) _ (by unfold maxLen; omega) (by unfold maxLen; omega) (by unfold maxLen; omega) HS3.out HD0.out HF0.out Wn2.out O38.out.at_ O39.out.at_ O46.out.at_).mono ?_
  rintro e wx53 ⟨qa48, qc49, qb50, qd51, lo1k52, hi1k52, lo2k52, hi2k52, rfl, ho, hs, g1k52, g2k52, g3k52, g4k52, g5k52, -, hb⟩
  replace B := Lib.hid (B.out.below hb)
  replace H0 := Lib.hid (H0.out.below hb)
  replace K0 := Lib.hid (K0.out.below hb)
  replace H1 := Lib.hid (H1.out.below hb)
  replace V2 := Lib.hid (V2.out.below hb)
  replace O13 := Lib.hid (O13.out.below hb)
  replace O14 := Lib.hid (O14.out.below hb)
  replace O19 := Lib.hid (O19.out.below hb)
  replace O27 := Lib.hid (O27.out.below hb)
  replace O28 := Lib.hid (O28.out.below hb)
  replace V31 := Lib.hid (V31.out.below hb)
  replace O38 := Lib.hid (O38.out.below hb)
  replace O39 := Lib.hid (O39.out.below hb)
  replace V42 := Lib.hid (V42.out.below hb)
  replace O46 := Lib.hid (O46.out.below hb)
  have O54 := Lib.hid (show OwnI wx53 lo1k52 hi1k52 qa48 (spSeen (l0) (s0) (l1) (n2) (s3) (c4)) from ⟨ho, g3k52⟩)
  have O55 := Lib.hid (show ROwnI 4 senc wx53 lo2k52 hi2k52 qb50 (spSibs (l0) (s0) (l1) (n2) (s3) (c4)) from ⟨hs, g4k52⟩)
  have Z56 := hb.size
  clear hb ho hs
  have hb := step_alloc wx53 (.cells #[.slice qa48 (spSeen (l0) (s0) (l1) (n2) (s3) (c4)).length qc49, .slice qb50 (spSibs (l0) (s0) (l1) (n2) (s3) (c4)).length qd51, .int .i64 (spX (l0) (s0) (l1) (n2) (s3) (c4)), .int .i64 (spY (l0) (s0) (l1) (n2) (s3) (c4)), .int .i64 (spC (l0) (s0) (l1) (n2) (s3) (c4))] 32)
  replace B := Lib.hid (B.out.below hb)
  replace H0 := Lib.hid (H0.out.below hb)
  replace K0 := Lib.hid (K0.out.below hb)
  replace H1 := Lib.hid (H1.out.below hb)
  replace V2 := Lib.hid (V2.out.below hb)
  replace O13 := Lib.hid (O13.out.below hb)
  replace O14 := Lib.hid (O14.out.below hb)
  replace O19 := Lib.hid (O19.out.below hb)
  replace O27 := Lib.hid (O27.out.below hb)
  replace O28 := Lib.hid (O28.out.below hb)
  replace V31 := Lib.hid (V31.out.below hb)
  replace O38 := Lib.hid (O38.out.below hb)
  replace O39 := Lib.hid (O39.out.below hb)
  replace V42 := Lib.hid (V42.out.below hb)
  replace O46 := Lib.hid (O46.out.below hb)
  replace O54 := Lib.hid (O54.out.below hb)
  replace O55 := Lib.hid (O55.out.below hb)
  clear hb
  have Z57 : wx53.heap.size < (wx53.alloc (.cells #[.slice qa48 (spSeen (l0) (s0) (l1) (n2) (s3) (c4)).length qc49, .slice qb50 (spSibs (l0) (s0) (l1) (n2) (s3) (c4)).length qd51, .int .i64 (spX (l0) (s0) (l1) (n2) (s3) (c4)), .int .i64 (spY (l0) (s0) (l1) (n2) (s3) (c4)), .int .i64 (spC (l0) (s0) (l1) (n2) (s3) (c4))] 32)).heap.size := by simp
  have yZ57 : (wx53.alloc (.cells #[.slice qa48 (spSeen (l0) (s0) (l1) (n2) (s3) (c4)).length qc49, .slice qb50 (spSibs (l0) (s0) (l1) (n2) (s3) (c4)).length qd51, .int .i64 (spX (l0) (s0) (l1) (n2) (s3) (c4)), .int .i64 (spY (l0) (s0) (l1) (n2) (s3) (c4)), .int .i64 (spC (l0) (s0) (l1) (n2) (s3) (c4))] 32)).heap.size ≤ wx53.heap.size + 1 := by simp
  have V58 := Lib.hid (Var5.new wx53 (.slice qa48 (spSeen (l0) (s0) (l1) (n2) (s3) (c4)).length qc49) (.slice qb50 (spSibs (l0) (s0) (l1) (n2) (s3) (c4)).length qd51) (.int .i64 (spX (l0) (s0) (l1) (n2) (s3) (c4))) (.int .i64 (spY (l0) (s0) (l1) (n2) (s3) (c4))) (.int .i64 (spC (l0) (s0) (l1) (n2) (s3) (c4))) 32)
  obtain ⟨V2_c0, V2_c1, V2_l⟩ := V2.out
  obtain ⟨V31_c0, V31_c1, V31_c2, V31_c3, V31_c4, V31_l⟩ := V31.out
  obtain ⟨V42_c0, V42_c1, V42_l⟩ := V42.out
  obtain ⟨V58_c0, V58_c1, V58_c2, V58_c3, V58_c4, V58_l⟩ := V58.out
  go_wp2_with fail
  clear V2_c0 V2_c1 V2_l V31_c0 V31_c1 V31_c2 V31_c3 V31_c4 V31_l V42_c0 V42_c1 V42_l V58_c0 V58_c1 V58_c2 V58_c3 V58_c4 V58_l
  refine (eqSetOut qa48 qa21 qb50 qb23 qc49 qd51 qc22 qd24 (spSeen (l0) (s0) (l1) (n2) (s3) (c4)) (spSibs (l0) (s0) (l1) (n2) (s3) (c4)) (spX (l0) (s0) (l1) (n2) (s3) (c4)) (spY (l0) (s0) (l1) (n2) (s3) (c4)) (spC (l0) (s0) (l1) (n2) (s3) (c4)) _ (by unfold maxLen; omega) (by unfold maxLen; omega) O54.out.at_ O27.out.at_ O55.out.at_ O28.out.at_).mono ?_
  rintro e wx59 ⟨rfl, hb⟩
  replace B := Lib.hid (B.out.below hb)
  replace H0 := Lib.hid (H0.out.below hb)
  replace K0 := Lib.hid (K0.out.below hb)
  replace H1 := Lib.hid (H1.out.below hb)
  replace V2 := Lib.hid (V2.out.below hb)
  replace O13 := Lib.hid (O13.out.below hb)
  replace O14 := Lib.hid (O14.out.below hb)
  replace O19 := Lib.hid (O19.out.below hb)
  replace O27 := Lib.hid (O27.out.below hb)
  replace O28 := Lib.hid (O28.out.below hb)
  replace V31 := Lib.hid (V31.out.below hb)
  replace O38 := Lib.hid (O38.out.below hb)
  replace O39 := Lib.hid (O39.out.below hb)
  replace V42 := Lib.hid (V42.out.below hb)
  replace O46 := Lib.hid (O46.out.below hb)
  replace O54 := Lib.hid (O54.out.below hb)
  replace O55 := Lib.hid (O55.out.below hb)
  replace V58 := Lib.hid (V58.out.below hb)
  have Z60 := hb.size
  clear hb
  simp at Z60
  obtain ⟨V2_c0, V2_c1, V2_l⟩ := V2.out
  obtain ⟨V31_c0, V31_c1, V31_c2, V31_c3, V31_c4, V31_l⟩ := V31.out
  obtain ⟨V42_c0, V42_c1, V42_l⟩ := V42.out
  obtain ⟨V58_c0, V58_c1, V58_c2, V58_c3, V58_c4, V58_l⟩ := V58.out
  go_wp2_with fail
  clear V2_c0 V2_c1 V2_l V31_c0 V31_c1 V31_c2 V31_c3 V31_c4 V31_l V42_c0 V42_c1 V42_l V58_c0 V58_c1 V58_c2 V58_c3 V58_c4 V58_l
  have hb := step_drew wx59
  replace B := Lib.hid (B.out.below hb)
  replace H0 := Lib.hid (H0.out.below hb)
  replace K0 := Lib.hid (K0.out.below hb)
  replace H1 := Lib.hid (H1.out.below hb)
  replace V2 := Lib.hid (V2.out.below hb)
  replace O13 := Lib.hid (O13.out.below hb)
  replace O14 := Lib.hid (O14.out.below hb)
  replace O19 := Lib.hid (O19.out.below hb)
  replace O27 := Lib.hid (O27.out.below hb)
  replace O28 := Lib.hid (O28.out.below hb)
  replace V31 := Lib.hid (V31.out.below hb)
  replace O38 := Lib.hid (O38.out.below hb)
  replace O39 := Lib.hid (O39.out.below hb)
  replace V42 := Lib.hid (V42.out.below hb)
  replace O46 := Lib.hid (O46.out.below hb)
  replace O54 := Lib.hid (O54.out.below hb)
  replace O55 := Lib.hid (O55.out.below hb)
  replace V58 := Lib.hid (V58.out.below hb)
  clear hb
  refine wp_region_held_drew (S := (fun w' => w'.cell? ⟨wx37.heap.size, 0, none⟩ = some (.slice qa32 (l0).length qc33) ∧ w'.cell? ⟨wx37.heap.size, 1, none⟩ = some (.slice qb34 (s0).length qd35) ∧ w'.cell? ⟨w.heap.size, 0, none⟩ = some (.slice a0 l0.length cap0) ∧ w'.cell? ⟨w.heap.size, 1, none⟩ = some (.slice b0 s0.length dap0))) (by kernel_rfl) (by exact ⟨V42.out.c0, V42.out.c1, V2.out.c0, V2.out.c1⟩) (fun hHeld => ?_)
  have Z61 : wx59.heap.size ≤ wx59.drew.heap.size := Nat.le_refl _
  generalize wx59.drew = wd62 at Z61 hHeld B H0 K0 H1 V2 O13 O14 O19 O27 O28 V31 O38 O39 V42 O46 O54 O55 V58 ⊢
  refine wpAnyH_take (i := 0) (v := ?_) rfl (by kernel_rfl) (by kernel_rfl) (by kernel_rfl) (fun _ _ _ h => h) (Or.inl ⟨by rfl, fun w hSw => by (try dsimp only at hSw); go_simp; (try with_reducible rfl)⟩) (by assumption) ?_
  try simp only [Act.put, List.setIfInBounds_toArray, List.set_cons_zero, List.set_cons_succ, List.getElem_toArray, List.getElem_cons_zero, List.getElem_cons_succ]
  refine wpAnyH_take (i := 1) (v := ?_) rfl (by kernel_rfl) (by kernel_rfl) (by kernel_rfl) (fun _ _ _ h => h) (Or.inl ⟨by rfl, fun w hSw => by (try dsimp only at hSw); go_simp; (try with_reducible rfl)⟩) (by assumption) ?_
  try simp only [Act.put, List.setIfInBounds_toArray, List.set_cons_zero, List.set_cons_succ, List.getElem_toArray, List.getElem_cons_zero, List.getElem_cons_succ]
  refine wpAnyH_ready (rs := [2]) (by kernel_rfl) (by simp) ?_
  refine AllReadyH.cons rfl (fun K hK => ?_) AllReadyH.nil
  go_simp
  refine (toSet a0 b0 cap0 dap0 (l0) (s0) _ (by omega) (by omega) H0.out.at_ K0.out.at_).mono ?_
  rintro e wx68 ⟨qa63, qc64, qb65, qd66, mid67, rfl, ho, hs, hm1, hm2, hb⟩
  replace B := Lib.hid (B.out.below hb)
  replace H0 := Lib.hid (H0.out.below hb)
  replace K0 := Lib.hid (K0.out.below hb)
  replace H1 := Lib.hid (H1.out.below hb)
  replace V2 := Lib.hid (V2.out.below hb)
  replace O13 := Lib.hid (O13.out.below hb)
  replace O14 := Lib.hid (O14.out.below hb)
  replace O19 := Lib.hid (O19.out.below hb)
  replace O27 := Lib.hid (O27.out.below hb)
  replace O28 := Lib.hid (O28.out.below hb)
  replace V31 := Lib.hid (V31.out.below hb)
  replace O38 := Lib.hid (O38.out.below hb)
  replace O39 := Lib.hid (O39.out.below hb)
  replace V42 := Lib.hid (V42.out.below hb)
  replace O46 := Lib.hid (O46.out.below hb)
  replace O54 := Lib.hid (O54.out.below hb)
  replace O55 := Lib.hid (O55.out.below hb)
  replace V58 := Lib.hid (V58.out.below hb)
  have O69 := Lib.hid (show OwnI wx68 wd62.heap.size mid67 qa63 (l0) from ⟨ho, hm2⟩)
  have O70 := Lib.hid (show ROwnI 4 senc wx68 mid67 wx68.heap.size qb65 (s0) from ⟨hs, Nat.le_refl _⟩)
  have Z71 := hb.size
  have Z71a := hm1
  have Z71b := hm2
  clear hb ho hs hm1 hm2
  go_wp2_with fail
  refine hK.out _ _ (by exact ⟨V42.out.c0, V42.out.c1, V2.out.c0, V2.out.c1⟩) (fun hHeld => ?_)
  clear hK K
  try simp only [Act.put, List.setIfInBounds_toArray, List.set_cons_zero, List.set_cons_succ, List.getElem_toArray, List.getElem_cons_zero, List.getElem_cons_succ]
  refine wpAnyH_ready (rs := [3]) (by kernel_rfl) (by simp) ?_
  refine AllReadyH.cons rfl (fun K hK => ?_) AllReadyH.nil
  go_simp
  refine (eqSet qa32 qa63 qb34 qb65 qc33 qd35 qc64 qd66 (l0) (s0) _ (by unfold maxLen; omega) (by unfold maxLen; omega) O38.out.at_ O69.out.at_ O39.out.at_ O70.out.at_).mono ?_
  rintro e wx72 ⟨rfl, hb⟩
  replace B := Lib.hid (B.out.below hb)
  replace H0 := Lib.hid (H0.out.below hb)
  replace K0 := Lib.hid (K0.out.below hb)
  replace H1 := Lib.hid (H1.out.below hb)
  replace V2 := Lib.hid (V2.out.below hb)
  replace O13 := Lib.hid (O13.out.below hb)
  replace O14 := Lib.hid (O14.out.below hb)
  replace O19 := Lib.hid (O19.out.below hb)
  replace O27 := Lib.hid (O27.out.below hb)
  replace O28 := Lib.hid (O28.out.below hb)
  replace V31 := Lib.hid (V31.out.below hb)
  replace O38 := Lib.hid (O38.out.below hb)
  replace O39 := Lib.hid (O39.out.below hb)
  replace V42 := Lib.hid (V42.out.below hb)
  replace O46 := Lib.hid (O46.out.below hb)
  replace O54 := Lib.hid (O54.out.below hb)
  replace O55 := Lib.hid (O55.out.below hb)
  replace V58 := Lib.hid (V58.out.below hb)
  replace O69 := Lib.hid (O69.out.below hb)
  replace O70 := Lib.hid (O70.out.below hb)
  have Z73 := hb.size
  clear hb
  go_wp2_with fail
  refine hK.out _ _ (by exact ⟨V42.out.c0, V42.out.c1, V2.out.c0, V2.out.c1⟩) (fun hHeld => ?_)
  clear hK K
  try simp only [Act.put, List.setIfInBounds_toArray, List.set_cons_zero, List.set_cons_succ, List.getElem_toArray, List.getElem_cons_zero, List.getElem_cons_succ]
  refine wpAnyH_take (i := 4) (v := ?_) rfl (by kernel_rfl) (by kernel_rfl) (by kernel_rfl) (fun _ _ _ h => h) (Or.inl ⟨by rfl, fun w hSw => by (try dsimp only at hSw); go_simp; (try with_reducible rfl)⟩) (by assumption) ?_
  try simp only [Act.put, List.setIfInBounds_toArray, List.set_cons_zero, List.set_cons_succ, List.getElem_toArray, List.getElem_cons_zero, List.getElem_cons_succ]
  refine wpAnyH_done (by kernel_rfl) ?_ _
  obtain ⟨V2_c0, V2_c1, V2_l⟩ := V2.out
  obtain ⟨V31_c0, V31_c1, V31_c2, V31_c3, V31_c4, V31_l⟩ := V31.out
  obtain ⟨V42_c0, V42_c1, V42_l⟩ := V42.out
  obtain ⟨V58_c0, V58_c1, V58_c2, V58_c3, V58_c4, V58_l⟩ := V58.out
  go_wp2_with fail
  clear V2_c0 V2_c1 V2_l V31_c0 V31_c1 V31_c2 V31_c3 V31_c4 V31_l V42_c0 V42_c1 V42_l V58_c0 V58_c1 V58_c2 V58_c3 V58_c4 V58_l
  refine (toMarkS a1 cap1 (l1) _ (by omega) H1.out.at_).mono ?_
  rintro e wx76 ⟨qa74, qc75, rfl, ho, hb⟩
  replace B := Lib.hid (B.out.below hb)
  replace H0 := Lib.hid (H0.out.below hb)
  replace K0 := Lib.hid (K0.out.below hb)
  replace H1 := Lib.hid (H1.out.below hb)
  replace V2 := Lib.hid (V2.out.below hb)
  replace O13 := Lib.hid (O13.out.below hb)
  replace O14 := Lib.hid (O14.out.below hb)
  replace O19 := Lib.hid (O19.out.below hb)
  replace O27 := Lib.hid (O27.out.below hb)
  replace O28 := Lib.hid (O28.out.below hb)
  replace V31 := Lib.hid (V31.out.below hb)
  replace O38 := Lib.hid (O38.out.below hb)
  replace O39 := Lib.hid (O39.out.below hb)
  replace V42 := Lib.hid (V42.out.below hb)
  replace O46 := Lib.hid (O46.out.below hb)
  replace O54 := Lib.hid (O54.out.below hb)
  replace O55 := Lib.hid (O55.out.below hb)
  replace V58 := Lib.hid (V58.out.below hb)
  replace O69 := Lib.hid (O69.out.below hb)
  replace O70 := Lib.hid (O70.out.below hb)
  have O77 := Lib.hid (show OwnI wx76 wx72.heap.size wx76.heap.size qa74 (l1) from ⟨ho, Nat.le_refl _⟩)
  have Z78 := hb.size
  clear hb ho
  obtain ⟨V2_c0, V2_c1, V2_l⟩ := V2.out
  obtain ⟨V31_c0, V31_c1, V31_c2, V31_c3, V31_c4, V31_l⟩ := V31.out
  obtain ⟨V42_c0, V42_c1, V42_l⟩ := V42.out
  obtain ⟨V58_c0, V58_c1, V58_c2, V58_c3, V58_c4, V58_l⟩ := V58.out
  go_wp2_with fail
  clear V2_c0 V2_c1 V2_l V31_c0 V31_c1 V31_c2 V31_c3 V31_c4 V31_l V42_c0 V42_c1 V42_l V58_c0 V58_c1 V58_c2 V58_c3 V58_c4 V58_l
  refine (eqMarkS qa43 qa74 qc44 qc75 (l1) _ (by unfold maxLen; omega) O46.out.at_ O77.out.at_).mono ?_
  rintro e wx79 ⟨rfl, hb⟩
  replace B := Lib.hid (B.out.below hb)
  replace H0 := Lib.hid (H0.out.below hb)
  replace K0 := Lib.hid (K0.out.below hb)
  replace H1 := Lib.hid (H1.out.below hb)
  replace V2 := Lib.hid (V2.out.below hb)
  replace O13 := Lib.hid (O13.out.below hb)
  replace O14 := Lib.hid (O14.out.below hb)
  replace O19 := Lib.hid (O19.out.below hb)
  replace O27 := Lib.hid (O27.out.below hb)
  replace O28 := Lib.hid (O28.out.below hb)
  replace V31 := Lib.hid (V31.out.below hb)
  replace O38 := Lib.hid (O38.out.below hb)
  replace O39 := Lib.hid (O39.out.below hb)
  replace V42 := Lib.hid (V42.out.below hb)
  replace O46 := Lib.hid (O46.out.below hb)
  replace O54 := Lib.hid (O54.out.below hb)
  replace O55 := Lib.hid (O55.out.below hb)
  replace V58 := Lib.hid (V58.out.below hb)
  replace O69 := Lib.hid (O69.out.below hb)
  replace O70 := Lib.hid (O70.out.below hb)
  replace O77 := Lib.hid (O77.out.below hb)
  have Z80 := hb.size
  clear hb
  obtain ⟨V2_c0, V2_c1, V2_l⟩ := V2.out
  obtain ⟨V31_c0, V31_c1, V31_c2, V31_c3, V31_c4, V31_l⟩ := V31.out
  obtain ⟨V42_c0, V42_c1, V42_l⟩ := V42.out
  obtain ⟨V58_c0, V58_c1, V58_c2, V58_c3, V58_c4, V58_l⟩ := V58.out
  go_wp2_with fail
  clear V2_c0 V2_c1 V2_l V31_c0 V31_c1 V31_c2 V31_c3 V31_c4 V31_l V42_c0 V42_c1 V42_l V58_c0 V58_c1 V58_c2 V58_c3 V58_c4 V58_l
  refine (markSetZ (1) (1) rfl (wx26.alloc (.cells #[.slice qa21 (spSeen (l0) (s0) (l1) (n2) (s3) (c4)).length qc22, .slice qb23 (spSibs (l0) (s0) (l1) (n2) (s3) (c4)).length qd24, .int .i64 (spX (l0) (s0) (l1) (n2) (s3) (c4)), .int .i64 (spY (l0) (s0) (l1) (n2) (s3) (c4)), .int .i64 (spC (l0) (s0) (l1) (n2) (s3) (c4))] 32)).heap.size mid36 wx37.heap.size qa32 qb34 qc33 qd35 (l0) (s0) _ (by omega) (by omega) (by omega) (by omega) (by omega) (by omega) (by omega) O38.out.1 O39.out.1).mono ?_
  rintro e wx81 ⟨rfl, ho, hs, hw⟩
  replace B := Lib.hid (B.out.within hw (by omega))
  replace H0 := Lib.hid (H0.out.within hw (by omega))
  replace K0 := Lib.hid (K0.out.within hw (by omega))
  replace H1 := Lib.hid (H1.out.within hw (by omega))
  replace V2 := Lib.hid (V2.out.within hw (by omega))
  replace O13 := Lib.hid (O13.out.within hw (by omega))
  replace O14 := Lib.hid (O14.out.within hw (by omega))
  replace O19 := Lib.hid (O19.out.within hw (by omega))
  replace O27 := Lib.hid (O27.out.within hw (by omega))
  replace O28 := Lib.hid (O28.out.within hw (by omega))
  replace V31 := Lib.hid (V31.out.within hw (by omega))
  replace V42 := Lib.hid (V42.out.within hw (by omega))
  replace O46 := Lib.hid (O46.out.within hw (by omega))
  replace O54 := Lib.hid (O54.out.within hw (by omega))
  replace O55 := Lib.hid (O55.out.within hw (by omega))
  replace V58 := Lib.hid (V58.out.within hw (by omega))
  replace O69 := Lib.hid (O69.out.within hw (by omega))
  replace O70 := Lib.hid (O70.out.within hw (by omega))
  replace O77 := Lib.hid (O77.out.within hw (by omega))
  replace O38 := Lib.hid (show OwnI wx81 (wx26.alloc (.cells #[.slice qa21 (spSeen (l0) (s0) (l1) (n2) (s3) (c4)).length qc22, .slice qb23 (spSibs (l0) (s0) (l1) (n2) (s3) (c4)).length qd24, .int .i64 (spX (l0) (s0) (l1) (n2) (s3) (c4)), .int .i64 (spY (l0) (s0) (l1) (n2) (s3) (c4)), .int .i64 (spC (l0) (s0) (l1) (n2) (s3) (c4))] 32)).heap.size mid36 qa32 (markL ((1 : Nat) : Int) (l0).length) from ⟨ho, Nat.le_trans O38.out.2 hw.size⟩)
  replace O39 := Lib.hid (show ROwnI 4 senc wx81 mid36 wx37.heap.size qb34 (sibL (1 + 2 * (l0).length) (s0).length) from ⟨hs, Nat.le_trans O39.out.2 hw.size⟩)
  have Z82 := hw.size
  clear hw ho hs
  obtain ⟨r83, hr⟩ : ∃ r : Nat, r = 1 + 2 * (l0).length + 4 * (s0).length := ⟨_, rfl⟩
  rw [← hr]
  have Er83 := Lib.hid hr
  have Lr83 : r83 ≤ 6300001 := by omega
  have Nr83 : ¬ (r83 : Int) < 0 := by omega
  have Pr83 : 0 < r83 := by omega
  clear hr
  obtain ⟨V2_c0, V2_c1, V2_l⟩ := V2.out
  obtain ⟨V31_c0, V31_c1, V31_c2, V31_c3, V31_c4, V31_l⟩ := V31.out
  obtain ⟨V42_c0, V42_c1, V42_l⟩ := V42.out
  obtain ⟨V58_c0, V58_c1, V58_c2, V58_c3, V58_c4, V58_l⟩ := V58.out
  go_wp2_with fail
  clear V2_c0 V2_c1 V2_l V31_c0 V31_c1 V31_c2 V31_c3 V31_c4 V31_l V42_c0 V42_c1 V42_l V58_c0 V58_c1 V58_c2 V58_c3 V58_c4 V58_l
  refine (markMarkS (wx37.alloc (.cells #[.slice qa32 (l0).length qc33, .slice qb34 (s0).length qd35] 26)).heap.size wx45.heap.size qa43 qc44 (l1) ((r83 : Int)) _ (by omega) (by omega) (by omega) O46.out.1).mono ?_
  rintro e wx84 ⟨rfl, ho, hw⟩
  replace B := Lib.hid (B.out.within hw (by omega))
  replace H0 := Lib.hid (H0.out.within hw (by omega))
  replace K0 := Lib.hid (K0.out.within hw (by omega))
  replace H1 := Lib.hid (H1.out.within hw (by omega))
  replace V2 := Lib.hid (V2.out.within hw (by omega))
  replace O13 := Lib.hid (O13.out.within hw (by omega))
  replace O14 := Lib.hid (O14.out.within hw (by omega))
  replace O19 := Lib.hid (O19.out.within hw (by omega))
  replace O27 := Lib.hid (O27.out.within hw (by omega))
  replace O28 := Lib.hid (O28.out.within hw (by omega))
  replace V31 := Lib.hid (V31.out.within hw (by omega))
  replace O38 := Lib.hid (O38.out.within hw (by omega))
  replace O39 := Lib.hid (O39.out.within hw (by omega))
  replace V42 := Lib.hid (V42.out.within hw (by omega))
  replace O54 := Lib.hid (O54.out.within hw (by omega))
  replace O55 := Lib.hid (O55.out.within hw (by omega))
  replace V58 := Lib.hid (V58.out.within hw (by omega))
  replace O69 := Lib.hid (O69.out.within hw (by omega))
  replace O70 := Lib.hid (O70.out.within hw (by omega))
  replace O77 := Lib.hid (O77.out.within hw (by omega))
  replace O46 := Lib.hid (show OwnI wx84 (wx37.alloc (.cells #[.slice qa32 (l0).length qc33, .slice qb34 (s0).length qd35] 26)).heap.size wx45.heap.size qa43 (markL ((r83 : Int)) (l1).length) from ⟨ho, Nat.le_trans O46.out.2 hw.size⟩)
  have Z85 := hw.size
  clear hw ho
  obtain ⟨V2_c0, V2_c1, V2_l⟩ := V2.out
  obtain ⟨V31_c0, V31_c1, V31_c2, V31_c3, V31_c4, V31_l⟩ := V31.out
  obtain ⟨V42_c0, V42_c1, V42_l⟩ := V42.out
  obtain ⟨V58_c0, V58_c1, V58_c2, V58_c3, V58_c4, V58_l⟩ := V58.out
  go_wp2_with fail
  clear V2_c0 V2_c1 V2_l V31_c0 V31_c1 V31_c2 V31_c3 V31_c4 V31_l V42_c0 V42_c1 V42_l V58_c0 V58_c1 V58_c2 V58_c3 V58_c4 V58_l
  refine (eqSetOut qa48 qa21 qb50 qb23 qc49 qd51 qc22 qd24 (spSeen (l0) (s0) (l1) (n2) (s3) (c4)) (spSibs (l0) (s0) (l1) (n2) (s3) (c4)) (spX (l0) (s0) (l1) (n2) (s3) (c4)) (spY (l0) (s0) (l1) (n2) (s3) (c4)) (spC (l0) (s0) (l1) (n2) (s3) (c4)) _ (by unfold maxLen; omega) (by unfold maxLen; omega) O54.out.at_ O27.out.at_ O55.out.at_ O28.out.at_).mono ?_
  rintro e wx86 ⟨rfl, hb⟩
  replace B := Lib.hid (B.out.below hb)
  replace H0 := Lib.hid (H0.out.below hb)
  replace K0 := Lib.hid (K0.out.below hb)
  replace H1 := Lib.hid (H1.out.below hb)
  replace V2 := Lib.hid (V2.out.below hb)
  replace O13 := Lib.hid (O13.out.below hb)
  replace O14 := Lib.hid (O14.out.below hb)
  replace O19 := Lib.hid (O19.out.below hb)
  replace O27 := Lib.hid (O27.out.below hb)
  replace O28 := Lib.hid (O28.out.below hb)
  replace V31 := Lib.hid (V31.out.below hb)
  replace O38 := Lib.hid (O38.out.below hb)
  replace O39 := Lib.hid (O39.out.below hb)
  replace V42 := Lib.hid (V42.out.below hb)
  replace O46 := Lib.hid (O46.out.below hb)
  replace O54 := Lib.hid (O54.out.below hb)
  replace O55 := Lib.hid (O55.out.below hb)
  replace V58 := Lib.hid (V58.out.below hb)
  replace O69 := Lib.hid (O69.out.below hb)
  replace O70 := Lib.hid (O70.out.below hb)
  replace O77 := Lib.hid (O77.out.below hb)
  have Z87 := hb.size
  clear hb
  obtain ⟨V2_c0, V2_c1, V2_l⟩ := V2.out
  obtain ⟨V31_c0, V31_c1, V31_c2, V31_c3, V31_c4, V31_l⟩ := V31.out
  obtain ⟨V42_c0, V42_c1, V42_l⟩ := V42.out
  obtain ⟨V58_c0, V58_c1, V58_c2, V58_c3, V58_c4, V58_l⟩ := V58.out
  go_wp2_with fail
  clear V2_c0 V2_c1 V2_l V31_c0 V31_c1 V31_c2 V31_c3 V31_c4 V31_l V42_c0 V42_c1 V42_l V58_c0 V58_c1 V58_c2 V58_c3 V58_c4 V58_l
  refine (markSetOut2 (1) (1) rfl (wx45.heap.size) (wx53.heap.size) lo1k52 hi1k52 lo2k52 hi2k52 qa48 qb50 qc49 qd51 (spSeen (l0) (s0) (l1) (n2) (s3) (c4)) (spSibs (l0) (s0) (l1) (n2) (s3) (c4)) (spX (l0) (s0) (l1) (n2) (s3) (c4)) (spY (l0) (s0) (l1) (n2) (s3) (c4)) (spC (l0) (s0) (l1) (n2) (s3) (c4)) _ (by omega) (by omega) (by omega) (by omega) (by omega) (by omega) (by omega) (by omega) (by omega) (by omega) O54.out.1 O55.out.1).mono ?_
  rintro e wx88 ⟨rfl, ho, hs, hw⟩
  replace B := Lib.hid (B.out.within hw (by omega))
  replace H0 := Lib.hid (H0.out.within hw (by omega))
  replace K0 := Lib.hid (K0.out.within hw (by omega))
  replace H1 := Lib.hid (H1.out.within hw (by omega))
  replace V2 := Lib.hid (V2.out.within hw (by omega))
  replace O13 := Lib.hid (O13.out.within hw (by omega))
  replace O14 := Lib.hid (O14.out.within hw (by omega))
  replace O19 := Lib.hid (O19.out.within hw (by omega))
  replace O27 := Lib.hid (O27.out.within hw (by omega))
  replace O28 := Lib.hid (O28.out.within hw (by omega))
  replace V31 := Lib.hid (V31.out.within hw (by omega))
  replace O38 := Lib.hid (O38.out.within hw (by omega))
  replace O39 := Lib.hid (O39.out.within hw (by omega))
  replace V42 := Lib.hid (V42.out.within hw (by omega))
  replace O46 := Lib.hid (O46.out.within hw (by omega))
  replace V58 := Lib.hid (V58.out.within hw (by omega))
  replace O69 := Lib.hid (O69.out.within hw (by omega))
  replace O70 := Lib.hid (O70.out.within hw (by omega))
  replace O77 := Lib.hid (O77.out.within hw (by omega))
  replace O54 := Lib.hid (show OwnI wx88 lo1k52 hi1k52 qa48 (markL ((1 : Nat) : Int) (spSeen (l0) (s0) (l1) (n2) (s3) (c4)).length) from ⟨ho, Nat.le_trans O54.out.2 hw.size⟩)
  replace O55 := Lib.hid (show ROwnI 4 senc wx88 lo2k52 hi2k52 qb50 (sibL (1 + 2 * (spSeen (l0) (s0) (l1) (n2) (s3) (c4)).length) (spSibs (l0) (s0) (l1) (n2) (s3) (c4)).length) from ⟨hs, Nat.le_trans O55.out.2 hw.size⟩)
  have Z89 := hw.size
  clear hw ho hs
  obtain ⟨r90, hr⟩ : ∃ r : Nat, r = 1 + 2 * (spSeen (l0) (s0) (l1) (n2) (s3) (c4)).length + 4 * (spSibs (l0) (s0) (l1) (n2) (s3) (c4)).length := ⟨_, rfl⟩
  rw [← hr]
  have Er90 := Lib.hid hr
  have Lr90 : r90 ≤ 6300001 := by omega
  have Nr90 : ¬ (r90 : Int) < 0 := by omega
  have Pr90 : 0 < r90 := by omega
  clear hr
  obtain ⟨V2_c0, V2_c1, V2_l⟩ := V2.out
  obtain ⟨V31_c0, V31_c1, V31_c2, V31_c3, V31_c4, V31_l⟩ := V31.out
  obtain ⟨V42_c0, V42_c1, V42_l⟩ := V42.out
  obtain ⟨V58_c0, V58_c1, V58_c2, V58_c3, V58_c4, V58_l⟩ := V58.out
  go_wp2_with fail
  clear V2_c0 V2_c1 V2_l V31_c0 V31_c1 V31_c2 V31_c3 V31_c4 V31_l V42_c0 V42_c1 V42_l V58_c0 V58_c1 V58_c2 V58_c3 V58_c4 V58_l
  refine (heldSetOut (1) (1) rfl qa48 qb50 qc49 qd51 ((spSeen (l0) (s0) (l1) (n2) (s3) (c4)).length) ((spSibs (l0) (s0) (l1) (n2) (s3) (c4)).length) (spX (l0) (s0) (l1) (n2) (s3) (c4)) (spY (l0) (s0) (l1) (n2) (s3) (c4)) (spC (l0) (s0) (l1) (n2) (s3) (c4)) _ (by omega) (by omega) (by omega) (by omega) O54.out.at_ O55.out.at_).mono ?_
  rintro e wx91 ⟨rfl, hb⟩
  replace B := Lib.hid (B.out.below hb)
  replace H0 := Lib.hid (H0.out.below hb)
  replace K0 := Lib.hid (K0.out.below hb)
  replace H1 := Lib.hid (H1.out.below hb)
  replace V2 := Lib.hid (V2.out.below hb)
  replace O13 := Lib.hid (O13.out.below hb)
  replace O14 := Lib.hid (O14.out.below hb)
  replace O19 := Lib.hid (O19.out.below hb)
  replace O27 := Lib.hid (O27.out.below hb)
  replace O28 := Lib.hid (O28.out.below hb)
  replace V31 := Lib.hid (V31.out.below hb)
  replace O38 := Lib.hid (O38.out.below hb)
  replace O39 := Lib.hid (O39.out.below hb)
  replace V42 := Lib.hid (V42.out.below hb)
  replace O46 := Lib.hid (O46.out.below hb)
  replace O54 := Lib.hid (O54.out.below hb)
  replace O55 := Lib.hid (O55.out.below hb)
  replace V58 := Lib.hid (V58.out.below hb)
  replace O69 := Lib.hid (O69.out.below hb)
  replace O70 := Lib.hid (O70.out.below hb)
  replace O77 := Lib.hid (O77.out.below hb)
  have Z92 := hb.size
  clear hb
  rw [← Er90.out]
  obtain ⟨V2_c0, V2_c1, V2_l⟩ := V2.out
  obtain ⟨V31_c0, V31_c1, V31_c2, V31_c3, V31_c4, V31_l⟩ := V31.out
  obtain ⟨V42_c0, V42_c1, V42_l⟩ := V42.out
  obtain ⟨V58_c0, V58_c1, V58_c2, V58_c3, V58_c4, V58_l⟩ := V58.out
  go_wp2_with fail
  clear V2_c0 V2_c1 V2_l V31_c0 V31_c1 V31_c2 V31_c3 V31_c4 V31_l V42_c0 V42_c1 V42_l V58_c0 V58_c1 V58_c2 V58_c3 V58_c4 V58_l
  refine (toSet a0 b0 cap0 dap0 (l0) (s0) _ (by omega) (by omega) H0.out.at_ K0.out.at_).mono ?_
  rintro e wx98 ⟨qa93, qc94, qb95, qd96, mid97, rfl, ho, hs, hm1, hm2, hb⟩
  replace B := Lib.hid (B.out.below hb)
  replace H0 := Lib.hid (H0.out.below hb)
  replace K0 := Lib.hid (K0.out.below hb)
  replace H1 := Lib.hid (H1.out.below hb)
  replace V2 := Lib.hid (V2.out.below hb)
  replace O13 := Lib.hid (O13.out.below hb)
  replace O14 := Lib.hid (O14.out.below hb)
  replace O19 := Lib.hid (O19.out.below hb)
  replace O27 := Lib.hid (O27.out.below hb)
  replace O28 := Lib.hid (O28.out.below hb)
  replace V31 := Lib.hid (V31.out.below hb)
  replace O38 := Lib.hid (O38.out.below hb)
  replace O39 := Lib.hid (O39.out.below hb)
  replace V42 := Lib.hid (V42.out.below hb)
  replace O46 := Lib.hid (O46.out.below hb)
  replace O54 := Lib.hid (O54.out.below hb)
  replace O55 := Lib.hid (O55.out.below hb)
  replace V58 := Lib.hid (V58.out.below hb)
  replace O69 := Lib.hid (O69.out.below hb)
  replace O70 := Lib.hid (O70.out.below hb)
  replace O77 := Lib.hid (O77.out.below hb)
  have O99 := Lib.hid (show OwnI wx98 wx91.heap.size mid97 qa93 (l0) from ⟨ho, hm2⟩)
  have O100 := Lib.hid (show ROwnI 4 senc wx98 mid97 wx98.heap.size qb95 (s0) from ⟨hs, Nat.le_refl _⟩)
  have Z101 := hb.size
  have Z101a := hm1
  have Z101b := hm2
  clear hb ho hs hm1 hm2
  obtain ⟨V2_c0, V2_c1, V2_l⟩ := V2.out
  obtain ⟨V31_c0, V31_c1, V31_c2, V31_c3, V31_c4, V31_l⟩ := V31.out
  obtain ⟨V42_c0, V42_c1, V42_l⟩ := V42.out
  obtain ⟨V58_c0, V58_c1, V58_c2, V58_c3, V58_c4, V58_l⟩ := V58.out
  go_wp2_with fail
  clear V2_c0 V2_c1 V2_l V31_c0 V31_c1 V31_c2 V31_c3 V31_c4 V31_l V42_c0 V42_c1 V42_l V58_c0 V58_c1 V58_c2 V58_c3 V58_c4 V58_l
  refine (toMarkS a1 cap1 (l1) _ (by omega) H1.out.at_).mono ?_
  rintro e wx104 ⟨qa102, qc103, rfl, ho, hb⟩
  replace B := Lib.hid (B.out.below hb)
  replace H0 := Lib.hid (H0.out.below hb)
  replace K0 := Lib.hid (K0.out.below hb)
  replace H1 := Lib.hid (H1.out.below hb)
  replace V2 := Lib.hid (V2.out.below hb)
  replace O13 := Lib.hid (O13.out.below hb)
  replace O14 := Lib.hid (O14.out.below hb)
  replace O19 := Lib.hid (O19.out.below hb)
  replace O27 := Lib.hid (O27.out.below hb)
  replace O28 := Lib.hid (O28.out.below hb)
  replace V31 := Lib.hid (V31.out.below hb)
  replace O38 := Lib.hid (O38.out.below hb)
  replace O39 := Lib.hid (O39.out.below hb)
  replace V42 := Lib.hid (V42.out.below hb)
  replace O46 := Lib.hid (O46.out.below hb)
  replace O54 := Lib.hid (O54.out.below hb)
  replace O55 := Lib.hid (O55.out.below hb)
  replace V58 := Lib.hid (V58.out.below hb)
  replace O69 := Lib.hid (O69.out.below hb)
  replace O70 := Lib.hid (O70.out.below hb)
  replace O77 := Lib.hid (O77.out.below hb)
  replace O99 := Lib.hid (O99.out.below hb)
  replace O100 := Lib.hid (O100.out.below hb)
  have O105 := Lib.hid (show OwnI wx104 wx98.heap.size wx104.heap.size qa102 (l1) from ⟨ho, Nat.le_refl _⟩)
  have Z106 := hb.size
  clear hb ho
  obtain ⟨V2_c0, V2_c1, V2_l⟩ := V2.out
  obtain ⟨V31_c0, V31_c1, V31_c2, V31_c3, V31_c4, V31_l⟩ := V31.out
  obtain ⟨V42_c0, V42_c1, V42_l⟩ := V42.out
  obtain ⟨V58_c0, V58_c1, V58_c2, V58_c3, V58_c4, V58_l⟩ := V58.out
  go_wp2_with fail
  clear V2_c0 V2_c1 V2_l V31_c0 V31_c1 V31_c2 V31_c3 V31_c4 V31_l V42_c0 V42_c1 V42_l V58_c0 V58_c1 V58_c2 V58_c3 V58_c4 V58_l
  refine (impl_setPut qa93 qb95 qa102 qc94 qd96 qc103 (l0) (s0) (l1) (n2) (s3) (c4) _ (by unfold maxLen; omega) (by unfold maxLen; omega) (by unfold maxLen; omega) HS3.out HD0.out HF0.out Wn2.out O99.out.at_ O100.out.at_ O105.out.at_).mono ?_
  rintro e wx112 ⟨qa107, qc108, qb109, qd110, lo1k111, hi1k111, lo2k111, hi2k111, rfl, ho, hs, g1k111, g2k111, g3k111, g4k111, g5k111, -, hb⟩
  replace B := Lib.hid (B.out.below hb)
  replace H0 := Lib.hid (H0.out.below hb)
  replace K0 := Lib.hid (K0.out.below hb)
  replace H1 := Lib.hid (H1.out.below hb)
  replace V2 := Lib.hid (V2.out.below hb)
  replace O13 := Lib.hid (O13.out.below hb)
  replace O14 := Lib.hid (O14.out.below hb)
  replace O19 := Lib.hid (O19.out.below hb)
  replace O27 := Lib.hid (O27.out.below hb)
  replace O28 := Lib.hid (O28.out.below hb)
  replace V31 := Lib.hid (V31.out.below hb)
  replace O38 := Lib.hid (O38.out.below hb)
  replace O39 := Lib.hid (O39.out.below hb)
  replace V42 := Lib.hid (V42.out.below hb)
  replace O46 := Lib.hid (O46.out.below hb)
  replace O54 := Lib.hid (O54.out.below hb)
  replace O55 := Lib.hid (O55.out.below hb)
  replace V58 := Lib.hid (V58.out.below hb)
  replace O69 := Lib.hid (O69.out.below hb)
  replace O70 := Lib.hid (O70.out.below hb)
  replace O77 := Lib.hid (O77.out.below hb)
  replace O99 := Lib.hid (O99.out.below hb)
  replace O100 := Lib.hid (O100.out.below hb)
  replace O105 := Lib.hid (O105.out.below hb)
  have O113 := Lib.hid (show OwnI wx112 lo1k111 hi1k111 qa107 (spSeen (l0) (s0) (l1) (n2) (s3) (c4)) from ⟨ho, g3k111⟩)
  have O114 := Lib.hid (show ROwnI 4 senc wx112 lo2k111 hi2k111 qb109 (spSibs (l0) (s0) (l1) (n2) (s3) (c4)) from ⟨hs, g4k111⟩)
  have Z115 := hb.size
  clear hb ho hs
  have hb := step_alloc wx112 (.cells #[.slice qa107 (spSeen (l0) (s0) (l1) (n2) (s3) (c4)).length qc108, .slice qb109 (spSibs (l0) (s0) (l1) (n2) (s3) (c4)).length qd110, .int .i64 (spX (l0) (s0) (l1) (n2) (s3) (c4)), .int .i64 (spY (l0) (s0) (l1) (n2) (s3) (c4)), .int .i64 (spC (l0) (s0) (l1) (n2) (s3) (c4))] 32)
  replace B := Lib.hid (B.out.below hb)
  replace H0 := Lib.hid (H0.out.below hb)
  replace K0 := Lib.hid (K0.out.below hb)
  replace H1 := Lib.hid (H1.out.below hb)
  replace V2 := Lib.hid (V2.out.below hb)
  replace O13 := Lib.hid (O13.out.below hb)
  replace O14 := Lib.hid (O14.out.below hb)
  replace O19 := Lib.hid (O19.out.below hb)
  replace O27 := Lib.hid (O27.out.below hb)
  replace O28 := Lib.hid (O28.out.below hb)
  replace V31 := Lib.hid (V31.out.below hb)
  replace O38 := Lib.hid (O38.out.below hb)
  replace O39 := Lib.hid (O39.out.below hb)
  replace V42 := Lib.hid (V42.out.below hb)
  replace O46 := Lib.hid (O46.out.below hb)
  replace O54 := Lib.hid (O54.out.below hb)
  replace O55 := Lib.hid (O55.out.below hb)
  replace V58 := Lib.hid (V58.out.below hb)
  replace O69 := Lib.hid (O69.out.below hb)
  replace O70 := Lib.hid (O70.out.below hb)
  replace O77 := Lib.hid (O77.out.below hb)
  replace O99 := Lib.hid (O99.out.below hb)
  replace O100 := Lib.hid (O100.out.below hb)
  replace O105 := Lib.hid (O105.out.below hb)
  replace O113 := Lib.hid (O113.out.below hb)
  replace O114 := Lib.hid (O114.out.below hb)
  clear hb
  have Z116 : wx112.heap.size < (wx112.alloc (.cells #[.slice qa107 (spSeen (l0) (s0) (l1) (n2) (s3) (c4)).length qc108, .slice qb109 (spSibs (l0) (s0) (l1) (n2) (s3) (c4)).length qd110, .int .i64 (spX (l0) (s0) (l1) (n2) (s3) (c4)), .int .i64 (spY (l0) (s0) (l1) (n2) (s3) (c4)), .int .i64 (spC (l0) (s0) (l1) (n2) (s3) (c4))] 32)).heap.size := by simp
  have yZ116 : (wx112.alloc (.cells #[.slice qa107 (spSeen (l0) (s0) (l1) (n2) (s3) (c4)).length qc108, .slice qb109 (spSibs (l0) (s0) (l1) (n2) (s3) (c4)).length qd110, .int .i64 (spX (l0) (s0) (l1) (n2) (s3) (c4)), .int .i64 (spY (l0) (s0) (l1) (n2) (s3) (c4)), .int .i64 (spC (l0) (s0) (l1) (n2) (s3) (c4))] 32)).heap.size ≤ wx112.heap.size + 1 := by simp
  have V117 := Lib.hid (Var5.new wx112 (.slice qa107 (spSeen (l0) (s0) (l1) (n2) (s3) (c4)).length qc108) (.slice qb109 (spSibs (l0) (s0) (l1) (n2) (s3) (c4)).length qd110) (.int .i64 (spX (l0) (s0) (l1) (n2) (s3) (c4))) (.int .i64 (spY (l0) (s0) (l1) (n2) (s3) (c4))) (.int .i64 (spC (l0) (s0) (l1) (n2) (s3) (c4))) 32)
  obtain ⟨V2_c0, V2_c1, V2_l⟩ := V2.out
  obtain ⟨V31_c0, V31_c1, V31_c2, V31_c3, V31_c4, V31_l⟩ := V31.out
  obtain ⟨V42_c0, V42_c1, V42_l⟩ := V42.out
  obtain ⟨V58_c0, V58_c1, V58_c2, V58_c3, V58_c4, V58_l⟩ := V58.out
  obtain ⟨V117_c0, V117_c1, V117_c2, V117_c3, V117_c4, V117_l⟩ := V117.out
  go_wp2_with fail
  clear V2_c0 V2_c1 V2_l V31_c0 V31_c1 V31_c2 V31_c3 V31_c4 V31_l V42_c0 V42_c1 V42_l V58_c0 V58_c1 V58_c2 V58_c3 V58_c4 V58_l V117_c0 V117_c1 V117_c2 V117_c3 V117_c4 V117_l
  refine (eqSetOut qa107 qa21 qb109 qb23 qc108 qd110 qc22 qd24 (spSeen (l0) (s0) (l1) (n2) (s3) (c4)) (spSibs (l0) (s0) (l1) (n2) (s3) (c4)) (spX (l0) (s0) (l1) (n2) (s3) (c4)) (spY (l0) (s0) (l1) (n2) (s3) (c4)) (spC (l0) (s0) (l1) (n2) (s3) (c4)) _ (by unfold maxLen; omega) (by unfold maxLen; omega) O113.out.at_ O27.out.at_ O114.out.at_ O28.out.at_).mono ?_
  rintro e wx118 ⟨rfl, hb⟩
  replace B := Lib.hid (B.out.below hb)
  replace H0 := Lib.hid (H0.out.below hb)
  replace K0 := Lib.hid (K0.out.below hb)
  replace H1 := Lib.hid (H1.out.below hb)
  replace V2 := Lib.hid (V2.out.below hb)
  replace O13 := Lib.hid (O13.out.below hb)
  replace O14 := Lib.hid (O14.out.below hb)
  replace O19 := Lib.hid (O19.out.below hb)
  replace O27 := Lib.hid (O27.out.below hb)
  replace O28 := Lib.hid (O28.out.below hb)
  replace V31 := Lib.hid (V31.out.below hb)
  replace O38 := Lib.hid (O38.out.below hb)
  replace O39 := Lib.hid (O39.out.below hb)
  replace V42 := Lib.hid (V42.out.below hb)
  replace O46 := Lib.hid (O46.out.below hb)
  replace O54 := Lib.hid (O54.out.below hb)
  replace O55 := Lib.hid (O55.out.below hb)
  replace V58 := Lib.hid (V58.out.below hb)
  replace O69 := Lib.hid (O69.out.below hb)
  replace O70 := Lib.hid (O70.out.below hb)
  replace O77 := Lib.hid (O77.out.below hb)
  replace O99 := Lib.hid (O99.out.below hb)
  replace O100 := Lib.hid (O100.out.below hb)
  replace O105 := Lib.hid (O105.out.below hb)
  replace O113 := Lib.hid (O113.out.below hb)
  replace O114 := Lib.hid (O114.out.below hb)
  replace V117 := Lib.hid (V117.out.below hb)
  have Z119 := hb.size
  clear hb
  simp at Z119
  obtain ⟨V2_c0, V2_c1, V2_l⟩ := V2.out
  obtain ⟨V31_c0, V31_c1, V31_c2, V31_c3, V31_c4, V31_l⟩ := V31.out
  obtain ⟨V42_c0, V42_c1, V42_l⟩ := V42.out
  obtain ⟨V58_c0, V58_c1, V58_c2, V58_c3, V58_c4, V58_l⟩ := V58.out
  obtain ⟨V117_c0, V117_c1, V117_c2, V117_c3, V117_c4, V117_l⟩ := V117.out
  go_wp2_with fail
  clear V2_c0 V2_c1 V2_l V31_c0 V31_c1 V31_c2 V31_c3 V31_c4 V31_l V42_c0 V42_c1 V42_l V58_c0 V58_c1 V58_c2 V58_c3 V58_c4 V58_l V117_c0 V117_c1 V117_c2 V117_c3 V117_c4 V117_l
  refine (heldSetOut (1) (1) rfl qa48 qb50 qc49 qd51 ((spSeen (l0) (s0) (l1) (n2) (s3) (c4)).length) ((spSibs (l0) (s0) (l1) (n2) (s3) (c4)).length) (spX (l0) (s0) (l1) (n2) (s3) (c4)) (spY (l0) (s0) (l1) (n2) (s3) (c4)) (spC (l0) (s0) (l1) (n2) (s3) (c4)) _ (by omega) (by omega) (by omega) (by omega) O54.out.at_ O55.out.at_).mono ?_
  rintro e wx120 ⟨rfl, hb⟩
  replace B := Lib.hid (B.out.below hb)
  replace H0 := Lib.hid (H0.out.below hb)
  replace K0 := Lib.hid (K0.out.below hb)
  replace H1 := Lib.hid (H1.out.below hb)
  replace V2 := Lib.hid (V2.out.below hb)
  replace O13 := Lib.hid (O13.out.below hb)
  replace O14 := Lib.hid (O14.out.below hb)
  replace O19 := Lib.hid (O19.out.below hb)
  replace O27 := Lib.hid (O27.out.below hb)
  replace O28 := Lib.hid (O28.out.below hb)
  replace V31 := Lib.hid (V31.out.below hb)
  replace O38 := Lib.hid (O38.out.below hb)
  replace O39 := Lib.hid (O39.out.below hb)
  replace V42 := Lib.hid (V42.out.below hb)
  replace O46 := Lib.hid (O46.out.below hb)
  replace O54 := Lib.hid (O54.out.below hb)
  replace O55 := Lib.hid (O55.out.below hb)
  replace V58 := Lib.hid (V58.out.below hb)
  replace O69 := Lib.hid (O69.out.below hb)
  replace O70 := Lib.hid (O70.out.below hb)
  replace O77 := Lib.hid (O77.out.below hb)
  replace O99 := Lib.hid (O99.out.below hb)
  replace O100 := Lib.hid (O100.out.below hb)
  replace O105 := Lib.hid (O105.out.below hb)
  replace O113 := Lib.hid (O113.out.below hb)
  replace O114 := Lib.hid (O114.out.below hb)
  replace V117 := Lib.hid (V117.out.below hb)
  have Z121 := hb.size
  clear hb
  rw [← Er90.out]
  obtain ⟨V2_c0, V2_c1, V2_l⟩ := V2.out
  obtain ⟨V31_c0, V31_c1, V31_c2, V31_c3, V31_c4, V31_l⟩ := V31.out
  obtain ⟨V42_c0, V42_c1, V42_l⟩ := V42.out
  obtain ⟨V58_c0, V58_c1, V58_c2, V58_c3, V58_c4, V58_l⟩ := V58.out
  obtain ⟨V117_c0, V117_c1, V117_c2, V117_c3, V117_c4, V117_l⟩ := V117.out
  go_wp2
  go_ret
  exact ⟨rfl, B.out⟩
end Go.Proofs.Ytgbcogncnhbmeaa.Sb
