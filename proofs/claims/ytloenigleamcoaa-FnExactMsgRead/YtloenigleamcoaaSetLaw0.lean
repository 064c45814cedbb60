/- Contracts of the laws' helpers szSet, toSet and eqSet; Sets that came in as arguments of a law. Condition: at most 1048576 marks and Sibs. -/
import Derived.Test.YtloenigleamcoaaSibLaw
import Derived.Test.YtloenigleamcoaaFrame2
import Derived.Test.YtloenigleamcoaaMarkOpen
import Derived.Deep.Strs
set_option linter.unusedSimpArgs false
set_option linter.unusedVariables false
namespace Go.Proofs.Ytloenigleamcoaa.Sb
open Go.RowKit Go.WideShapes Go.ChangeShapes Go.Joins Go.Proofs.Ytloenigleamcoaa.Mk Go.Proofs.Ytloenigleamcoaa.Rw

/-- what szSet leaves -/
def SizedSet (w : World) (left : Int) (n m : Nat) (e : Ending) (w' : World) : Prop :=
  ∃ r : Int, e = .returned (.int .i64 r) ∧ (r = -1 ∨ (0 ≤ r ∧ r ≤ left ∧ (n : Int) ≤ left ∧ (m : Int) ≤ left)) ∧ Below w.heap.size w w'
set_option maxRecDepth 100000 in
set_option maxHeartbeats 1000000 in
theorem szSet (a b : Option Addr) (cap cap' : Nat) (l : List (Int × Int)) (s : List Sib) (left : Int) (w : World) (hl : l.length ≤ maxLen) (hs : s.length ≤ maxLen) (hd : SmallData s) (h0 : 0 ≤ left) (h1 : left ≤ 1048576) (h' : SibsAt w b s) :
    Calls Try.prog 19 #[.agg #[.slice a l.length cap, .slice b s.length cap'], .int .i64 left] w (SizedSet w left l.length s.length) := by
  have H' := Lib.hid h'
  have hb0 := Lib.hid (step_alloc w (.cells #[.slice a l.length cap, .slice b s.length cap'] 25))
  clear h'
  by_cases hlt : left < (l.length : Int)
  · go_enter Try.func19, Try.ntmps19
    go_wp2_with (go_at_call 45; refine (szMarkS_no _ _ _ _ _ hl h0 h1 hlt).mono ?_; rintro e w' ⟨rfl, rfl⟩)
    go_ret
    exact ⟨_, rfl, .inl rfl, hb0.out⟩
  · have hge : (l.length : Int) ≤ left := by omega
    go_enter Try.func19, Try.ntmps19
    go_wp2_with (go_at_call 45; refine (szMarkS_yes _ _ _ _ _ h0 h1 hge).mono ?_; rintro e w' ⟨rfl, rfl⟩; have hn : ¬ left - (l.length : Int) < 0 := by omega)
    refine (szSibS b cap' s (left - l.length) _ hs hd (by omega) (by omega) (H'.out.mono hb0.out)).mono ?_
    rintro e w1 ⟨r, rfl, hr, hb⟩
    have HB := Lib.hid (hb0.out.trans (hb.mono (by simp)))
    clear hb
    rcases hr with rfl | ⟨r0, r1, r2⟩
    · go_wp2
      go_ret
      exact ⟨_, rfl, .inl rfl, HB.out⟩
    · have hn2 : ¬ r < 0 := by omega
      go_wp2
      go_ret
      exact ⟨_, rfl, .inr ⟨r0, by omega, hge, by omega⟩, HB.out⟩
/-- what a call that makes a Set leaves: the two rows lie apart -/
def GivesSet (w : World) (l : List (Int × Int)) (s : List Sib) (e : Ending) (w' : World) : Prop :=
  ∃ a cap b cap' mid, e = .returned (.agg #[.slice a l.length cap, .slice b s.length cap']) ∧ OwnIn w' w.heap.size mid a l ∧ SOwnIn w' mid w'.heap.size b s ∧ w.heap.size ≤ mid ∧ mid ≤ w'.heap.size ∧ Below w.heap.size w w'
set_option maxRecDepth 100000 in
set_option maxHeartbeats 1000000 in
theorem toSet (a b : Option Addr) (cap cap' : Nat) (l : List (Int × Int)) (s : List Sib) (w : World) (hl : l.length ≤ 1048576) (hs : s.length ≤ 1048576) (h : MarksAt w a l) (h' : SibsAt w b s) :
    Calls Try.prog 21 #[.agg #[.slice a l.length cap, .slice b s.length cap']] w (GivesSet w l s) := by
  have H := Lib.hid h
  have H' := Lib.hid h'
  clear h h'
  have hb0 := Lib.hid ((((Below.refl w.heap.size w).alloc (Nat.le_refl _) (.cells #[.slice a l.length cap, .slice b s.length cap'] 25)).alloc (by simp) (.cells #[.slice none 0 0, .slice none 0 0] 33)).alloc (by simp <;> omega) (.cells #[.slice none 0 0, .slice none 0 0] 33))
  have X0 := Lib.hid (((Cells.new w #[.slice a l.length cap, .slice b s.length cap'] 25).below (step_alloc _ (.cells #[.slice none 0 0, .slice none 0 0] 33))).below (step_alloc _ (.cells #[.slice none 0 0, .slice none 0 0] 33)))
  have X1 := Lib.hid ((Cells.new (w.alloc (.cells #[.slice a l.length cap, .slice b s.length cap'] 25)) #[.slice none 0 0, .slice none 0 0] 33).below (step_alloc _ (.cells #[.slice none 0 0, .slice none 0 0] 33)))
  have X2 := Lib.hid (Cells.new ((w.alloc (.cells #[.slice a l.length cap, .slice b s.length cap'] 25)).alloc (.cells #[.slice none 0 0, .slice none 0 0] 33)) #[.slice none 0 0, .slice none 0 0] 33)
  simp only [World.size_alloc] at X1 X2
  go_enter Try.func21, Try.ntmps21
  go_wp2_with fail
  refine (toMarkS a cap l _ hl (H.out.mono hb0.out)).mono ?_
  rintro e w1 ⟨a1, c1, rfl, ho, hb⟩
  have hz := hb.size
  simp only [World.size_alloc] at hz
  have HB := Lib.hid (hb0.out.trans (hb.mono (by simp only [World.size_alloc]; omega)))
  have HO := Lib.hid (ho.wide (lo' := w.heap.size + 3) (hi' := w1.heap.size) (by simp) (Nat.le_refl _))
  replace X0 := Lib.hid (X0.out.below hb)
  replace X1 := Lib.hid (X1.out.below hb)
  replace X2 := Lib.hid (X2.out.below hb)
  clear hb ho
  obtain ⟨p0, p1, p2, p3⟩ := X0.out.c2
  obtain ⟨q0, q1, q2, q3⟩ := X1.out.c2
  obtain ⟨r0, r1, r2, r3⟩ := X2.out.c2
  go_wp2_with fail
  have hw := one_store w1 (w.heap.size + 1 + 1) 0 (.slice a1 l.length c1)
  replace X0 := Lib.hid (X0.out.within hw (by omega))
  replace X1 := Lib.hid (X1.out.within hw (by omega))
  replace X2 := Lib.hid (X2.out.set 0 (by simp) (.slice a1 l.length c1))
  replace HO := Lib.hid (HO.out.same (hw.same (Nat.le_refl _) (by omega)))
  replace HB := Lib.hid (HB.out.trans (hw.below (by omega) HB.out.size))
  have hz2 : w1.heap.size = (w1.setCell ⟨w.heap.size + 1 + 1, 0, none⟩ (.slice a1 l.length c1)).heap.size := (size_set _ _ _).symm
  clear p0 p1 p2 p3 q0 q1 q2 q3 r0 r1 r2 r3 hw
  rw [hz2] at HO hz
  clear hz2
  generalize w1.setCell ⟨w.heap.size + 1 + 1, 0, none⟩ (.slice a1 l.length c1) = wa at X0 X1 X2 HO HB hz ⊢
  refine (toSibS b cap' s _ hs (H'.out.mono HB.out)).mono ?_
  rintro e w2 ⟨a2, c2, rfl, ho, hb⟩
  replace X0 := Lib.hid (X0.out.below hb)
  replace X1 := Lib.hid (X1.out.below hb)
  replace X2 := Lib.hid (X2.out.below hb)
  replace HO := Lib.hid (HO.out.same (Same.of_below hb (Nat.le_refl _)))
  replace HB := Lib.hid (HB.out.trans (hb.mono HB.out.size))
  have HS := Lib.hid ho
  have hz3 := hb.size
  clear hb ho
  obtain ⟨p0, p1, p2, p3⟩ := X0.out.c2
  obtain ⟨q0, q1, q2, q3⟩ := X1.out.c2
  obtain ⟨r0, r1, r2, r3⟩ := X2.out.c2
  go_wp2
  have hw : Within (w.heap.size + 1) (w.heap.size + 3) w2 (((w2.setCell ⟨w.heap.size + 1 + 1, 1, none⟩ (.slice a2 s.length c2)).setCell ⟨w.heap.size + 1, 0, none⟩ (.slice a1 l.length c1)).setCell ⟨w.heap.size + 1, 1, none⟩ (.slice a2 s.length c2)) :=
    (((Within.refl _ _ _).setCell (p := ⟨_, _, none⟩) (by simp) (by simp) _).setCell (p := ⟨_, _, none⟩) (by simp) (by simp) _).setCell (p := ⟨_, _, none⟩) (by simp) (by simp) _
  refine bodyPost_ret (v := .agg #[.slice a1 l.length c1, .slice a2 s.length c2]) (by simp [results, Try.results21, go_sem, q0, q1, q2, q3]) rfl ?_
  refine ⟨a1, c1, a2, c2, wa.heap.size, rfl, ?_, ?_, by omega, Nat.le_trans hz3 hw.size, HB.out.trans (hw.below (by omega) (by omega))⟩
  · exact (HO.out.same (hw.same hz3 (by omega))).wide (by omega) (Nat.le_refl _)
  · exact (HS.out.same (hw.same (Nat.le_refl _) (by omega))).wide (Nat.le_refl _) hw.size
set_option maxRecDepth 100000 in
theorem eqSet (a a' b b' : Option Addr) (cap1 cap2 cap3 cap4 : Nat) (l : List (Int × Int)) (s : List Sib) (w : World) (hl : l.length ≤ maxLen) (hs : s.length ≤ maxLen) (h : MarksAt w a l) (h' : MarksAt w a' l) (k : SibsAt w b s) (k' : SibsAt w b' s) :
    Calls Try.prog 23 #[.agg #[.slice a l.length cap1, .slice b s.length cap2], .agg #[.slice a' l.length cap3, .slice b' s.length cap4]] w fun e w' => e = .returned (.bool true) ∧ Below w.heap.size w w' := by
  have H := Lib.hid h
  have H' := Lib.hid h'
  have K := Lib.hid k
  have K' := Lib.hid k'
  clear h h' k k'
  have hb0 := Lib.hid (((Below.refl w.heap.size w).alloc (Nat.le_refl _) (.cells #[.slice a l.length cap1, .slice b s.length cap2] 33)).alloc (by simp) (.cells #[.slice a' l.length cap3, .slice b' s.length cap4] 33))
  go_enter Try.func23, Try.ntmps23
  go_wp2_with fail
  refine (eqMarkS a a' cap1 cap3 l _ hl (H.out.mono hb0.out) (H'.out.mono hb0.out)).mono ?_
  rintro e w1 ⟨rfl, hb⟩
  obtain ⟨hc, _⟩ := bcell hb
  have HB := Lib.hid (hb0.out.trans (hb.mono (by simp; omega)))
  clear hb
  go_wp2_with fail
  refine (eqSibS b b' cap2 cap4 s _ hs (K.out.mono HB.out) (K'.out.mono HB.out)).mono ?_
  rintro e w2 ⟨rfl, hb⟩
  have HB2 := Lib.hid (HB.out.trans (hb.mono HB.out.size))
  clear hb hc
  go_wp2
  go_ret
  exact ⟨rfl, HB2.out⟩
end Go.Proofs.Ytloenigleamcoaa.Sb
