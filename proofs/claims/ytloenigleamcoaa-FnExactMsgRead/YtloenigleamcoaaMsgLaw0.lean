/- Contracts of the laws' helpers on Msg and MsgOut. Condition: at most 1048576 marks and Sibs. -/
import Derived.Test.YtloenigleamcoaaCells9
import Derived.Test.YtloenigleamcoaaSetOut2
set_option linter.unusedSimpArgs false
set_option linter.unusedVariables false
namespace Go.Proofs.Ytloenigleamcoaa.Sb
open Go.RowKit Go.Proofs.Ytloenigleamcoaa.Mk Go.Proofs.Ytloenigleamcoaa.Rw

/-- what szMsg leaves -/
def SizedMsg (w : World) (left : Int) (k n m : Nat) (e : Ending) (w' : World) : Prop :=
  ∃ r : Int, e = .returned (.int .i64 r) ∧ (r = -1 ∨ (0 ≤ r ∧ r ≤ left ∧ (k : Int) ≤ left ∧ (n : Int) ≤ left ∧ (m : Int) ≤ left)) ∧ Below w.heap.size w w'
set_option maxRecDepth 100000 in
set_option maxHeartbeats 400000 in
theorem szMsg (kd fr tq rq : Int) (ky : ByteArray) (ow : Int) (a b : Option Addr) (cap cap' : Nat) (l : List (Int × Int)) (s : List Sib) (left : Int) (w : World) (hl : l.length ≤ maxLen) (hs : s.length ≤ maxLen) (hd : SmallData s) (hy : ky.size ≤ maxLen) (h0 : 0 ≤ left) (h1 : left ≤ 1048576) (h' : SibsAt w b s) :
    Calls Try.prog 7 #[.agg #[.int .i64 kd, .int .i64 fr, .int .i64 tq, .int .i64 rq, .string ky, .int .i64 ow, .slice a l.length cap, .slice b s.length cap'], .int .i64 left] w (SizedMsg w left ky.size l.length s.length) := by
  have H' := Lib.hid h'
  have HS := Lib.hid hd
  have hb0 := Lib.hid (step_alloc w (.cells #[.int .i64 kd, .int .i64 fr, .int .i64 tq, .int .i64 rq, .string ky, .int .i64 ow, .slice a l.length cap, .slice b s.length cap'] 27))
  clear h' hd
  unfold maxLen at hy
  by_cases hlt : left - (ky.size : Int) < 0
  · go_enter Try.func7, Try.ntmps7
    go_wp2
    go_ret
    exact ⟨_, rfl, .inl rfl, hb0.out⟩
  · go_enter Try.func7, Try.ntmps7
    go_wp2_with fail
    refine (szSet a b cap cap' l s (left - (ky.size : Int)) _ hl hs HS.out (by omega) (by omega) (H'.out.mono hb0.out)).mono ?_
    rintro e w1 ⟨r, rfl, hr, hb⟩
    have HB := Lib.hid (hb0.out.trans (hb.mono (by simp)))
    clear hb
    rcases hr with rfl | ⟨r0, r1, r2, r3⟩
    · go_wp2
      go_ret
      exact ⟨_, rfl, .inl rfl, HB.out⟩
    · have hn2 : ¬ r < 0 := by omega
      go_wp2
      go_ret
      exact ⟨_, rfl, .inr ⟨r0, by omega, by omega, by omega, by omega⟩, HB.out⟩
/-- what a call that makes a Msg leaves: the two rows lie apart -/
def GivesMsg (w : World) (kd fr tq rq : Int) (ky : ByteArray) (ow : Int) (l : List (Int × Int)) (s : List Sib) (e : Ending) (w' : World) : Prop :=
  ∃ a cap b cap' mid, e = .returned (.agg #[.int .i64 kd, .int .i64 fr, .int .i64 tq, .int .i64 rq, .string ky, .int .i64 ow, .slice a l.length cap, .slice b s.length cap']) ∧ OwnIn w' w.heap.size mid a l ∧ SOwnIn w' mid w'.heap.size b s ∧ w.heap.size ≤ mid ∧ mid ≤ w'.heap.size ∧ Below w.heap.size w w'
set_option maxRecDepth 100000 in
set_option maxHeartbeats 400000 in
theorem toMsg (kd fr tq rq : Int) (ky : ByteArray) (ow : Int) (a b : Option Addr) (cap cap' : Nat) (l : List (Int × Int)) (s : List Sib) (w : World) (hl : l.length ≤ 1048576) (hs : s.length ≤ 1048576) (h : MarksAt w a l) (h' : SibsAt w b s) :
    Calls Try.prog 9 #[.agg #[.int .i64 kd, .int .i64 fr, .int .i64 tq, .int .i64 rq, .string ky, .int .i64 ow, .slice a l.length cap, .slice b s.length cap']] w (GivesMsg w kd fr tq rq ky ow l s) := by
  have H := Lib.hid h
  have H' := Lib.hid h'
  clear h h'
  have D := Lib.hid (show Base w _ from Base.below (Base.below (step_alloc w (.cells #[.int .i64 kd, .int .i64 fr, .int .i64 tq, .int .i64 rq, .string ky, .int .i64 ow, .slice a l.length cap, .slice b s.length cap'] 27)) (step_alloc _ (.cells #[.int .i64 0, .int .i64 0, .int .i64 0, .int .i64 0, .string ⟨#[]⟩, .int .i64 0, .slice none 0 0, .slice none 0 0] 35))) (step_alloc _ (.cells #[.int .i64 0, .int .i64 0, .int .i64 0, .int .i64 0, .string ⟨#[]⟩, .int .i64 0, .slice none 0 0, .slice none 0 0] 35)))
  have X0 := Lib.hid (((Cells.new w #[.int .i64 kd, .int .i64 fr, .int .i64 tq, .int .i64 rq, .string ky, .int .i64 ow, .slice a l.length cap, .slice b s.length cap'] 27).below (step_alloc _ (.cells #[.int .i64 0, .int .i64 0, .int .i64 0, .int .i64 0, .string ⟨#[]⟩, .int .i64 0, .slice none 0 0, .slice none 0 0] 35))).below (step_alloc _ (.cells #[.int .i64 0, .int .i64 0, .int .i64 0, .int .i64 0, .string ⟨#[]⟩, .int .i64 0, .slice none 0 0, .slice none 0 0] 35)))
  have X1 := Lib.hid ((Cells.new (w.alloc (.cells #[.int .i64 kd, .int .i64 fr, .int .i64 tq, .int .i64 rq, .string ky, .int .i64 ow, .slice a l.length cap, .slice b s.length cap'] 27)) #[.int .i64 0, .int .i64 0, .int .i64 0, .int .i64 0, .string ⟨#[]⟩, .int .i64 0, .slice none 0 0, .slice none 0 0] 35).below (step_alloc _ (.cells #[.int .i64 0, .int .i64 0, .int .i64 0, .int .i64 0, .string ⟨#[]⟩, .int .i64 0, .slice none 0 0, .slice none 0 0] 35)))
  have X2 := Lib.hid (Cells.new ((w.alloc (.cells #[.int .i64 kd, .int .i64 fr, .int .i64 tq, .int .i64 rq, .string ky, .int .i64 ow, .slice a l.length cap, .slice b s.length cap'] 27)).alloc (.cells #[.int .i64 0, .int .i64 0, .int .i64 0, .int .i64 0, .string ⟨#[]⟩, .int .i64 0, .slice none 0 0, .slice none 0 0] 35)) #[.int .i64 0, .int .i64 0, .int .i64 0, .int .i64 0, .string ⟨#[]⟩, .int .i64 0, .slice none 0 0, .slice none 0 0] 35)
  simp only [World.size_alloc, List.toList_toArray] at X0 X1 X2
  have hz0 : w.heap.size + 3 = (((w.alloc (.cells #[.int .i64 kd, .int .i64 fr, .int .i64 tq, .int .i64 rq, .string ky, .int .i64 ow, .slice a l.length cap, .slice b s.length cap'] 27)).alloc (.cells #[.int .i64 0, .int .i64 0, .int .i64 0, .int .i64 0, .string ⟨#[]⟩, .int .i64 0, .slice none 0 0, .slice none 0 0] 35)).alloc (.cells #[.int .i64 0, .int .i64 0, .int .i64 0, .int .i64 0, .string ⟨#[]⟩, .int .i64 0, .slice none 0 0, .slice none 0 0] 35)).heap.size := by simp
  go_enter Try.func9, Try.ntmps9
  go_upto_region 2 with fail
  generalize ((w.alloc (.cells #[.int .i64 kd, .int .i64 fr, .int .i64 tq, .int .i64 rq, .string ky, .int .i64 ow, .slice a l.length cap, .slice b s.length cap'] 27)).alloc (.cells #[.int .i64 0, .int .i64 0, .int .i64 0, .int .i64 0, .string ⟨#[]⟩, .int .i64 0, .slice none 0 0, .slice none 0 0] 35)).alloc (.cells #[.int .i64 0, .int .i64 0, .int .i64 0, .int .i64 0, .string ⟨#[]⟩, .int .i64 0, .slice none 0 0, .slice none 0 0] 35) = w0 at D X0 X1 X2 hz0 ⊢
  obtain ⟨x0, x1, x2, x3, x4, x5, x6, x7, _⟩ := X0.out.c8
  obtain ⟨y0, y1, y2, y3, y4, y5, y6, y7, f0, f1, f2, f3, f4, f5, f6, f7⟩ := X2.out.c8
  go_upto_region 3 with fail
  have hw := one_store w0 (w.heap.size + 1 + 1) 0 (.int .i64 kd)
  replace X0 := Lib.hid (X0.out.within hw (by omega))
  replace X1 := Lib.hid (X1.out.within hw (by omega))
  replace X2 := Lib.hid (show Cells _ (w.heap.size + 1 + 1) [.int .i64 kd, .int .i64 0, .int .i64 0, .int .i64 0, .string ⟨#[]⟩, .int .i64 0, .slice none 0 0, .slice none 0 0] from X2.out.set 0 (by simp) (.int .i64 kd))
  replace D := Lib.hid (D.out.within hw (by omega))
  have hz1 : w0.heap.size ≤ (w0.setCell ⟨w.heap.size + 1 + 1, 0, none⟩ (.int .i64 kd)).heap.size := hw.size
  clear hw x0 y0 f0 x1 y1 f1 x2 y2 f2 x3 y3 f3 x4 y4 f4 x5 y5 f5 x6 y6 f6 x7 y7 f7
  generalize w0.setCell ⟨w.heap.size + 1 + 1, 0, none⟩ (.int .i64 kd) = w1 at D X0 X1 X2 hz1 ⊢
  obtain ⟨x0, x1, x2, x3, x4, x5, x6, x7, _⟩ := X0.out.c8
  obtain ⟨y0, y1, y2, y3, y4, y5, y6, y7, f0, f1, f2, f3, f4, f5, f6, f7⟩ := X2.out.c8
  go_upto_region 4 with fail
  have hw := one_store w1 (w.heap.size + 1 + 1) 1 (.int .i64 fr)
  replace X0 := Lib.hid (X0.out.within hw (by omega))
  replace X1 := Lib.hid (X1.out.within hw (by omega))
  replace X2 := Lib.hid (show Cells _ (w.heap.size + 1 + 1) [.int .i64 kd, .int .i64 fr, .int .i64 0, .int .i64 0, .string ⟨#[]⟩, .int .i64 0, .slice none 0 0, .slice none 0 0] from X2.out.set 1 (by simp) (.int .i64 fr))
  replace D := Lib.hid (D.out.within hw (by omega))
  have hz2 : w1.heap.size ≤ (w1.setCell ⟨w.heap.size + 1 + 1, 1, none⟩ (.int .i64 fr)).heap.size := hw.size
  clear hw x0 y0 f0 x1 y1 f1 x2 y2 f2 x3 y3 f3 x4 y4 f4 x5 y5 f5 x6 y6 f6 x7 y7 f7
  generalize w1.setCell ⟨w.heap.size + 1 + 1, 1, none⟩ (.int .i64 fr) = w2 at D X0 X1 X2 hz2 ⊢
  obtain ⟨x0, x1, x2, x3, x4, x5, x6, x7, _⟩ := X0.out.c8
  obtain ⟨y0, y1, y2, y3, y4, y5, y6, y7, f0, f1, f2, f3, f4, f5, f6, f7⟩ := X2.out.c8
  go_upto_region 5 with fail
  have hw := one_store w2 (w.heap.size + 1 + 1) 2 (.int .i64 tq)
  replace X0 := Lib.hid (X0.out.within hw (by omega))
  replace X1 := Lib.hid (X1.out.within hw (by omega))
  replace X2 := Lib.hid (show Cells _ (w.heap.size + 1 + 1) [.int .i64 kd, .int .i64 fr, .int .i64 tq, .int .i64 0, .string ⟨#[]⟩, .int .i64 0, .slice none 0 0, .slice none 0 0] from X2.out.set 2 (by simp) (.int .i64 tq))
  replace D := Lib.hid (D.out.within hw (by omega))
  have hz3 : w2.heap.size ≤ (w2.setCell ⟨w.heap.size + 1 + 1, 2, none⟩ (.int .i64 tq)).heap.size := hw.size
  clear hw x0 y0 f0 x1 y1 f1 x2 y2 f2 x3 y3 f3 x4 y4 f4 x5 y5 f5 x6 y6 f6 x7 y7 f7
  generalize w2.setCell ⟨w.heap.size + 1 + 1, 2, none⟩ (.int .i64 tq) = w3 at D X0 X1 X2 hz3 ⊢
  obtain ⟨x0, x1, x2, x3, x4, x5, x6, x7, _⟩ := X0.out.c8
  obtain ⟨y0, y1, y2, y3, y4, y5, y6, y7, f0, f1, f2, f3, f4, f5, f6, f7⟩ := X2.out.c8
  go_upto_region 6 with fail
  have hw := one_store w3 (w.heap.size + 1 + 1) 3 (.int .i64 rq)
  replace X0 := Lib.hid (X0.out.within hw (by omega))
  replace X1 := Lib.hid (X1.out.within hw (by omega))
  replace X2 := Lib.hid (show Cells _ (w.heap.size + 1 + 1) [.int .i64 kd, .int .i64 fr, .int .i64 tq, .int .i64 rq, .string ⟨#[]⟩, .int .i64 0, .slice none 0 0, .slice none 0 0] from X2.out.set 3 (by simp) (.int .i64 rq))
  replace D := Lib.hid (D.out.within hw (by omega))
  have hz4 : w3.heap.size ≤ (w3.setCell ⟨w.heap.size + 1 + 1, 3, none⟩ (.int .i64 rq)).heap.size := hw.size
  clear hw x0 y0 f0 x1 y1 f1 x2 y2 f2 x3 y3 f3 x4 y4 f4 x5 y5 f5 x6 y6 f6 x7 y7 f7
  generalize w3.setCell ⟨w.heap.size + 1 + 1, 3, none⟩ (.int .i64 rq) = w4 at D X0 X1 X2 hz4 ⊢
  obtain ⟨x0, x1, x2, x3, x4, x5, x6, x7, _⟩ := X0.out.c8
  obtain ⟨y0, y1, y2, y3, y4, y5, y6, y7, f0, f1, f2, f3, f4, f5, f6, f7⟩ := X2.out.c8
  go_upto_region 7 with fail
  have hw := one_store w4 (w.heap.size + 1 + 1) 4 (.string ky)
  replace X0 := Lib.hid (X0.out.within hw (by omega))
  replace X1 := Lib.hid (X1.out.within hw (by omega))
  replace X2 := Lib.hid (show Cells _ (w.heap.size + 1 + 1) [.int .i64 kd, .int .i64 fr, .int .i64 tq, .int .i64 rq, .string ky, .int .i64 0, .slice none 0 0, .slice none 0 0] from X2.out.set 4 (by simp) (.string ky))
  replace D := Lib.hid (D.out.within hw (by omega))
  have hz5 : w4.heap.size ≤ (w4.setCell ⟨w.heap.size + 1 + 1, 4, none⟩ (.string ky)).heap.size := hw.size
  clear hw x0 y0 f0 x1 y1 f1 x2 y2 f2 x3 y3 f3 x4 y4 f4 x5 y5 f5 x6 y6 f6 x7 y7 f7
  generalize w4.setCell ⟨w.heap.size + 1 + 1, 4, none⟩ (.string ky) = w5 at D X0 X1 X2 hz5 ⊢
  obtain ⟨x0, x1, x2, x3, x4, x5, x6, x7, _⟩ := X0.out.c8
  obtain ⟨y0, y1, y2, y3, y4, y5, y6, y7, f0, f1, f2, f3, f4, f5, f6, f7⟩ := X2.out.c8
  go_upto_region 8 with fail
  have hw := one_store w5 (w.heap.size + 1 + 1) 5 (.int .i64 ow)
  replace X0 := Lib.hid (X0.out.within hw (by omega))
  replace X1 := Lib.hid (X1.out.within hw (by omega))
  replace X2 := Lib.hid (show Cells _ (w.heap.size + 1 + 1) [.int .i64 kd, .int .i64 fr, .int .i64 tq, .int .i64 rq, .string ky, .int .i64 ow, .slice none 0 0, .slice none 0 0] from X2.out.set 5 (by simp) (.int .i64 ow))
  replace D := Lib.hid (D.out.within hw (by omega))
  have hz6 : w5.heap.size ≤ (w5.setCell ⟨w.heap.size + 1 + 1, 5, none⟩ (.int .i64 ow)).heap.size := hw.size
  clear hw x0 y0 f0 x1 y1 f1 x2 y2 f2 x3 y3 f3 x4 y4 f4 x5 y5 f5 x6 y6 f6 x7 y7 f7
  generalize w5.setCell ⟨w.heap.size + 1 + 1, 5, none⟩ (.int .i64 ow) = w6 at D X0 X1 X2 hz6 ⊢
  obtain ⟨x0, x1, x2, x3, x4, x5, x6, x7, _⟩ := X0.out.c8
  obtain ⟨y0, y1, y2, y3, y4, y5, y6, y7, f0, f1, f2, f3, f4, f5, f6, f7⟩ := X2.out.c8
  go_wp2_with fail
  clear x0 y0 f0 x1 y1 f1 x2 y2 f2 x3 y3 f3 x4 y4 f4 x5 y5 f5 x6 y6 f6 x7 y7 f7
  refine (toSet a b cap cap' l s w6 hl hs (H.out.mono D.out) (H'.out.mono D.out)).mono ?_
  rintro e wa ⟨a1, c1, a2, c2, mid, rfl, ho, hs, m1, m2, hb⟩
  have O := Lib.hid ho
  have S := Lib.hid hs
  replace X0 := Lib.hid (X0.out.below hb)
  replace X1 := Lib.hid (X1.out.below hb)
  replace X2 := Lib.hid (X2.out.below hb)
  replace D := Lib.hid (D.out.below hb)
  have hza := hb.size
  clear hb ho hs
  obtain ⟨y0, y1, y2, y3, y4, y5, y6, y7, f0, f1, f2, f3, f4, f5, f6, f7⟩ := X2.out.c8
  go_upto_region 9 with fail
  have hw := (one_store wa (w.heap.size + 1 + 1) 6 (.slice a1 l.length c1)).trans (one_store _ (w.heap.size + 1 + 1) 7 (.slice a2 s.length c2))
  replace X1 := Lib.hid (X1.out.within hw (by omega))
  replace X2 := Lib.hid (show Cells _ (w.heap.size + 1 + 1) [.int .i64 kd, .int .i64 fr, .int .i64 tq, .int .i64 rq, .string ky, .int .i64 ow, .slice a1 l.length c1, .slice a2 s.length c2] from (X2.out.set 6 (by simp) (.slice a1 l.length c1)).set 7 (by simp) (.slice a2 s.length c2))
  replace D := Lib.hid (D.out.within hw (by omega))
  replace O := Lib.hid (O.out.same (hw.same m2 (by omega)))
  replace S := Lib.hid (S.out.same (hw.same (Nat.le_refl _) (by omega)))
  have hzb : wa.heap.size = ((wa.setCell ⟨w.heap.size + 1 + 1, 6, none⟩ (.slice a1 l.length c1)).setCell ⟨w.heap.size + 1 + 1, 7, none⟩ (.slice a2 s.length c2)).heap.size := by simp [World.setCell]
  rw [hzb] at S m2 hza
  clear hw hzb y0 f0 y1 f1 y2 f2 y3 f3 y4 f4 y5 f5 y6 f6 y7 f7
  generalize (wa.setCell ⟨w.heap.size + 1 + 1, 6, none⟩ (.slice a1 l.length c1)).setCell ⟨w.heap.size + 1 + 1, 7, none⟩ (.slice a2 s.length c2) = wb at D X1 X2 O S m2 hza ⊢
  obtain ⟨y0, y1, y2, y3, y4, y5, y6, y7, _⟩ := X2.out.c8
  obtain ⟨x0, x1, x2, x3, x4, x5, x6, x7, f0, f1, f2, f3, f4, f5, f6, f7⟩ := X1.out.c8
  go_wp2
  have hw := ((((((((one_store wb (w.heap.size + 1) 0 (.int .i64 kd)).trans (one_store _ (w.heap.size + 1) 1 (.int .i64 fr))).trans (one_store _ (w.heap.size + 1) 2 (.int .i64 tq))).trans (one_store _ (w.heap.size + 1) 3 (.int .i64 rq))).trans (one_store _ (w.heap.size + 1) 4 (.string ky))).trans (one_store _ (w.heap.size + 1) 5 (.int .i64 ow))).trans (one_store _ (w.heap.size + 1) 6 (.slice a1 l.length c1))).trans (one_store _ (w.heap.size + 1) 7 (.slice a2 s.length c2)))
  have XA := show Cells _ (w.heap.size + 1) [.int .i64 kd, .int .i64 fr, .int .i64 tq, .int .i64 rq, .string ky, .int .i64 ow, .slice a1 l.length c1, .slice a2 s.length c2] from ((((((((X1.out.set 0 (by simp) (.int .i64 kd)).set 1 (by simp) (.int .i64 fr)).set 2 (by simp) (.int .i64 tq)).set 3 (by simp) (.int .i64 rq)).set 4 (by simp) (.string ky)).set 5 (by simp) (.int .i64 ow)).set 6 (by simp) (.slice a1 l.length c1)).set 7 (by simp) (.slice a2 s.length c2))
  obtain ⟨q0, q1, q2, q3, q4, q5, q6, q7, _⟩ := XA.c8
  refine bodyPost_ret (v := .agg #[.int .i64 kd, .int .i64 fr, .int .i64 tq, .int .i64 rq, .string ky, .int .i64 ow, .slice a1 l.length c1, .slice a2 s.length c2]) (by simp [results, Try.results9, go_sem, q0, q1, q2, q3, q4, q5, q6, q7]) rfl ?_
  refine ⟨a1, c1, a2, c2, mid, rfl, ?_, ?_, by omega, Nat.le_trans m2 hw.size, D.out.within hw (by omega)⟩
  · exact (O.out.same (hw.same m2 (by omega))).wide (by omega) (Nat.le_refl _)
  · exact (S.out.same (hw.same (Nat.le_refl _) (by omega))).wide (Nat.le_refl _) hw.size
set_option maxRecDepth 100000 in
set_option maxHeartbeats 400000 in
theorem eqMsg (kd fr tq rq : Int) (ky : ByteArray) (ow : Int) (a a' b b' : Option Addr) (cap1 cap2 cap3 cap4 : Nat) (l : List (Int × Int)) (s : List Sib) (w : World) (hl : l.length ≤ maxLen) (hs : s.length ≤ maxLen) (h : MarksAt w a l) (h' : MarksAt w a' l) (k : SibsAt w b s) (k' : SibsAt w b' s) :
    Calls Try.prog 11 #[.agg #[.int .i64 kd, .int .i64 fr, .int .i64 tq, .int .i64 rq, .string ky, .int .i64 ow, .slice a l.length cap1, .slice b s.length cap2], .agg #[.int .i64 kd, .int .i64 fr, .int .i64 tq, .int .i64 rq, .string ky, .int .i64 ow, .slice a' l.length cap3, .slice b' s.length cap4]] w fun e w' => e = .returned (.bool true) ∧ Below w.heap.size w w' := by
  have H := Lib.hid h
  have H' := Lib.hid h'
  have K := Lib.hid k
  have K' := Lib.hid k'
  clear h h' k k'
  have hb0 := Lib.hid (show Below w.heap.size w _ from Base.below (step_alloc w (.cells #[.int .i64 kd, .int .i64 fr, .int .i64 tq, .int .i64 rq, .string ky, .int .i64 ow, .slice a l.length cap1, .slice b s.length cap2] 35)) (step_alloc _ (.cells #[.int .i64 kd, .int .i64 fr, .int .i64 tq, .int .i64 rq, .string ky, .int .i64 ow, .slice a' l.length cap3, .slice b' s.length cap4] 35)))
  have X0 := Lib.hid ((Cells.new w #[.int .i64 kd, .int .i64 fr, .int .i64 tq, .int .i64 rq, .string ky, .int .i64 ow, .slice a l.length cap1, .slice b s.length cap2] 35).below (step_alloc _ (.cells #[.int .i64 kd, .int .i64 fr, .int .i64 tq, .int .i64 rq, .string ky, .int .i64 ow, .slice a' l.length cap3, .slice b' s.length cap4] 35)))
  have X1 := Lib.hid (Cells.new (w.alloc (.cells #[.int .i64 kd, .int .i64 fr, .int .i64 tq, .int .i64 rq, .string ky, .int .i64 ow, .slice a l.length cap1, .slice b s.length cap2] 35)) #[.int .i64 kd, .int .i64 fr, .int .i64 tq, .int .i64 rq, .string ky, .int .i64 ow, .slice a' l.length cap3, .slice b' s.length cap4] 35)
  simp only [World.size_alloc, List.toList_toArray] at X0 X1
  go_enter Try.func11, Try.ntmps11
  go_wp2_with fail
  refine (eqSet a a' b b' cap1 cap2 cap3 cap4 l s _ hl hs (H.out.mono hb0.out) (H'.out.mono hb0.out) (K.out.mono hb0.out) (K'.out.mono hb0.out)).mono ?_
  rintro e w1 ⟨rfl, hb⟩
  replace X0 := Lib.hid (X0.out.below hb)
  replace X1 := Lib.hid (X1.out.below hb)
  have HB := Lib.hid (hb0.out.trans (hb.mono (by simp; omega)))
  clear hb
  go_wp2
  go_ret
  exact ⟨rfl, HB.out⟩
set_option maxRecDepth 100000 in
set_option maxHeartbeats 400000 in
theorem eqMsgOut (kd fr tq rq : Int) (ky : ByteArray) (ow : Int) (a a' b b' : Option Addr) (cap1 cap2 cap3 cap4 : Nat) (l : List (Int × Int)) (s : List Sib) (c : Int) (w : World) (hl : l.length ≤ maxLen) (hs : s.length ≤ maxLen) (h : MarksAt w a l) (h' : MarksAt w a' l) (k : SibsAt w b s) (k' : SibsAt w b' s) :
    Calls Try.prog 16 #[.agg #[.int .i64 kd, .int .i64 fr, .int .i64 tq, .int .i64 rq, .string ky, .int .i64 ow, .slice a l.length cap1, .slice b s.length cap2, .int .i64 c], .agg #[.int .i64 kd, .int .i64 fr, .int .i64 tq, .int .i64 rq, .string ky, .int .i64 ow, .slice a' l.length cap3, .slice b' s.length cap4, .int .i64 c]] w fun e w' => e = .returned (.bool true) ∧ Below w.heap.size w w' := by
  have H := Lib.hid h
  have H' := Lib.hid h'
  have K := Lib.hid k
  have K' := Lib.hid k'
  clear h h' k k'
  have hb0 := Lib.hid (show Below w.heap.size w _ from Base.below (step_alloc w (.cells #[.int .i64 kd, .int .i64 fr, .int .i64 tq, .int .i64 rq, .string ky, .int .i64 ow, .slice a l.length cap1, .slice b s.length cap2, .int .i64 c] 41)) (step_alloc _ (.cells #[.int .i64 kd, .int .i64 fr, .int .i64 tq, .int .i64 rq, .string ky, .int .i64 ow, .slice a' l.length cap3, .slice b' s.length cap4, .int .i64 c] 41)))
  have X0 := Lib.hid ((Cells.new w #[.int .i64 kd, .int .i64 fr, .int .i64 tq, .int .i64 rq, .string ky, .int .i64 ow, .slice a l.length cap1, .slice b s.length cap2, .int .i64 c] 41).below (step_alloc _ (.cells #[.int .i64 kd, .int .i64 fr, .int .i64 tq, .int .i64 rq, .string ky, .int .i64 ow, .slice a' l.length cap3, .slice b' s.length cap4, .int .i64 c] 41)))
  have X1 := Lib.hid (Cells.new (w.alloc (.cells #[.int .i64 kd, .int .i64 fr, .int .i64 tq, .int .i64 rq, .string ky, .int .i64 ow, .slice a l.length cap1, .slice b s.length cap2, .int .i64 c] 41)) #[.int .i64 kd, .int .i64 fr, .int .i64 tq, .int .i64 rq, .string ky, .int .i64 ow, .slice a' l.length cap3, .slice b' s.length cap4, .int .i64 c] 41)
  simp only [World.size_alloc, List.toList_toArray] at X0 X1
  go_enter Try.func16, Try.ntmps16
  go_wp2_with fail
  refine (eqMsg kd fr tq rq ky ow a a' b b' cap1 cap2 cap3 cap4 l s _ hl hs (H.out.mono hb0.out) (H'.out.mono hb0.out) (K.out.mono hb0.out) (K'.out.mono hb0.out)).mono ?_
  rintro e w1 ⟨rfl, hb⟩
  replace X0 := Lib.hid (X0.out.below hb)
  replace X1 := Lib.hid (X1.out.below hb)
  have HB := Lib.hid (hb0.out.trans (hb.mono (by simp; omega)))
  clear hb
  obtain ⟨x0, x1, x2, x3, x4, x5, x6, x7, x8, _⟩ := X0.out.c9
  obtain ⟨y0, y1, y2, y3, y4, y5, y6, y7, y8, _⟩ := X1.out.c9
  go_wp2
  go_ret
  exact ⟨rfl, HB.out⟩
set_option maxRecDepth 100000 in
set_option maxHeartbeats 400000 in
theorem markMsg (z : Int) (k : Nat) (hz : z = (k : Int)) (lo hi lo1 hi1 lo2 hi2 : Nat) (kd fr tq rq : Int) (ky : ByteArray) (ow : Int) (a b : Option Addr) (cap cap' : Nat) (l : List (Int × Int)) (s : List Sib) (w : World) (hl : l.length ≤ 1048576) (hs : s.length ≤ 1048576) (hk0 : 0 < k) (hk1 : k ≤ 90000000) (h1 : lo ≤ lo1) (h2 : hi1 ≤ hi) (h4 : lo ≤ lo2) (h5 : hi2 ≤ hi) (h3 : hi ≤ w.heap.size) (hd : hi1 ≤ lo2 ∨ hi2 ≤ lo1)
    (h : OwnIn w lo1 hi1 a l) (h' : SOwnIn w lo2 hi2 b s) :
    Calls Try.prog 24 #[.agg #[.int .i64 kd, .int .i64 fr, .int .i64 tq, .int .i64 rq, .string ky, .int .i64 ow, .slice a l.length cap, .slice b s.length cap'], .int .i64 z] w (MarkedSet2 w lo hi lo1 hi1 lo2 hi2 a b k l.length s.length) := by
  subst hz
  have hb0 := Lib.hid (step_alloc w (.cells #[.int .i64 kd, .int .i64 fr, .int .i64 tq, .int .i64 rq, .string ky, .int .i64 ow, .slice a l.length cap, .slice b s.length cap'] 35))
  have H := Lib.hid (h.same (Same.of_below hb0.out (by omega)))
  have H' := Lib.hid (h'.same (Same.of_below hb0.out (by omega)))
  clear h h'
  go_enter Try.func24, Try.ntmps24
  go_wp2_with fail
  refine (markSet2 lo hi lo1 hi1 lo2 hi2 a b cap cap' l s k _ hl hs hk0 hk1 h1 h2 h4 h5 (by simp; omega) hd H.out H'.out).mono ?_
  rintro e w1 ⟨rfl, ho, hs1, hw⟩
  have O := Lib.hid ho
  have O1 := Lib.hid hs1
  have W1 := Lib.hid hw
  clear ho hs1 hw
  obtain ⟨r, hr⟩ : ∃ r : Nat, r = k + 2 * l.length + 4 * s.length := ⟨_, rfl⟩
  have HR := Lib.hid hr
  rw [← hr]
  clear hr
  go_wp2
  go_ret
  refine ⟨by rw [← HR.out]; rfl, O.out, O1.out, ?_⟩
  have hh : Within lo hi w (w.alloc (.cells #[.int .i64 kd, .int .i64 fr, .int .i64 tq, .int .i64 rq, .string ky, .int .i64 ow, .slice a l.length cap, .slice b s.length cap'] 35)) := ⟨rfl, rfl, rfl, by simp, fun j hj _ => Below.heap_alloc _ _ _ hj⟩
  exact hh.trans W1.out
set_option maxRecDepth 100000 in
set_option maxHeartbeats 400000 in
theorem markMsgOut (z : Int) (k : Nat) (hz : z = (k : Int)) (lo hi lo1 hi1 lo2 hi2 : Nat) (kd fr tq rq : Int) (ky : ByteArray) (ow : Int) (a b : Option Addr) (cap cap' : Nat) (l : List (Int × Int)) (s : List Sib) (c : Int) (w : World) (hl : l.length ≤ 1048576) (hs : s.length ≤ 1048576) (hk0 : 0 < k) (hk1 : k ≤ 90000000) (h1 : lo ≤ lo1) (h2 : hi1 ≤ hi) (h4 : lo ≤ lo2) (h5 : hi2 ≤ hi) (h3 : hi ≤ w.heap.size) (hd : hi1 ≤ lo2 ∨ hi2 ≤ lo1)
    (h : OwnIn w lo1 hi1 a l) (h' : SOwnIn w lo2 hi2 b s) :
    Calls Try.prog 17 #[.agg #[.int .i64 kd, .int .i64 fr, .int .i64 tq, .int .i64 rq, .string ky, .int .i64 ow, .slice a l.length cap, .slice b s.length cap', .int .i64 c], .int .i64 z] w (MarkedSet2 w lo hi lo1 hi1 lo2 hi2 a b k l.length s.length) := by
  subst hz
  have hb0 := Lib.hid (step_alloc w (.cells #[.int .i64 kd, .int .i64 fr, .int .i64 tq, .int .i64 rq, .string ky, .int .i64 ow, .slice a l.length cap, .slice b s.length cap', .int .i64 c] 41))
  have H := Lib.hid (h.same (Same.of_below hb0.out (by omega)))
  have H' := Lib.hid (h'.same (Same.of_below hb0.out (by omega)))
  clear h h'
  go_enter Try.func17, Try.ntmps17
  go_wp2_with fail
  refine (markMsg (k : Int) k rfl lo hi lo1 hi1 lo2 hi2 kd fr tq rq ky ow a b cap cap' l s _ hl hs hk0 hk1 h1 h2 h4 h5 (by simp; omega) hd H.out H'.out).mono ?_
  rintro e w1 ⟨rfl, ho, hs1, hw⟩
  have O := Lib.hid ho
  have O1 := Lib.hid hs1
  have W1 := Lib.hid hw
  clear ho hs1 hw
  obtain ⟨r, hr⟩ : ∃ r : Nat, r = k + 2 * l.length + 4 * s.length := ⟨_, rfl⟩
  have HR := Lib.hid hr
  rw [← hr]
  clear hr
  go_wp2
  go_ret
  refine ⟨by rw [← HR.out]; rfl, O.out, O1.out, ?_⟩
  have hh : Within lo hi w (w.alloc (.cells #[.int .i64 kd, .int .i64 fr, .int .i64 tq, .int .i64 rq, .string ky, .int .i64 ow, .slice a l.length cap, .slice b s.length cap', .int .i64 c] 41)) := ⟨rfl, rfl, rfl, by simp, fun j hj _ => Below.heap_alloc _ _ _ hj⟩
  exact hh.trans W1.out
set_option maxRecDepth 100000 in
set_option maxHeartbeats 400000 in
theorem heldMsg (z : Int) (k : Nat) (hz : z = (k : Int)) (kd fr tq rq : Int) (ky : ByteArray) (ow : Int) (a b : Option Addr) (cap cap' : Nat) (n m : Nat) (w : World) (hn : n ≤ 1048576) (hm : m ≤ 1048576) (hk0 : 0 < k) (hk1 : k ≤ 90000000)
    (h : MarksAt w a (markL (k : Int) n)) (h' : SibsAt w b (sibL (k + 2 * n) m)) :
    Calls Try.prog 44 #[.agg #[.int .i64 kd, .int .i64 fr, .int .i64 tq, .int .i64 rq, .string ky, .int .i64 ow, .slice a n cap, .slice b m cap'], .int .i64 z] w fun e w' => e = .returned (.int .i64 ((k + 2 * n + 4 * m : Nat) : Int)) ∧ Below w.heap.size w w' := by
  subst hz
  have hb0 := Lib.hid (step_alloc w (.cells #[.int .i64 kd, .int .i64 fr, .int .i64 tq, .int .i64 rq, .string ky, .int .i64 ow, .slice a n cap, .slice b m cap'] 35))
  have H := Lib.hid (h.mono hb0.out)
  have H' := Lib.hid (SibsAt.mono h' hb0.out)
  clear h h'
  obtain ⟨r, hr⟩ : ∃ r : Nat, r = k + 2 * n + 4 * m := ⟨_, rfl⟩
  have hr3 : ¬ (r : Int) < 0 := by omega
  rw [← hr]
  go_enter Try.func44, Try.ntmps44
  go_wp2_with fail
  refine (heldSet a b cap cap' n m k _ hn hm hk0 hk1 H.out H'.out).mono ?_
  rintro e w1 ⟨rfl, hb⟩
  rw [← hr]
  clear hr
  have HB := Lib.hid (hb0.out.trans (hb.mono (by simp)))
  clear hb
  go_wp2
  go_ret
  exact ⟨rfl, HB.out⟩
set_option maxRecDepth 100000 in
set_option maxHeartbeats 400000 in
theorem heldMsgOut (z : Int) (k : Nat) (hz : z = (k : Int)) (kd fr tq rq : Int) (ky : ByteArray) (ow : Int) (a b : Option Addr) (cap cap' : Nat) (n m : Nat) (c : Int) (w : World) (hn : n ≤ 1048576) (hm : m ≤ 1048576) (hk0 : 0 < k) (hk1 : k ≤ 90000000)
    (h : MarksAt w a (markL (k : Int) n)) (h' : SibsAt w b (sibL (k + 2 * n) m)) :
    Calls Try.prog 18 #[.agg #[.int .i64 kd, .int .i64 fr, .int .i64 tq, .int .i64 rq, .string ky, .int .i64 ow, .slice a n cap, .slice b m cap', .int .i64 c], .int .i64 z] w fun e w' => e = .returned (.int .i64 ((k + 2 * n + 4 * m : Nat) : Int)) ∧ Below w.heap.size w w' := by
  subst hz
  have hb0 := Lib.hid (step_alloc w (.cells #[.int .i64 kd, .int .i64 fr, .int .i64 tq, .int .i64 rq, .string ky, .int .i64 ow, .slice a n cap, .slice b m cap', .int .i64 c] 41))
  have H := Lib.hid (h.mono hb0.out)
  have H' := Lib.hid (SibsAt.mono h' hb0.out)
  clear h h'
  obtain ⟨r, hr⟩ : ∃ r : Nat, r = k + 2 * n + 4 * m := ⟨_, rfl⟩
  have hr3 : ¬ (r : Int) < 0 := by omega
  rw [← hr]
  go_enter Try.func18, Try.ntmps18
  go_wp2_with fail
  refine (heldMsg (k : Int) k rfl kd fr tq rq ky ow a b cap cap' n m _ hn hm hk0 hk1 H.out H'.out).mono ?_
  rintro e w1 ⟨rfl, hb⟩
  rw [← hr]
  clear hr
  have HB := Lib.hid (hb0.out.trans (hb.mono (by simp)))
  clear hb
  go_wp2
  go_ret
  exact ⟨rfl, HB.out⟩
end Go.Proofs.Ytloenigleamcoaa.Sb
