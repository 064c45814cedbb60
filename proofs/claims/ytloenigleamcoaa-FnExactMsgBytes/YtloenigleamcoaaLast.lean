/- The last parts of a law: MsgOpen, MsgLaw0, MsgVar, MsgMath, MsgBytesMath, MsgRightS, MsgBytesS, MsgI, MsgBytesI, MsgBytesLaw. No condition of its own. -/
import Derived.Test.YtloenigleamcoaaSetOpen
import Derived.Test.YtloenigleamcoaaCells9
import Derived.Test.YtloenigleamcoaaSetOut2
import Derived.Test.YtloenigleamcoaaSibMath
import Derived.Test.YtloenigleamcoaaSeenS
import Derived.Test.YtloenigleamcoaaSeenI
import Derived.Test.YtloenigleamcoaaSeenMath
import Derived.Test.YtloenigleamcoaaName
import Derived.Test.YtloenigleamcoaaSetBytesMath
import Derived.Test.YtloenigleamcoaaSeal
import Derived.Test.YtloenigleamcoaaSetRightS
import Derived.Test.YtloenigleamcoaaSetBytesS
import Derived.Test.YtloenigleamcoaaText
import Derived.Deep.RegionHeld3
import Derived.Test.YtloenigleamcoaaSetRightI
import Derived.Handy
import Derived.Test.YtloenigleamcoaaSetBytesI
set_option linter.unusedSimpArgs false
set_option linter.unusedVariables false
namespace Go.Proofs.Ytloenigleamcoaa.Sb
open Go.RowKit Go.WideShapes Go.ChangeShapes Go.Joins Go.Proofs.Ytloenigleamcoaa.Mk Go.Proofs.Ytloenigleamcoaa.Rw

def CameMsg (w : World) (kd fr tq rq : Int) (ky : ByteArray) (ow : Int) (a b : Option Addr) (l : List (Int × Int)) (s : List Sib) : Prop := CameSet w a b l s ∧ (Lit.int .i64 kd).wf = true ∧ (Lit.int .i64 fr).wf = true ∧ (Lit.int .i64 tq).wf = true ∧ (Lit.int .i64 rq).wf = true ∧ ky.size ≤ maxLen ∧ (Lit.int .i64 ow).wf = true
theorem array8 {α : Type} {cs : Array α} (h : cs.size = 8) : ∃ c0 c1 c2 c3 c4 c5 c6 c7, cs = #[c0, c1, c2, c3, c4, c5, c6, c7] := by
  obtain ⟨l⟩ := cs
  match l, h with
  | [c0, c1, c2, c3, c4, c5, c6, c7], _ => exact ⟨c0, c1, c2, c3, c4, c5, c6, c7, rfl⟩
theorem trod_struct7 {H : Type} {enc : TypeId × Value → H} {P : Program} {w : World} {base : Nat} {spare : Nat → Bool} {held : Bool} {t : TypeId} {f0 f1 f2 f3 f4 f5 f6 : Field} {fuel : Nat} {cs : List Value} {x : DataW H × List MemPlace} (ht : P.underlying t = some (.struct #[f0, f1, f2, f3, f4, f5, f6])) (h : DataW.trod enc P w base spare held fuel t cs = some x) :
    ∃ y0 y1 y2 y3 y4 y5 y6 n, DataW.trod enc P w base spare held n f0.type ((cs.drop f0.offset).take (P.cellsOf f0.type)) = some y0 ∧ DataW.trod enc P w base spare held n f1.type ((cs.drop f1.offset).take (P.cellsOf f1.type)) = some y1 ∧ DataW.trod enc P w base spare held n f2.type ((cs.drop f2.offset).take (P.cellsOf f2.type)) = some y2 ∧ DataW.trod enc P w base spare held n f3.type ((cs.drop f3.offset).take (P.cellsOf f3.type)) = some y3 ∧
      DataW.trod enc P w base spare held n f4.type ((cs.drop f4.offset).take (P.cellsOf f4.type)) = some y4 ∧ DataW.trod enc P w base spare held n f5.type ((cs.drop f5.offset).take (P.cellsOf f5.type)) = some y5 ∧ DataW.trod enc P w base spare held n f6.type ((cs.drop f6.offset).take (P.cellsOf f6.type)) = some y6 := by
  obtain ⟨xs, n, _, rfl, hl, hlen, hf⟩ := DataW.trod_struct ht h
  match xs, hlen with
  | [y0, y1, y2, y3, y4, y5, y6], _ => exact ⟨y0, y1, y2, y3, y4, y5, y6, n, by simpa using hf 0 f0 rfl, by simpa using hf 1 f1 rfl, by simpa using hf 2 f2 rfl, by simpa using hf 3 f3 rfl, by simpa using hf 4 f4 rfl, by simpa using hf 5 f5 rfl, by simpa using hf 6 f6 rfl⟩
section
variable {H : Type} {enc : TypeId × Value → H} {W : World}
set_option maxRecDepth 100000 in
theorem open_set_cells {n : Nat} {v0 v1 : Value} {y : DataW H × List MemPlace} (h : DataW.trod enc Try.prog W 0 (fun _ => true) true n 25 [v0, v1] = some y) :
    ∃ a cap l b cap' s, v0 = .slice a (List.length l) cap ∧ v1 = .slice b (List.length s) cap' ∧ CameSet W a b l s := by
  obtain ⟨y0, y1, k, _, _, t0, t1⟩ := trod_struct2 Try.underlying25 h
  have e1 : Program.cellsOf Try.prog 22 = 1 := by kernel_rfl
  have e2 : Program.cellsOf Try.prog 23 = 1 := by kernel_rfl
  simp only [e1, e2, List.drop_zero, List.drop_succ_cons, List.take_succ_cons, List.take_zero] at t0 t1
  obtain ⟨a, cap, l, rfl, hm⟩ := open_marks_cell t0
  obtain ⟨b, cap', s, rfl, hs⟩ := open_sibs_cell t1
  exact ⟨a, cap, l, b, cap', s, rfl, rfl, hm, hs⟩
set_option maxRecDepth 100000 in
theorem open_msg_cells {n : Nat} {c0 c1 c2 c3 c4 c5 c6 c7 : Value} {y : DataW H × List MemPlace} (h : DataW.trod enc Try.prog W 0 (fun _ => true) true n 27 [c0, c1, c2, c3, c4, c5, c6, c7] = some y) :
    ∃ kd fr tq rq ky ow a cap l b cap' s, [c0, c1, c2, c3, c4, c5, c6, c7] = [.int .i64 kd, .int .i64 fr, .int .i64 tq, .int .i64 rq, .string ky, .int .i64 ow, .slice a (List.length l) cap, .slice b (List.length s) cap'] ∧ CameMsg W kd fr tq rq ky ow a b l s := by
  obtain ⟨y0, y1, y2, y3, y4, y5, y6, k, t0, t1, t2, t3, t4, t5, t6⟩ := trod_struct7 Try.underlying27 h
  have e1 : Program.cellsOf Try.prog 2 = 1 := by kernel_rfl
  have e2 : Program.cellsOf Try.prog 9 = 1 := by kernel_rfl
  have e3 : Program.cellsOf Try.prog 25 = 2 := by kernel_rfl
  simp only [e1, e2, e3, List.drop_zero, List.drop_succ_cons, List.take_succ_cons, List.take_zero] at t0 t1 t2 t3 t4 t5 t6
  obtain ⟨i0, q0, _, w0⟩ := DataW.trod_int Try.underlying2 t0
  obtain ⟨i1, q1, _, w1⟩ := DataW.trod_int Try.underlying2 t1
  obtain ⟨i2, q2, _, w2⟩ := DataW.trod_int Try.underlying2 t2
  obtain ⟨i3, q3, _, w3⟩ := DataW.trod_int Try.underlying2 t3
  obtain ⟨d, q4, _, w4⟩ := DataW.trod_string Try.underlying9 t4
  obtain ⟨i5, q5, _, w5⟩ := DataW.trod_int Try.underlying2 t5
  obtain ⟨a, cap, l, b, cap', s, q6, q7, hm⟩ := open_set_cells t6
  simp only [List.cons.injEq, and_true] at q0 q1 q2 q3 q4 q5
  subst q0 q1 q2 q3 q4 q5 q6 q7
  exact ⟨i0, i1, i2, i3, d, i5, a, cap, l, b, cap', s, rfl, hm, w0, w1, w2, w3, w4, w5⟩
set_option maxRecDepth 100000 in
theorem open_msg {r : Reach} {b0 : Nat} {v : Value} {d : DataW H} {p : List MemPlace}
    (hv : Value.okWide Try.prog W r b0 27 v) (h : DataW.Trod enc Try.prog W 0 (fun _ => true) true 27 v d p) :
    ∃ kd fr tq rq ky ow a cap l b cap' s, v = .agg #[.int .i64 kd, .int .i64 fr, .int .i64 tq, .int .i64 rq, .string ky, .int .i64 ow, .slice a (List.length l) cap, .slice b (List.length s) cap'] ∧ CameMsg W kd fr tq rq ky ow a b l s := by
  obtain ⟨cs, rfl, hsz⟩ := okWide_struct Try.underlying27 hv
  obtain ⟨c0, c1, c2, c3, c4, c5, c6, c7, rfl⟩ := array8 (hsz.trans (by kernel_rfl))
  obtain ⟨fuel, hf⟩ := h
  obtain ⟨kd, fr, tq, rq, ky, ow, a, cap, l, b, cap', s, he, hc⟩ := open_msg_cells (show DataW.trod enc Try.prog W 0 (fun _ => true) true fuel 27 [c0, c1, c2, c3, c4, c5, c6, c7] = some (d, p) from hf)
  simp only [List.cons.injEq, and_true] at he
  obtain ⟨rfl, rfl, rfl, rfl, rfl, rfl, rfl, rfl⟩ := he
  exact ⟨kd, fr, tq, rq, ky, ow, a, cap, l, b, cap', s, rfl, hc⟩
end
end Go.Proofs.Ytloenigleamcoaa.Sb

set_option linter.unusedSimpArgs false
set_option linter.unusedVariables false
namespace Go.Proofs.Ytloenigleamcoaa.Sb
open Go.RowKit Go.Proofs.Ytloenigleamcoaa.Mk Go.Proofs.Ytloenigleamcoaa.Rw

/-- what szMsg leaves -/
def SizedMsg (w : World) (left : Int) (k n m : Nat) (e : Ending) (w' : World) : Prop :=
  ∃ r : Int, e = .returned (.int .i64 r) ∧ (r = -1 ∨ (0 ≤ r ∧ r ≤ left ∧ (k : Int) ≤ left ∧ (n : Int) ≤ left ∧ (m : Int) ≤ left)) ∧ Below w.heap.size w w'
set_option maxRecDepth 100000 in
set_option maxHeartbeats 400000 in
theorem szMsg (kd fr tq rq : Int) (ky : ByteArray) (ow : Int) (a b : Option Addr) (cap cap' : Nat) (l : List (Int × Int)) (s : List Sib) (left : Int) (w : World) (hl : l.length ≤ maxLen) (hs : s.length ≤ maxLen) (hd : SmallData s) (hy : ky.size ≤ maxLen) (h0 : 0 ≤ left) (h1 : left ≤ 1048576) (h' : SibsAt w b s) :
    Calls Try.prog 7 #[.agg #[.int .i64 kd, .int .i64 fr, .int .i64 tq, .int .i64 rq, .string ky, .int .i64 ow, .slice a l.length cap, .slice b s.length cap'], .int .i64 left] w (SizedMsg w left ky.size l.length s.length) := by
  have H' := Lib.hid h'
  have HS := Lib.hid hd
  have hb0 := Lib.hid (step_alloc w (.cells #[.int .i64 kd, .int .i64 fr, .int .i64 tq, .int .i64 rq, .string ky, .int .i64 ow, .slice a l.length cap, .slice b s.length cap'] 27))
  clear h' hd
  unfold maxLen at hy
  by_cases hlt : left - (ky.size : Int) < 0
  · go_enter Try.func7, Try.ntmps7
    go_wp2
    go_ret
    exact ⟨_, rfl, .inl rfl, hb0.out⟩
  · go_enter Try.func7, Try.ntmps7
    go_wp2_with fail
    refine (szSet a b cap cap' l s (left - (ky.size : Int)) _ hl hs HS.out (by omega) (by omega) (H'.out.mono hb0.out)).mono ?_
    rintro e w1 ⟨r, rfl, hr, hb⟩
    have HB := Lib.hid (hb0.out.trans (hb.mono (by simp)))
    clear hb
    rcases hr with rfl | ⟨r0, r1, r2, r3⟩
    · go_wp2
      go_ret
      exact ⟨_, rfl, .inl rfl, HB.out⟩
    · have hn2 : ¬ r < 0 := by omega
      go_wp2
      go_ret
      exact ⟨_, rfl, .inr ⟨r0, by omega, by omega, by omega, by omega⟩, HB.out⟩
/-- what a call that makes a Msg leaves: the two rows lie apart -/
def GivesMsg (w : World) (kd fr tq rq : Int) (ky : ByteArray) (ow : Int) (l : List (Int × Int)) (s : List Sib) (e : Ending) (w' : World) : Prop :=
  ∃ a cap b cap' mid, e = .returned (.agg #[.int .i64 kd, .int .i64 fr, .int .i64 tq, .int .i64 rq, .string ky, .int .i64 ow, .slice a l.length cap, .slice b s.length cap']) ∧ OwnIn w' w.heap.size mid a l ∧ SOwnIn w' mid w'.heap.size b s ∧ w.heap.size ≤ mid ∧ mid ≤ w'.heap.size ∧ Below w.heap.size w w'
set_option maxRecDepth 100000 in
set_option maxHeartbeats 400000 in
theorem toMsg (kd fr tq rq : Int) (ky : ByteArray) (ow : Int) (a b : Option Addr) (cap cap' : Nat) (l : List (Int × Int)) (s : List Sib) (w : World) (hl : l.length ≤ 1048576) (hs : s.length ≤ 1048576) (h : MarksAt w a l) (h' : SibsAt w b s) :
    Calls Try.prog 9 #[.agg #[.int .i64 kd, .int .i64 fr, .int .i64 tq, .int .i64 rq, .string ky, .int .i64 ow, .slice a l.length cap, .slice b s.length cap']] w (GivesMsg w kd fr tq rq ky ow l s) := by
  have H := Lib.hid h
  have H' := Lib.hid h'
  clear h h'
  have D := Lib.hid (show Base w _ from Base.below (Base.below (step_alloc w (.cells #[.int .i64 kd, .int .i64 fr, .int .i64 tq, .int .i64 rq, .string ky, .int .i64 ow, .slice a l.length cap, .slice b s.length cap'] 27)) (step_alloc _ (.cells #[.int .i64 0, .int .i64 0, .int .i64 0, .int .i64 0, .string ⟨#[]⟩, .int .i64 0, .slice none 0 0, .slice none 0 0] 35))) (step_alloc _ (.cells #[.int .i64 0, .int .i64 0, .int .i64 0, .int .i64 0, .string ⟨#[]⟩, .int .i64 0, .slice none 0 0, .slice none 0 0] 35)))
  have X0 := Lib.hid (((Cells.new w #[.int .i64 kd, .int .i64 fr, .int .i64 tq, .int .i64 rq, .string ky, .int .i64 ow, .slice a l.length cap, .slice b s.length cap'] 27).below (step_alloc _ (.cells #[.int .i64 0, .int .i64 0, .int .i64 0, .int .i64 0, .string ⟨#[]⟩, .int .i64 0, .slice none 0 0, .slice none 0 0] 35))).below (step_alloc _ (.cells #[.int .i64 0, .int .i64 0, .int .i64 0, .int .i64 0, .string ⟨#[]⟩, .int .i64 0, .slice none 0 0, .slice none 0 0] 35)))
  have X1 := Lib.hid ((Cells.new (w.alloc (.cells #[.int .i64 kd, .int .i64 fr, .int .i64 tq, .int .i64 rq, .string ky, .int .i64 ow, .slice a l.length cap, .slice b s.length cap'] 27)) #[.int .i64 0, .int .i64 0, .int .i64 0, .int .i64 0, .string ⟨#[]⟩, .int .i64 0, .slice none 0 0, .slice none 0 0] 35).below (step_alloc _ (.cells #[.int .i64 0, .int .i64 0, .int .i64 0, .int .i64 0, .string ⟨#[]⟩, .int .i64 0, .slice none 0 0, .slice none 0 0] 35)))
  have X2 := Lib.hid (Cells.new ((w.alloc (.cells #[.int .i64 kd, .int .i64 fr, .int .i64 tq, .int .i64 rq, .string ky, .int .i64 ow, .slice a l.length cap, .slice b s.length cap'] 27)).alloc (.cells #[.int .i64 0, .int .i64 0, .int .i64 0, .int .i64 0, .string ⟨#[]⟩, .int .i64 0, .slice none 0 0, .slice none 0 0] 35)) #[.int .i64 0, .int .i64 0, .int .i64 0, .int .i64 0, .string ⟨#[]⟩, .int .i64 0, .slice none 0 0, .slice none 0 0] 35)
  simp only [World.size_alloc, List.toList_toArray] at X0 X1 X2
  have hz0 : w.heap.size + 3 = (((w.alloc (.cells #[.int .i64 kd, .int .i64 fr, .int .i64 tq, .int .i64 rq, .string ky, .int .i64 ow, .slice a l.length cap, .slice b s.length cap'] 27)).alloc (.cells #[.int .i64 0, .int .i64 0, .int .i64 0, .int .i64 0, .string ⟨#[]⟩, .int .i64 0, .slice none 0 0, .slice none 0 0] 35)).alloc (.cells #[.int .i64 0, .int .i64 0, .int .i64 0, .int .i64 0, .string ⟨#[]⟩, .int .i64 0, .slice none 0 0, .slice none 0 0] 35)).heap.size := by simp
  go_enter Try.func9, Try.ntmps9
  go_upto_region 2 with fail
  generalize ((w.alloc (.cells #[.int .i64 kd, .int .i64 fr, .int .i64 tq, .int .i64 rq, .string ky, .int .i64 ow, .slice a l.length cap, .slice b s.length cap'] 27)).alloc (.cells #[.int .i64 0, .int .i64 0, .int .i64 0, .int .i64 0, .string ⟨#[]⟩, .int .i64 0, .slice none 0 0, .slice none 0 0] 35)).alloc (.cells #[.int .i64 0, .int .i64 0, .int .i64 0, .int .i64 0, .string ⟨#[]⟩, .int .i64 0, .slice none 0 0, .slice none 0 0] 35) = w0 at D X0 X1 X2 hz0 ⊢
  obtain ⟨x0, x1, x2, x3, x4, x5, x6, x7, _⟩ := X0.out.c8
  obtain ⟨y0, y1, y2, y3, y4, y5, y6, y7, f0, f1, f2, f3, f4, f5, f6, f7⟩ := X2.out.c8
  go_upto_region 3 with fail
  have hw := one_store w0 (w.heap.size + 1 + 1) 0 (.int .i64 kd)
  replace X0 := Lib.hid (X0.out.within hw (by omega))
  replace X1 := Lib.hid (X1.out.within hw (by omega))
  replace X2 := Lib.hid (show Cells _ (w.heap.size + 1 + 1) [.int .i64 kd, .int .i64 0, .int .i64 0, .int .i64 0, .string ⟨#[]⟩, .int .i64 0, .slice none 0 0, .slice none 0 0] from X2.out.set 0 (by simp) (.int .i64 kd))
  replace D := Lib.hid (D.out.within hw (by omega))
  have hz1 : w0.heap.size ≤ (w0.setCell ⟨w.heap.size + 1 + 1, 0, none⟩ (.int .i64 kd)).heap.size := hw.size
  clear hw x0 y0 f0 x1 y1 f1 x2 y2 f2 x3 y3 f3 x4 y4 f4 x5 y5 f5 x6 y6 f6 x7 y7 f7
  generalize w0.setCell ⟨w.heap.size + 1 + 1, 0, none⟩ (.int .i64 kd) = w1 at D X0 X1 X2 hz1 ⊢
  obtain ⟨x0, x1, x2, x3, x4, x5, x6, x7, _⟩ := X0.out.c8
  obtain ⟨y0, y1, y2, y3, y4, y5, y6, y7, f0, f1, f2, f3, f4, f5, f6, f7⟩ := X2.out.c8
  go_upto_region 4 with fail
  have hw := one_store w1 (w.heap.size + 1 + 1) 1 (.int .i64 fr)
  replace X0 := Lib.hid (X0.out.within hw (by omega))
  replace X1 := Lib.hid (X1.out.within hw (by omega))
  replace X2 := Lib.hid (show Cells _ (w.heap.size + 1 + 1) [.int .i64 kd, .int .i64 fr, .int .i64 0, .int .i64 0, .string ⟨#[]⟩, .int .i64 0, .slice none 0 0, .slice none 0 0] from X2.out.set 1 (by simp) (.int .i64 fr))
  replace D := Lib.hid (D.out.within hw (by omega))
  have hz2 : w1.heap.size ≤ (w1.setCell ⟨w.heap.size + 1 + 1, 1, none⟩ (.int .i64 fr)).heap.size := hw.size
  clear hw x0 y0 f0 x1 y1 f1 x2 y2 f2 x3 y3 f3 x4 y4 f4 x5 y5 f5 x6 y6 f6 x7 y7 f7
  generalize w1.setCell ⟨w.heap.size + 1 + 1, 1, none⟩ (.int .i64 fr) = w2 at D X0 X1 X2 hz2 ⊢
  obtain ⟨x0, x1, x2, x3, x4, x5, x6, x7, _⟩ := X0.out.c8
  obtain ⟨y0, y1, y2, y3, y4, y5, y6, y7, f0, f1, f2, f3, f4, f5, f6, f7⟩ := X2.out.c8
  go_upto_region 5 with fail
  have hw := one_store w2 (w.heap.size + 1 + 1) 2 (.int .i64 tq)
  replace X0 := Lib.hid (X0.out.within hw (by omega))
  replace X1 := Lib.hid (X1.out.within hw (by omega))
  replace X2 := Lib.hid (show Cells _ (w.heap.size + 1 + 1) [.int .i64 kd, .int .i64 fr, .int .i64 tq, .int .i64 0, .string ⟨#[]⟩, .int .i64 0, .slice none 0 0, .slice none 0 0] from X2.out.set 2 (by simp) (.int .i64 tq))
  replace D := Lib.hid (D.out.within hw (by omega))
  have hz3 : w2.heap.size ≤ (w2.setCell ⟨w.heap.size + 1 + 1, 2, none⟩ (.int .i64 tq)).heap.size := hw.size
  clear hw x0 y0 f0 x1 y1 f1 x2 y2 f2 x3 y3 f3 x4 y4 f4 x5 y5 f5 x6 y6 f6 x7 y7 f7
  generalize w2.setCell ⟨w.heap.size + 1 + 1, 2, none⟩ (.int .i64 tq) = w3 at D X0 X1 X2 hz3 ⊢
  obtain ⟨x0, x1, x2, x3, x4, x5, x6, x7, _⟩ := X0.out.c8
  obtain ⟨y0, y1, y2, y3, y4, y5, y6, y7, f0, f1, f2, f3, f4, f5, f6, f7⟩ := X2.out.c8
  go_upto_region 6 with fail
  have hw := one_store w3 (w.heap.size + 1 + 1) 3 (.int .i64 rq)
  replace X0 := Lib.hid (X0.out.within hw (by omega))
  replace X1 := Lib.hid (X1.out.within hw (by omega))
  replace X2 := Lib.hid (show Cells _ (w.heap.size + 1 + 1) [.int .i64 kd, .int .i64 fr, .int .i64 tq, .int .i64 rq, .string ⟨#[]⟩, .int .i64 0, .slice none 0 0, .slice none 0 0] from X2.out.set 3 (by simp) (.int .i64 rq))
  replace D := Lib.hid (D.out.within hw (by omega))
  have hz4 : w3.heap.size ≤ (w3.setCell ⟨w.heap.size + 1 + 1, 3, none⟩ (.int .i64 rq)).heap.size := hw.size
  clear hw x0 y0 f0 x1 y1 f1 x2 y2 f2 x3 y3 f3 x4 y4 f4 x5 y5 f5 x6 y6 f6 x7 y7 f7
  generalize w3.setCell ⟨w.heap.size + 1 + 1, 3, none⟩ (.int .i64 rq) = w4 at D X0 X1 X2 hz4 ⊢
  obtain ⟨x0, x1, x2, x3, x4, x5, x6, x7, _⟩ := X0.out.c8
  obtain ⟨y0, y1, y2, y3, y4, y5, y6, y7, f0, f1, f2, f3, f4, f5, f6, f7⟩ := X2.out.c8
  go_upto_region 7 with fail
  have hw := one_store w4 (w.heap.size + 1 + 1) 4 (.string ky)
  replace X0 := Lib.hid (X0.out.within hw (by omega))
  replace X1 := Lib.hid (X1.out.within hw (by omega))
  replace X2 := Lib.hid (show Cells _ (w.heap.size + 1 + 1) [.int .i64 kd, .int .i64 fr, .int .i64 tq, .int .i64 rq, .string ky, .int .i64 0, .slice none 0 0, .slice none 0 0] from X2.out.set 4 (by simp) (.string ky))
  replace D := Lib.hid (D.out.within hw (by omega))
  have hz5 : w4.heap.size ≤ (w4.setCell ⟨w.heap.size + 1 + 1, 4, none⟩ (.string ky)).heap.size := hw.size
  clear hw x0 y0 f0 x1 y1 f1 x2 y2 f2 x3 y3 f3 x4 y4 f4 x5 y5 f5 x6 y6 f6 x7 y7 f7
  generalize w4.setCell ⟨w.heap.size + 1 + 1, 4, none⟩ (.string ky) = w5 at D X0 X1 X2 hz5 ⊢
  obtain ⟨x0, x1, x2, x3, x4, x5, x6, x7, _⟩ := X0.out.c8
  obtain ⟨y0, y1, y2, y3, y4, y5, y6, y7, f0, f1, f2, f3, f4, f5, f6, f7⟩ := X2.out.c8
  go_upto_region 8 with fail
  have hw := one_store w5 (w.heap.size + 1 + 1) 5 (.int .i64 ow)
  replace X0 := Lib.hid (X0.out.within hw (by omega))
  replace X1 := Lib.hid (X1.out.within hw (by omega))
  replace X2 := Lib.hid (show Cells _ (w.heap.size + 1 + 1) [.int .i64 kd, .int .i64 fr, .int .i64 tq, .int .i64 rq, .string ky, .int .i64 ow, .slice none 0 0, .slice none 0 0] from X2.out.set 5 (by simp) (.int .i64 ow))
  replace D := Lib.hid (D.out.within hw (by omega))
  have hz6 : w5.heap.size ≤ (w5.setCell ⟨w.heap.size + 1 + 1, 5, none⟩ (.int .i64 ow)).heap.size := hw.size
  clear hw x0 y0 f0 x1 y1 f1 x2 y2 f2 x3 y3 f3 x4 y4 f4 x5 y5 f5 x6 y6 f6 x7 y7 f7
  generalize w5.setCell ⟨w.heap.size + 1 + 1, 5, none⟩ (.int .i64 ow) = w6 at D X0 X1 X2 hz6 ⊢
  obtain ⟨x0, x1, x2, x3, x4, x5, x6, x7, _⟩ := X0.out.c8
  obtain ⟨y0, y1, y2, y3, y4, y5, y6, y7, f0, f1, f2, f3, f4, f5, f6, f7⟩ := X2.out.c8
  go_wp2_with fail
  clear x0 y0 f0 x1 y1 f1 x2 y2 f2 x3 y3 f3 x4 y4 f4 x5 y5 f5 x6 y6 f6 x7 y7 f7
  refine (toSet a b cap cap' l s w6 hl hs (H.out.mono D.out) (H'.out.mono D.out)).mono ?_
  rintro e wa ⟨a1, c1, a2, c2, mid, rfl, ho, hs, m1, m2, hb⟩
  have O := Lib.hid ho
  have S := Lib.hid hs
  replace X0 := Lib.hid (X0.out.below hb)
  replace X1 := Lib.hid (X1.out.below hb)
  replace X2 := Lib.hid (X2.out.below hb)
  replace D := Lib.hid (D.out.below hb)
  have hza := hb.size
  clear hb ho hs
  obtain ⟨y0, y1, y2, y3, y4, y5, y6, y7, f0, f1, f2, f3, f4, f5, f6, f7⟩ := X2.out.c8
  go_upto_region 9 with fail
  have hw := (one_store wa (w.heap.size + 1 + 1) 6 (.slice a1 l.length c1)).trans (one_store _ (w.heap.size + 1 + 1) 7 (.slice a2 s.length c2))
  replace X1 := Lib.hid (X1.out.within hw (by omega))
  replace X2 := Lib.hid (show Cells _ (w.heap.size + 1 + 1) [.int .i64 kd, .int .i64 fr, .int .i64 tq, .int .i64 rq, .string ky, .int .i64 ow, .slice a1 l.length c1, .slice a2 s.length c2] from (X2.out.set 6 (by simp) (.slice a1 l.length c1)).set 7 (by simp) (.slice a2 s.length c2))
  replace D := Lib.hid (D.out.within hw (by omega))
  replace O := Lib.hid (O.out.same (hw.same m2 (by omega)))
  replace S := Lib.hid (S.out.same (hw.same (Nat.le_refl _) (by omega)))
  have hzb : wa.heap.size = ((wa.setCell ⟨w.heap.size + 1 + 1, 6, none⟩ (.slice a1 l.length c1)).setCell ⟨w.heap.size + 1 + 1, 7, none⟩ (.slice a2 s.length c2)).heap.size := by simp [World.setCell]
  rw [hzb] at S m2 hza
  clear hw hzb y0 f0 y1 f1 y2 f2 y3 f3 y4 f4 y5 f5 y6 f6 y7 f7
  generalize (wa.setCell ⟨w.heap.size + 1 + 1, 6, none⟩ (.slice a1 l.length c1)).setCell ⟨w.heap.size + 1 + 1, 7, none⟩ (.slice a2 s.length c2) = wb at D X1 X2 O S m2 hza ⊢
  obtain ⟨y0, y1, y2, y3, y4, y5, y6, y7, _⟩ := X2.out.c8
  obtain ⟨x0, x1, x2, x3, x4, x5, x6, x7, f0, f1, f2, f3, f4, f5, f6, f7⟩ := X1.out.c8
  go_wp2
  have hw := ((((((((one_store wb (w.heap.size + 1) 0 (.int .i64 kd)).trans (one_store _ (w.heap.size + 1) 1 (.int .i64 fr))).trans (one_store _ (w.heap.size + 1) 2 (.int .i64 tq))).trans (one_store _ (w.heap.size + 1) 3 (.int .i64 rq))).trans (one_store _ (w.heap.size + 1) 4 (.string ky))).trans (one_store _ (w.heap.size + 1) 5 (.int .i64 ow))).trans (one_store _ (w.heap.size + 1) 6 (.slice a1 l.length c1))).trans (one_store _ (w.heap.size + 1) 7 (.slice a2 s.length c2)))
  have XA := show Cells _ (w.heap.size + 1) [.int .i64 kd, .int .i64 fr, .int .i64 tq, .int .i64 rq, .string ky, .int .i64 ow, .slice a1 l.length c1, .slice a2 s.length c2] from ((((((((X1.out.set 0 (by simp) (.int .i64 kd)).set 1 (by simp) (.int .i64 fr)).set 2 (by simp) (.int .i64 tq)).set 3 (by simp) (.int .i64 rq)).set 4 (by simp) (.string ky)).set 5 (by simp) (.int .i64 ow)).set 6 (by simp) (.slice a1 l.length c1)).set 7 (by simp) (.slice a2 s.length c2))
  obtain ⟨q0, q1, q2, q3, q4, q5, q6, q7, _⟩ := XA.c8
  refine bodyPost_ret (v := .agg #[.int .i64 kd, .int .i64 fr, .int .i64 tq, .int .i64 rq, .string ky, .int .i64 ow, .slice a1 l.length c1, .slice a2 s.length c2]) (by simp [results, Try.results9, go_sem, q0, q1, q2, q3, q4, q5, q6, q7]) rfl ?_
  refine ⟨a1, c1, a2, c2, mid, rfl, ?_, ?_, by omega, Nat.le_trans m2 hw.size, D.out.within hw (by omega)⟩
  · exact (O.out.same (hw.same m2 (by omega))).wide (by omega) (Nat.le_refl _)
  · exact (S.out.same (hw.same (Nat.le_refl _) (by omega))).wide (Nat.le_refl _) hw.size
set_option maxRecDepth 100000 in
set_option maxHeartbeats 400000 in
theorem eqMsg (kd fr tq rq : Int) (ky : ByteArray) (ow : Int) (a a' b b' : Option Addr) (cap1 cap2 cap3 cap4 : Nat) (l : List (Int × Int)) (s : List Sib) (w : World) (hl : l.length ≤ maxLen) (hs : s.length ≤ maxLen) (h : MarksAt w a l) (h' : MarksAt w a' l) (k : SibsAt w b s) (k' : SibsAt w b' s) :
    Calls Try.prog 11 #[.agg #[.int .i64 kd, .int .i64 fr, .int .i64 tq, .int .i64 rq, .string ky, .int .i64 ow, .slice a l.length cap1, .slice b s.length cap2], .agg #[.int .i64 kd, .int .i64 fr, .int .i64 tq, .int .i64 rq, .string ky, .int .i64 ow, .slice a' l.length cap3, .slice b' s.length cap4]] w fun e w' => e = .returned (.bool true) ∧ Below w.heap.size w w' := by
  have H := Lib.hid h
  have H' := Lib.hid h'
  have K := Lib.hid k
  have K' := Lib.hid k'
  clear h h' k k'
  have hb0 := Lib.hid (show Below w.heap.size w _ from Base.below (step_alloc w (.cells #[.int .i64 kd, .int .i64 fr, .int .i64 tq, .int .i64 rq, .string ky, .int .i64 ow, .slice a l.length cap1, .slice b s.length cap2] 35)) (step_alloc _ (.cells #[.int .i64 kd, .int .i64 fr, .int .i64 tq, .int .i64 rq, .string ky, .int .i64 ow, .slice a' l.length cap3, .slice b' s.length cap4] 35)))
  have X0 := Lib.hid ((Cells.new w #[.int .i64 kd, .int .i64 fr, .int .i64 tq, .int .i64 rq, .string ky, .int .i64 ow, .slice a l.length cap1, .slice b s.length cap2] 35).below (step_alloc _ (.cells #[.int .i64 kd, .int .i64 fr, .int .i64 tq, .int .i64 rq, .string ky, .int .i64 ow, .slice a' l.length cap3, .slice b' s.length cap4] 35)))
  have X1 := Lib.hid (Cells.new (w.alloc (.cells #[.int .i64 kd, .int .i64 fr, .int .i64 tq, .int .i64 rq, .string ky, .int .i64 ow, .slice a l.length cap1, .slice b s.length cap2] 35)) #[.int .i64 kd, .int .i64 fr, .int .i64 tq, .int .i64 rq, .string ky, .int .i64 ow, .slice a' l.length cap3, .slice b' s.length cap4] 35)
  simp only [World.size_alloc, List.toList_toArray] at X0 X1
  go_enter Try.func11, Try.ntmps11
  go_wp2_with fail
  refine (eqSet a a' b b' cap1 cap2 cap3 cap4 l s _ hl hs (H.out.mono hb0.out) (H'.out.mono hb0.out) (K.out.mono hb0.out) (K'.out.mono hb0.out)).mono ?_
  rintro e w1 ⟨rfl, hb⟩
  replace X0 := Lib.hid (X0.out.below hb)
  replace X1 := Lib.hid (X1.out.below hb)
  have HB := Lib.hid (hb0.out.trans (hb.mono (by simp; omega)))
  clear hb
  go_wp2
  go_ret
  exact ⟨rfl, HB.out⟩
set_option maxRecDepth 100000 in
set_option maxHeartbeats 400000 in
theorem eqMsgOut (kd fr tq rq : Int) (ky : ByteArray) (ow : Int) (a a' b b' : Option Addr) (cap1 cap2 cap3 cap4 : Nat) (l : List (Int × Int)) (s : List Sib) (c : Int) (w : World) (hl : l.length ≤ maxLen) (hs : s.length ≤ maxLen) (h : MarksAt w a l) (h' : MarksAt w a' l) (k : SibsAt w b s) (k' : SibsAt w b' s) :
    Calls Try.prog 16 #[.agg #[.int .i64 kd, .int .i64 fr, .int .i64 tq, .int .i64 rq, .string ky, .int .i64 ow, .slice a l.length cap1, .slice b s.length cap2, .int .i64 c], .agg #[.int .i64 kd, .int .i64 fr, .int .i64 tq, .int .i64 rq, .string ky, .int .i64 ow, .slice a' l.length cap3, .slice b' s.length cap4, .int .i64 c]] w fun e w' => e = .returned (.bool true) ∧ Below w.heap.size w w' := by
  have H := Lib.hid h
  have H' := Lib.hid h'
  have K := Lib.hid k
  have K' := Lib.hid k'
  clear h h' k k'
  have hb0 := Lib.hid (show Below w.heap.size w _ from Base.below (step_alloc w (.cells #[.int .i64 kd, .int .i64 fr, .int .i64 tq, .int .i64 rq, .string ky, .int .i64 ow, .slice a l.length cap1, .slice b s.length cap2, .int .i64 c] 41)) (step_alloc _ (.cells #[.int .i64 kd, .int .i64 fr, .int .i64 tq, .int .i64 rq, .string ky, .int .i64 ow, .slice a' l.length cap3, .slice b' s.length cap4, .int .i64 c] 41)))
  have X0 := Lib.hid ((Cells.new w #[.int .i64 kd, .int .i64 fr, .int .i64 tq, .int .i64 rq, .string ky, .int .i64 ow, .slice a l.length cap1, .slice b s.length cap2, .int .i64 c] 41).below (step_alloc _ (.cells #[.int .i64 kd, .int .i64 fr, .int .i64 tq, .int .i64 rq, .string ky, .int .i64 ow, .slice a' l.length cap3, .slice b' s.length cap4, .int .i64 c] 41)))
  have X1 := Lib.hid (Cells.new (w.alloc (.cells #[.int .i64 kd, .int .i64 fr, .int .i64 tq, .int .i64 rq, .string ky, .int .i64 ow, .slice a l.length cap1, .slice b s.length cap2, .int .i64 c] 41)) #[.int .i64 kd, .int .i64 fr, .int .i64 tq, .int .i64 rq, .string ky, .int .i64 ow, .slice a' l.length cap3, .slice b' s.length cap4, .int .i64 c] 41)
  simp only [World.size_alloc, List.toList_toArray] at X0 X1
  go_enter Try.func16, Try.ntmps16
  go_wp2_with fail
  refine (eqMsg kd fr tq rq ky ow a a' b b' cap1 cap2 cap3 cap4 l s _ hl hs (H.out.mono hb0.out) (H'.out.mono hb0.out) (K.out.mono hb0.out) (K'.out.mono hb0.out)).mono ?_
  rintro e w1 ⟨rfl, hb⟩
  replace X0 := Lib.hid (X0.out.below hb)
  replace X1 := Lib.hid (X1.out.below hb)
  have HB := Lib.hid (hb0.out.trans (hb.mono (by simp; omega)))
  clear hb
  obtain ⟨x0, x1, x2, x3, x4, x5, x6, x7, x8, _⟩ := X0.out.c9
  obtain ⟨y0, y1, y2, y3, y4, y5, y6, y7, y8, _⟩ := X1.out.c9
  go_wp2
  go_ret
  exact ⟨rfl, HB.out⟩
set_option maxRecDepth 100000 in
set_option maxHeartbeats 400000 in
theorem markMsg (z : Int) (k : Nat) (hz : z = (k : Int)) (lo hi lo1 hi1 lo2 hi2 : Nat) (kd fr tq rq : Int) (ky : ByteArray) (ow : Int) (a b : Option Addr) (cap cap' : Nat) (l : List (Int × Int)) (s : List Sib) (w : World) (hl : l.length ≤ 1048576) (hs : s.length ≤ 1048576) (hk0 : 0 < k) (hk1 : k ≤ 90000000) (h1 : lo ≤ lo1) (h2 : hi1 ≤ hi) (h4 : lo ≤ lo2) (h5 : hi2 ≤ hi) (h3 : hi ≤ w.heap.size) (hd : hi1 ≤ lo2 ∨ hi2 ≤ lo1)
    (h : OwnIn w lo1 hi1 a l) (h' : SOwnIn w lo2 hi2 b s) :
    Calls Try.prog 24 #[.agg #[.int .i64 kd, .int .i64 fr, .int .i64 tq, .int .i64 rq, .string ky, .int .i64 ow, .slice a l.length cap, .slice b s.length cap'], .int .i64 z] w (MarkedSet2 w lo hi lo1 hi1 lo2 hi2 a b k l.length s.length) := by
  subst hz
  have hb0 := Lib.hid (step_alloc w (.cells #[.int .i64 kd, .int .i64 fr, .int .i64 tq, .int .i64 rq, .string ky, .int .i64 ow, .slice a l.length cap, .slice b s.length cap'] 35))
  have H := Lib.hid (h.same (Same.of_below hb0.out (by omega)))
  have H' := Lib.hid (h'.same (Same.of_below hb0.out (by omega)))
  clear h h'
  go_enter Try.func24, Try.ntmps24
  go_wp2_with fail
  refine (markSet2 lo hi lo1 hi1 lo2 hi2 a b cap cap' l s k _ hl hs hk0 hk1 h1 h2 h4 h5 (by simp; omega) hd H.out H'.out).mono ?_
  rintro e w1 ⟨rfl, ho, hs1, hw⟩
  have O := Lib.hid ho
  have O1 := Lib.hid hs1
  have W1 := Lib.hid hw
  clear ho hs1 hw
  obtain ⟨r, hr⟩ : ∃ r : Nat, r = k + 2 * l.length + 4 * s.length := ⟨_, rfl⟩
  have HR := Lib.hid hr
  rw [← hr]
  clear hr
  go_wp2
  go_ret
  refine ⟨by rw [← HR.out]; rfl, O.out, O1.out, ?_⟩
  have hh : Within lo hi w (w.alloc (.cells #[.int .i64 kd, .int .i64 fr, .int .i64 tq, .int .i64 rq, .string ky, .int .i64 ow, .slice a l.length cap, .slice b s.length cap'] 35)) := ⟨rfl, rfl, rfl, by simp, fun j hj _ => Below.heap_alloc _ _ _ hj⟩
  exact hh.trans W1.out
set_option maxRecDepth 100000 in
set_option maxHeartbeats 400000 in
theorem markMsgOut (z : Int) (k : Nat) (hz : z = (k : Int)) (lo hi lo1 hi1 lo2 hi2 : Nat) (kd fr tq rq : Int) (ky : ByteArray) (ow : Int) (a b : Option Addr) (cap cap' : Nat) (l : List (Int × Int)) (s : List Sib) (c : Int) (w : World) (hl : l.length ≤ 1048576) (hs : s.length ≤ 1048576) (hk0 : 0 < k) (hk1 : k ≤ 90000000) (h1 : lo ≤ lo1) (h2 : hi1 ≤ hi) (h4 : lo ≤ lo2) (h5 : hi2 ≤ hi) (h3 : hi ≤ w.heap.size) (hd : hi1 ≤ lo2 ∨ hi2 ≤ lo1)
    (h : OwnIn w lo1 hi1 a l) (h' : SOwnIn w lo2 hi2 b s) :
    Calls Try.prog 17 #[.agg #[.int .i64 kd, .int .i64 fr, .int .i64 tq, .int .i64 rq, .string ky, .int .i64 ow, .slice a l.length cap, .slice b s.length cap', .int .i64 c], .int .i64 z] w (MarkedSet2 w lo hi lo1 hi1 lo2 hi2 a b k l.length s.length) := by
  subst hz
  have hb0 := Lib.hid (step_alloc w (.cells #[.int .i64 kd, .int .i64 fr, .int .i64 tq, .int .i64 rq, .string ky, .int .i64 ow, .slice a l.length cap, .slice b s.length cap', .int .i64 c] 41))
  have H := Lib.hid (h.same (Same.of_below hb0.out (by omega)))
  have H' := Lib.hid (h'.same (Same.of_below hb0.out (by omega)))
  clear h h'
  go_enter Try.func17, Try.ntmps17
  go_wp2_with fail
  refine (markMsg (k : Int) k rfl lo hi lo1 hi1 lo2 hi2 kd fr tq rq ky ow a b cap cap' l s _ hl hs hk0 hk1 h1 h2 h4 h5 (by simp; omega) hd H.out H'.out).mono ?_
  rintro e w1 ⟨rfl, ho, hs1, hw⟩
  have O := Lib.hid ho
  have O1 := Lib.hid hs1
  have W1 := Lib.hid hw
  clear ho hs1 hw
  obtain ⟨r, hr⟩ : ∃ r : Nat, r = k + 2 * l.length + 4 * s.length := ⟨_, rfl⟩
  have HR := Lib.hid hr
  rw [← hr]
  clear hr
  go_wp2
  go_ret
  refine ⟨by rw [← HR.out]; rfl, O.out, O1.out, ?_⟩
  have hh : Within lo hi w (w.alloc (.cells #[.int .i64 kd, .int .i64 fr, .int .i64 tq, .int .i64 rq, .string ky, .int .i64 ow, .slice a l.length cap, .slice b s.length cap', .int .i64 c] 41)) := ⟨rfl, rfl, rfl, by simp, fun j hj _ => Below.heap_alloc _ _ _ hj⟩
  exact hh.trans W1.out
set_option maxRecDepth 100000 in
set_option maxHeartbeats 400000 in
theorem heldMsg (z : Int) (k : Nat) (hz : z = (k : Int)) (kd fr tq rq : Int) (ky : ByteArray) (ow : Int) (a b : Option Addr) (cap cap' : Nat) (n m : Nat) (w : World) (hn : n ≤ 1048576) (hm : m ≤ 1048576) (hk0 : 0 < k) (hk1 : k ≤ 90000000)
    (h : MarksAt w a (markL (k : Int) n)) (h' : SibsAt w b (sibL (k + 2 * n) m)) :
    Calls Try.prog 44 #[.agg #[.int .i64 kd, .int .i64 fr, .int .i64 tq, .int .i64 rq, .string ky, .int .i64 ow, .slice a n cap, .slice b m cap'], .int .i64 z] w fun e w' => e = .returned (.int .i64 ((k + 2 * n + 4 * m : Nat) : Int)) ∧ Below w.heap.size w w' := by
  subst hz
  have hb0 := Lib.hid (step_alloc w (.cells #[.int .i64 kd, .int .i64 fr, .int .i64 tq, .int .i64 rq, .string ky, .int .i64 ow, .slice a n cap, .slice b m cap'] 35))
  have H := Lib.hid (h.mono hb0.out)
  have H' := Lib.hid (SibsAt.mono h' hb0.out)
  clear h h'
  obtain ⟨r, hr⟩ : ∃ r : Nat, r = k + 2 * n + 4 * m := ⟨_, rfl⟩
  have hr3 : ¬ (r : Int) < 0 := by omega
  rw [← hr]
  go_enter Try.func44, Try.ntmps44
  go_wp2_with fail
  refine (heldSet a b cap cap' n m k _ hn hm hk0 hk1 H.out H'.out).mono ?_
  rintro e w1 ⟨rfl, hb⟩
  rw [← hr]
  clear hr
  have HB := Lib.hid (hb0.out.trans (hb.mono (by simp)))
  clear hb
  go_wp2
  go_ret
  exact ⟨rfl, HB.out⟩
set_option maxRecDepth 100000 in
set_option maxHeartbeats 400000 in
theorem heldMsgOut (z : Int) (k : Nat) (hz : z = (k : Int)) (kd fr tq rq : Int) (ky : ByteArray) (ow : Int) (a b : Option Addr) (cap cap' : Nat) (n m : Nat) (c : Int) (w : World) (hn : n ≤ 1048576) (hm : m ≤ 1048576) (hk0 : 0 < k) (hk1 : k ≤ 90000000)
    (h : MarksAt w a (markL (k : Int) n)) (h' : SibsAt w b (sibL (k + 2 * n) m)) :
    Calls Try.prog 18 #[.agg #[.int .i64 kd, .int .i64 fr, .int .i64 tq, .int .i64 rq, .string ky, .int .i64 ow, .slice a n cap, .slice b m cap', .int .i64 c], .int .i64 z] w fun e w' => e = .returned (.int .i64 ((k + 2 * n + 4 * m : Nat) : Int)) ∧ Below w.heap.size w w' := by
  subst hz
  have hb0 := Lib.hid (step_alloc w (.cells #[.int .i64 kd, .int .i64 fr, .int .i64 tq, .int .i64 rq, .string ky, .int .i64 ow, .slice a n cap, .slice b m cap', .int .i64 c] 41))
  have H := Lib.hid (h.mono hb0.out)
  have H' := Lib.hid (SibsAt.mono h' hb0.out)
  clear h h'
  obtain ⟨r, hr⟩ : ∃ r : Nat, r = k + 2 * n + 4 * m := ⟨_, rfl⟩
  have hr3 : ¬ (r : Int) < 0 := by omega
  rw [← hr]
  go_enter Try.func18, Try.ntmps18
  go_wp2_with fail
  refine (heldMsg (k : Int) k rfl kd fr tq rq ky ow a b cap cap' n m _ hn hm hk0 hk1 H.out H'.out).mono ?_
  rintro e w1 ⟨rfl, hb⟩
  rw [← hr]
  clear hr
  have HB := Lib.hid (hb0.out.trans (hb.mono (by simp)))
  clear hb
  go_wp2
  go_ret
  exact ⟨rfl, HB.out⟩
end Go.Proofs.Ytloenigleamcoaa.Sb

set_option linter.unusedSimpArgs false
set_option linter.unusedVariables false
namespace Go.Proofs.Ytloenigleamcoaa.Sb
open Go.RowKit Go.Proofs.Ytloenigleamcoaa.Mk Go.Proofs.Ytloenigleamcoaa.Rw

structure Var8 (w : World) (g : Nat) (v0 v1 v2 v3 v4 v5 v6 v7 : Value) : Prop where
  c0 : w.cell? ⟨g, 0, none⟩ = some v0
  c1 : w.cell? ⟨g, 1, none⟩ = some v1
  c2 : w.cell? ⟨g, 2, none⟩ = some v2
  c3 : w.cell? ⟨g, 3, none⟩ = some v3
  c4 : w.cell? ⟨g, 4, none⟩ = some v4
  c5 : w.cell? ⟨g, 5, none⟩ = some v5
  c6 : w.cell? ⟨g, 6, none⟩ = some v6
  c7 : w.cell? ⟨g, 7, none⟩ = some v7
  lt : g < w.heap.size
theorem Var8.of {w : World} {g : Nat} {v0 v1 v2 v3 v4 v5 v6 v7 : Value} (h : Cells w g [v0, v1, v2, v3, v4, v5, v6, v7]) : Var8 w g v0 v1 v2 v3 v4 v5 v6 v7 := by
  obtain ⟨a0, a1, a2, a3, a4, a5, a6, a7, -⟩ := h.c8
  exact ⟨a0, a1, a2, a3, a4, a5, a6, a7, h.lt⟩
theorem Var8.below {w w' : World} {g : Nat} {v0 v1 v2 v3 v4 v5 v6 v7 : Value} (h : Var8 w g v0 v1 v2 v3 v4 v5 v6 v7) (hb : Below w.heap.size w w') : Var8 w' g v0 v1 v2 v3 v4 v5 v6 v7 :=
  ⟨(hb.cell (p := ⟨g, 0, none⟩) h.lt).trans h.c0, (hb.cell (p := ⟨g, 1, none⟩) h.lt).trans h.c1, (hb.cell (p := ⟨g, 2, none⟩) h.lt).trans h.c2, (hb.cell (p := ⟨g, 3, none⟩) h.lt).trans h.c3, (hb.cell (p := ⟨g, 4, none⟩) h.lt).trans h.c4, (hb.cell (p := ⟨g, 5, none⟩) h.lt).trans h.c5, (hb.cell (p := ⟨g, 6, none⟩) h.lt).trans h.c6, (hb.cell (p := ⟨g, 7, none⟩) h.lt).trans h.c7, Nat.lt_of_lt_of_le h.lt hb.size⟩
theorem Var8.within {w w' : World} {lo hi g : Nat} {v0 v1 v2 v3 v4 v5 v6 v7 : Value} (h : Var8 w g v0 v1 v2 v3 v4 v5 v6 v7) (hw : Within lo hi w w') (ha : g < lo ∨ hi ≤ g) : Var8 w' g v0 v1 v2 v3 v4 v5 v6 v7 := by
  have e := hw.block g h.lt ha
  exact ⟨(World.cell?_of_block (a := ⟨g, 0, none⟩) e).trans h.c0, (World.cell?_of_block (a := ⟨g, 1, none⟩) e).trans h.c1, (World.cell?_of_block (a := ⟨g, 2, none⟩) e).trans h.c2, (World.cell?_of_block (a := ⟨g, 3, none⟩) e).trans h.c3, (World.cell?_of_block (a := ⟨g, 4, none⟩) e).trans h.c4, (World.cell?_of_block (a := ⟨g, 5, none⟩) e).trans h.c5, (World.cell?_of_block (a := ⟨g, 6, none⟩) e).trans h.c6, (World.cell?_of_block (a := ⟨g, 7, none⟩) e).trans h.c7, Nat.lt_of_lt_of_le h.lt hw.size⟩
theorem Var8.new (w : World) (v0 v1 v2 v3 v4 v5 v6 v7 : Value) (t : TypeId) : Var8 (w.alloc (.cells #[v0, v1, v2, v3, v4, v5, v6, v7] t)) w.heap.size v0 v1 v2 v3 v4 v5 v6 v7 := Var8.of (Cells.new w #[v0, v1, v2, v3, v4, v5, v6, v7] t)
structure Var9 (w : World) (g : Nat) (v0 v1 v2 v3 v4 v5 v6 v7 v8 : Value) : Prop where
  c0 : w.cell? ⟨g, 0, none⟩ = some v0
  c1 : w.cell? ⟨g, 1, none⟩ = some v1
  c2 : w.cell? ⟨g, 2, none⟩ = some v2
  c3 : w.cell? ⟨g, 3, none⟩ = some v3
  c4 : w.cell? ⟨g, 4, none⟩ = some v4
  c5 : w.cell? ⟨g, 5, none⟩ = some v5
  c6 : w.cell? ⟨g, 6, none⟩ = some v6
  c7 : w.cell? ⟨g, 7, none⟩ = some v7
  c8 : w.cell? ⟨g, 8, none⟩ = some v8
  lt : g < w.heap.size
theorem Var9.of {w : World} {g : Nat} {v0 v1 v2 v3 v4 v5 v6 v7 v8 : Value} (h : Cells w g [v0, v1, v2, v3, v4, v5, v6, v7, v8]) : Var9 w g v0 v1 v2 v3 v4 v5 v6 v7 v8 := by
  obtain ⟨a0, a1, a2, a3, a4, a5, a6, a7, a8, -⟩ := h.c9
  exact ⟨a0, a1, a2, a3, a4, a5, a6, a7, a8, h.lt⟩
theorem Var9.below {w w' : World} {g : Nat} {v0 v1 v2 v3 v4 v5 v6 v7 v8 : Value} (h : Var9 w g v0 v1 v2 v3 v4 v5 v6 v7 v8) (hb : Below w.heap.size w w') : Var9 w' g v0 v1 v2 v3 v4 v5 v6 v7 v8 :=
  ⟨(hb.cell (p := ⟨g, 0, none⟩) h.lt).trans h.c0, (hb.cell (p := ⟨g, 1, none⟩) h.lt).trans h.c1, (hb.cell (p := ⟨g, 2, none⟩) h.lt).trans h.c2, (hb.cell (p := ⟨g, 3, none⟩) h.lt).trans h.c3, (hb.cell (p := ⟨g, 4, none⟩) h.lt).trans h.c4, (hb.cell (p := ⟨g, 5, none⟩) h.lt).trans h.c5, (hb.cell (p := ⟨g, 6, none⟩) h.lt).trans h.c6, (hb.cell (p := ⟨g, 7, none⟩) h.lt).trans h.c7, (hb.cell (p := ⟨g, 8, none⟩) h.lt).trans h.c8, Nat.lt_of_lt_of_le h.lt hb.size⟩
theorem Var9.within {w w' : World} {lo hi g : Nat} {v0 v1 v2 v3 v4 v5 v6 v7 v8 : Value} (h : Var9 w g v0 v1 v2 v3 v4 v5 v6 v7 v8) (hw : Within lo hi w w') (ha : g < lo ∨ hi ≤ g) : Var9 w' g v0 v1 v2 v3 v4 v5 v6 v7 v8 := by
  have e := hw.block g h.lt ha
  exact ⟨(World.cell?_of_block (a := ⟨g, 0, none⟩) e).trans h.c0, (World.cell?_of_block (a := ⟨g, 1, none⟩) e).trans h.c1, (World.cell?_of_block (a := ⟨g, 2, none⟩) e).trans h.c2, (World.cell?_of_block (a := ⟨g, 3, none⟩) e).trans h.c3, (World.cell?_of_block (a := ⟨g, 4, none⟩) e).trans h.c4, (World.cell?_of_block (a := ⟨g, 5, none⟩) e).trans h.c5, (World.cell?_of_block (a := ⟨g, 6, none⟩) e).trans h.c6, (World.cell?_of_block (a := ⟨g, 7, none⟩) e).trans h.c7, (World.cell?_of_block (a := ⟨g, 8, none⟩) e).trans h.c8, Nat.lt_of_lt_of_le h.lt hw.size⟩
theorem Var9.new (w : World) (v0 v1 v2 v3 v4 v5 v6 v7 v8 : Value) (t : TypeId) : Var9 (w.alloc (.cells #[v0, v1, v2, v3, v4, v5, v6, v7, v8] t)) w.heap.size v0 v1 v2 v3 v4 v5 v6 v7 v8 := Var9.of (Cells.new w #[v0, v1, v2, v3, v4, v5, v6, v7, v8] t)
def New9 (w : World) (g : Nat) (v0 v1 v2 v3 v4 v5 v6 v7 v8 : Value) : Prop := Cells w g [v0, v1, v2, v3, v4, v5, v6, v7, v8]
theorem New9.below {w w' : World} {g : Nat} {v0 v1 v2 v3 v4 v5 v6 v7 v8 : Value} (h : New9 w g v0 v1 v2 v3 v4 v5 v6 v7 v8) (hb : Below w.heap.size w w') : New9 w' g v0 v1 v2 v3 v4 v5 v6 v7 v8 := Cells.below h hb
theorem New9.within {w w' : World} {lo hi g : Nat} {v0 v1 v2 v3 v4 v5 v6 v7 v8 : Value} (h : New9 w g v0 v1 v2 v3 v4 v5 v6 v7 v8) (hw : Within lo hi w w') (ha : g < lo ∨ hi ≤ g) : New9 w' g v0 v1 v2 v3 v4 v5 v6 v7 v8 := Cells.within h hw ha
theorem New9.new (w : World) (v0 v1 v2 v3 v4 v5 v6 v7 v8 : Value) (t : TypeId) : New9 (w.alloc (.cells #[v0, v1, v2, v3, v4, v5, v6, v7, v8] t)) w.heap.size v0 v1 v2 v3 v4 v5 v6 v7 v8 := Cells.new w #[v0, v1, v2, v3, v4, v5, v6, v7, v8] t
theorem New9.all {w : World} {g : Nat} {v0 v1 v2 v3 v4 v5 v6 v7 v8 : Value} (h : New9 w g v0 v1 v2 v3 v4 v5 v6 v7 v8) : w.cell? ⟨g, 0, none⟩ = some v0 ∧ w.cell? ⟨g, 1, none⟩ = some v1 ∧ w.cell? ⟨g, 2, none⟩ = some v2 ∧ w.cell? ⟨g, 3, none⟩ = some v3 ∧ w.cell? ⟨g, 4, none⟩ = some v4 ∧ w.cell? ⟨g, 5, none⟩ = some v5 ∧ w.cell? ⟨g, 6, none⟩ = some v6 ∧ w.cell? ⟨g, 7, none⟩ = some v7 ∧ w.cell? ⟨g, 8, none⟩ = some v8 ∧ w.frozen? ⟨g, 0, none⟩ = false ∧ w.frozen? ⟨g, 1, none⟩ = false ∧ w.frozen? ⟨g, 2, none⟩ = false ∧ w.frozen? ⟨g, 3, none⟩ = false ∧ w.frozen? ⟨g, 4, none⟩ = false ∧ w.frozen? ⟨g, 5, none⟩ = false ∧ w.frozen? ⟨g, 6, none⟩ = false ∧ w.frozen? ⟨g, 7, none⟩ = false ∧ w.frozen? ⟨g, 8, none⟩ = false ∧ g < w.heap.size := by
  obtain ⟨a0, a1, a2, a3, a4, a5, a6, a7, a8, f0, f1, f2, f3, f4, f5, f6, f7, f8⟩ := Cells.c9 h
  exact ⟨a0, a1, a2, a3, a4, a5, a6, a7, a8, f0, f1, f2, f3, f4, f5, f6, f7, f8, Cells.lt h⟩
theorem cells_set9 {w : World} {g : Nat} {u0 u1 u2 u3 u4 u5 u6 u7 u8 : Value} (h : Cells w g [u0, u1, u2, u3, u4, u5, u6, u7, u8]) (v0 v1 v2 v3 v4 v5 v6 v7 v8 : Value) : Cells (((((((((w.setCell ⟨g, 0, none⟩ v0).setCell ⟨g, 1, none⟩ v1).setCell ⟨g, 2, none⟩ v2).setCell ⟨g, 3, none⟩ v3).setCell ⟨g, 4, none⟩ v4).setCell ⟨g, 5, none⟩ v5).setCell ⟨g, 6, none⟩ v6).setCell ⟨g, 7, none⟩ v7).setCell ⟨g, 8, none⟩ v8) g [v0, v1, v2, v3, v4, v5, v6, v7, v8] :=
  (((((((((h.set 0 (by simp) v0).set 1 (by simp) v1).set 2 (by simp) v2).set 3 (by simp) v3).set 4 (by simp) v4).set 5 (by simp) v5).set 6 (by simp) v6).set 7 (by simp) v7).set 8 (by simp) v8)
theorem within_set9 (w : World) (g : Nat) (v0 v1 v2 v3 v4 v5 v6 v7 v8 : Value) : Within g (g + 1) w (((((((((w.setCell ⟨g, 0, none⟩ v0).setCell ⟨g, 1, none⟩ v1).setCell ⟨g, 2, none⟩ v2).setCell ⟨g, 3, none⟩ v3).setCell ⟨g, 4, none⟩ v4).setCell ⟨g, 5, none⟩ v5).setCell ⟨g, 6, none⟩ v6).setCell ⟨g, 7, none⟩ v7).setCell ⟨g, 8, none⟩ v8) :=
  (((((((((one_store w g 0 v0).trans (one_store _ g 1 v1)).trans (one_store _ g 2 v2)).trans (one_store _ g 3 v3)).trans (one_store _ g 4 v4)).trans (one_store _ g 5 v5)).trans (one_store _ g 6 v6)).trans (one_store _ g 7 v7)).trans (one_store _ g 8 v8))
theorem New9.store {w : World} {g : Nat} {u0 u1 u2 u3 u4 u5 u6 u7 u8 : Value} (h : New9 w g u0 u1 u2 u3 u4 u5 u6 u7 u8) (v0 v1 v2 v3 v4 v5 v6 v7 v8 : Value) : Var9 (((((((((w.setCell ⟨g, 0, none⟩ v0).setCell ⟨g, 1, none⟩ v1).setCell ⟨g, 2, none⟩ v2).setCell ⟨g, 3, none⟩ v3).setCell ⟨g, 4, none⟩ v4).setCell ⟨g, 5, none⟩ v5).setCell ⟨g, 6, none⟩ v6).setCell ⟨g, 7, none⟩ v7).setCell ⟨g, 8, none⟩ v8) g v0 v1 v2 v3 v4 v5 v6 v7 v8 := Var9.of (cells_set9 h v0 v1 v2 v3 v4 v5 v6 v7 v8)
end Go.Proofs.Ytloenigleamcoaa.Sb

set_option linter.unusedSimpArgs false
set_option linter.unusedVariables false
namespace Go.Proofs.Ytloenigleamcoaa.Sb
open Go.Proofs.Ytloenigleamcoaa.Mk

def hdB (fr tq rq : Int) (ky : ByteArray) (ow : Int) : Bool := nodeB fr && nodeB tq && nodeB ow && decide (0 ≤ rq) && decide (rq ≤ 1000000) && Nm.nameB ky
def kindB (kd rq : Int) (l : List (Int × Int)) (s : List Sib) : Bool :=
  if kd = 1 then decide (0 < rq) && (decide (l.length = 0) && decide (s.length = 0)) else if kd = 2 then decide (0 < rq) && setB l s
  else if kd = 3 then setB l s && decide (0 < l.length) else if kd = 4 then decide (s.length = 0) && (rightB l && decide (0 < l.length)) else false
def msgB (kd fr tq rq : Int) (ky : ByteArray) (ow : Int) (l : List (Int × Int)) (s : List Sib) : Bool := hdB fr tq rq ky ow && kindB kd rq l s
theorem setB_nil (l : List (Int × Int)) : setB l [] = rightB l := by
  cases h : rightB l
  · exact not_right h
  · exact setB_true ⟨h, by simp, fun x hx => (by cases hx), fun k hk => (by simp at hk)⟩
theorem setB_right {l : List (Int × Int)} {s : List Sib} (h : setB l s = true) : rightB l = true := (of_decide_eq_true h).1
theorem setB_none {s : List Sib} (h : setB [] s = true) : s = [] := by
  match s with
  | [] => rfl
  | x :: r =>
    have h1 := (of_decide_eq_true h).2.2.1 x (by simp)
    unfold sibOk hasB at h1
    simp only [Bool.and_eq_true, decide_eq_true_eq] at h1
    obtain ⟨⟨⟨_, h2⟩, h3⟩, _⟩ := h1
    unfold dotB at h2
    simp only [Bool.and_eq_true, decide_eq_true_eq] at h2
    have : ofL [] x.1.1 = 0 := rfl
    omega
theorem nodeB_is (n : Int) : isB n 1 5 = nodeB n := rfl
theorem kind_ill {kd rq : Int} {l : List (Int × Int)} {s : List Sib} (h : setB l s = false) : kindB kd rq l s = false := by
  unfold kindB
  split
  · cases hl : decide (l.length = 0)
    · simp
    · cases hs : decide (s.length = 0)
      · simp
      · have e1 : l = [] := List.length_eq_zero_iff.1 (of_decide_eq_true hl)
        have e2 : s = [] := List.length_eq_zero_iff.1 (of_decide_eq_true hs)
        subst e1 e2
        rw [setB_nil] at h; cases h
  · split
    · rw [h]; simp
    · split
      · rw [h]; simp
      · split
        · cases hs : decide (s.length = 0)
          · simp
          · have e2 : s = [] := List.length_eq_zero_iff.1 (of_decide_eq_true hs)
            subst e2
            rw [setB_nil] at h; rw [h]; simp
        · rfl
theorem kind_no {kd rq : Int} {l : List (Int × Int)} {s : List Sib} (h : isB kd 1 4 = false) : kindB kd rq l s = false := by
  unfold isB at h
  have : ¬ (1 ≤ kd ∧ kd ≤ 4) := by
    intro ⟨h1, h2⟩; rw [decide_eq_true h1, decide_eq_true h2] at h; cases h
  unfold kindB
  rw [if_neg (by omega), if_neg (by omega), if_neg (by omega), if_neg (by omega)]
theorem kind_1 {kd rq : Int} {l : List (Int × Int)} {s : List Sib} (hk : kd = 1) (h : setB l s = true) : kindB kd rq l s = (decide (0 < rq) && decide (l.length = 0)) := by
  unfold kindB
  rw [if_pos hk]
  by_cases hl : l.length = 0
  · have e1 : l = [] := List.length_eq_zero_iff.1 hl
    subst e1
    rw [setB_none h]; simp
  · simp [hl]
theorem kind_2 {kd rq : Int} {l : List (Int × Int)} {s : List Sib} (hk : kd = 2) (h : setB l s = true) : kindB kd rq l s = decide (0 < rq) := by
  unfold kindB; subst hk; rw [h]; simp
theorem kind_3 {kd rq : Int} {l : List (Int × Int)} {s : List Sib} (hk : kd = 3) (h : setB l s = true) : kindB kd rq l s = decide (0 < l.length) := by
  unfold kindB; subst hk; rw [h]; simp
theorem kind_4 {kd rq : Int} {l : List (Int × Int)} {s : List Sib} (hk : kd = 4) (h : setB l s = true) : kindB kd rq l s = (decide (0 < l.length) && decide (s.length = 0)) := by
  unfold kindB; subst hk; rw [setB_right h]; simp [Bool.and_comm]
theorem isB_four {kd : Int} (h : isB kd 1 4 = true) : kd = 1 ∨ kd = 2 ∨ kd = 3 ∨ kd = 4 := by
  unfold isB at h
  simp only [Bool.and_eq_true, decide_eq_true_eq] at h
  omega
end Go.Proofs.Ytloenigleamcoaa.Sb

set_option linter.unusedSimpArgs false
set_option linter.unusedVariables false
namespace Go.Proofs.Ytloenigleamcoaa.Sb
open Go.Proofs.Ytloenigleamcoaa.Mk

def msgBody (kd fr tq rq : Int) (ky : ByteArray) (ow : Int) (l : List (Int × Int)) (s : List Sib) : ByteArray :=
  Nu.numS kd ++ Nu.numS fr ++ Nu.numS tq ++ Nu.numS rq ++ Nu.putText ky ++ Nu.numS ow ++ setBytes l s
def msgBytes (kd fr tq rq : Int) (ky : ByteArray) (ow : Int) (l : List (Int × Int)) (s : List Sib) : ByteArray := if msgB kd fr tq rq ky ow l s = true then Se.sealed (msgBody kd fr tq rq ky ow l s) else ⟨#[]⟩
theorem name_size {ky : ByteArray} (h : Nm.nameB ky = true) : 1 ≤ ky.size ∧ ky.size ≤ 20 := by
  unfold Nm.nameB at h
  simp only [Bool.and_eq_true, decide_eq_true_eq] at h
  exact h.1
structure MsgOk (kd fr tq rq : Int) (ky : ByteArray) (ow : Int) (l : List (Int × Int)) (s : List Sib) : Prop where
  kd1 : 1 ≤ kd
  kd2 : kd ≤ 4
  fr1 : 1 ≤ fr
  fr2 : fr ≤ 5
  tq1 : 1 ≤ tq
  tq2 : tq ≤ 5
  ow1 : 1 ≤ ow
  ow2 : ow ≤ 5
  rq1 : 0 ≤ rq
  rq2 : rq ≤ 1000000
  ky : Nm.nameB ky = true
  set : setB l s = true
theorem msgB_ok {kd fr tq rq : Int} {ky : ByteArray} {ow : Int} {l : List (Int × Int)} {s : List Sib} (h : msgB kd fr tq rq ky ow l s = true) : MsgOk kd fr tq rq ky ow l s := by
  have hk : isB kd 1 4 = true := by
    cases hc : isB kd 1 4
    · unfold msgB at h; rw [kind_no hc] at h; simp at h
    · rfl
  have hs : setB l s = true := by
    cases hc : setB l s
    · unfold msgB at h; rw [kind_ill hc] at h; simp at h
    · rfl
  unfold isB at hk
  unfold msgB hdB nodeB at h
  simp only [Bool.and_eq_true, decide_eq_true_eq] at h hk
  obtain ⟨⟨⟨⟨⟨⟨⟨a1, a2⟩, a3, a4⟩, a5, a6⟩, a7⟩, a8⟩, a9⟩, -⟩ := h
  exact ⟨hk.1, hk.2, a1, a2, a3, a4, a5, a6, a7, a8, a9, hs⟩
theorem putText_name {ky : ByteArray} (h : ky.size ≤ 20) : (Nu.putText ky).size ≤ 30 := by
  rw [Nu.putText_short ky (by omega), ByteArray.size_append]
  have := Nu.numS_size ky.size (by omega)
  omega
theorem setBytes_size {l : List (Int × Int)} {s : List Sib} (h : setB l s = true) : (setBytes l s).size ≤ 600 := by
  rw [setBytes_yes h]
  have : (ByteArray.mk (setBB l s).toArray).size = (setBB l s).length := by simp [ByteArray.size]
  rw [this]; exact setBB_len h
structure Sizes (kd fr tq rq : Int) (ky : ByteArray) (ow : Int) (l : List (Int × Int)) (s : List Sib) : Prop where
  kd : (Nu.numS kd).size ≤ 10
  fr : (Nu.numS fr).size ≤ 10
  tq : (Nu.numS tq).size ≤ 10
  rq : (Nu.numS rq).size ≤ 10
  ow : (Nu.numS ow).size ≤ 10
  ky : (Nu.putText ky).size ≤ 30
  st : (setBytes l s).size ≤ 600
theorem MsgOk.sizes {kd fr tq rq : Int} {ky : ByteArray} {ow : Int} {l : List (Int × Int)} {s : List Sib} (h : MsgOk kd fr tq rq ky ow l s) : Sizes kd fr tq rq ky ow l s := by
  obtain ⟨a1, a2, a3, a4, a5, a6, a7, a8, a9, a10, a11, a12⟩ := h
  exact ⟨Nu.numS_size_of _ (by omega), Nu.numS_size_of _ (by omega), Nu.numS_size_of _ (by omega), Nu.numS_size_of _ (by omega), Nu.numS_size_of _ (by omega), putText_name (name_size a11).2, setBytes_size a12⟩
end Go.Proofs.Ytloenigleamcoaa.Sb

set_option linter.unusedSimpArgs false
set_option linter.unusedVariables false
namespace Go.Proofs.Ytloenigleamcoaa.Sb
open Go.RowKit Go.Proofs.Ytloenigleamcoaa.Mk Go.Proofs.Ytloenigleamcoaa.Rw

theorem spec_time (n : Int) (w : World) : Calls Try.prog 28 #[.int .i64 n] w fun e w' => e = .returned (.bool (isB n 0 1000000)) ∧ w = w' := by
  go_enter Try.func28, Try.ntmps28
  go_wp2_with (go_at_call 26; refine (spec_is _ _ _ _).mono ?_; rintro e w' ⟨rfl, rfl⟩)
  go_ret
  exact ⟨rfl, rfl⟩
set_option maxRecDepth 100000 in
set_option maxHeartbeats 400000 in
theorem spec_msgRight (kd fr tq rq : Int) (ky : ByteArray) (ow : Int) (a b : Option Addr) (cap cap' : Nat) (l : List (Int × Int)) (s : List Sib) (w : World) (hl : l.length ≤ maxLen) (hs : s.length ≤ maxLen) (hd : SmallData s) (hy : ky.size ≤ maxLen) (h : MarksAt w a l) (h' : SibsAt w b s) :
    Calls Try.prog 8 #[.agg #[.int .i64 kd, .int .i64 fr, .int .i64 tq, .int .i64 rq, .string ky, .int .i64 ow, .slice a l.length cap, .slice b s.length cap']] w fun e w' => e = .returned (.bool (msgB kd fr tq rq ky ow l s)) ∧ Below w.heap.size w w' := by
  have H := Lib.hid h
  have H' := Lib.hid h'
  have HS := Lib.hid hd
  have D := Lib.hid (show Base w _ from step_alloc w (.cells #[.int .i64 kd, .int .i64 fr, .int .i64 tq, .int .i64 rq, .string ky, .int .i64 ow, .slice a l.length cap, .slice b s.length cap'] 35))
  have X := Lib.hid (Cells.new w #[.int .i64 kd, .int .i64 fr, .int .i64 tq, .int .i64 rq, .string ky, .int .i64 ow, .slice a l.length cap, .slice b s.length cap'] 35)
  simp only [List.toList_toArray] at X
  clear h h' hd
  go_enter Try.func8, Try.ntmps8
  go_wp2_with fail
  refine (spec_is kd 1 4 _).mono ?_
  rintro e w' ⟨rfl, rfl⟩
  cases hc : isB kd 1 4
  · have HC := Lib.hid (show msgB kd fr tq rq ky ow l s = false by unfold msgB; rw [kind_no hc]; simp)
    clear hc
    go_wp2
    go_ret
    exact ⟨ret_bool HC.out.symm, D.out⟩
  have C0 := Lib.hid hc
  clear hc
  go_wp2_with fail
  refine (spec_node fr _).mono ?_
  rintro e w' ⟨rfl, rfl⟩
  cases hc : isB fr 1 5
  · have HC := Lib.hid (show msgB kd fr tq rq ky ow l s = false by unfold msgB; unfold hdB; rw [nodeB_is] at hc; rw [hc]; simp)
    clear hc
    go_wp2
    go_ret
    exact ⟨ret_bool HC.out.symm, D.out⟩
  have C1 := Lib.hid hc
  clear hc
  go_wp2_with fail
  refine (spec_node tq _).mono ?_
  rintro e w' ⟨rfl, rfl⟩
  cases hc : isB tq 1 5
  · have HC := Lib.hid (show msgB kd fr tq rq ky ow l s = false by unfold msgB; unfold hdB; rw [nodeB_is] at hc; rw [hc]; simp)
    clear hc
    go_wp2
    go_ret
    exact ⟨ret_bool HC.out.symm, D.out⟩
  have C2 := Lib.hid hc
  clear hc
  go_wp2_with fail
  refine (spec_node ow _).mono ?_
  rintro e w' ⟨rfl, rfl⟩
  cases hc : isB ow 1 5
  · have HC := Lib.hid (show msgB kd fr tq rq ky ow l s = false by unfold msgB; unfold hdB; rw [nodeB_is] at hc; rw [hc]; simp)
    clear hc
    go_wp2
    go_ret
    exact ⟨ret_bool HC.out.symm, D.out⟩
  have C3 := Lib.hid hc
  clear hc
  go_wp2_with fail
  refine (spec_time rq _).mono ?_
  rintro e w' ⟨rfl, rfl⟩
  cases hc : isB rq 0 1000000
  · have HC := Lib.hid (show msgB kd fr tq rq ky ow l s = false by unfold msgB; unfold hdB; unfold isB at hc; rw [Bool.and_assoc _ (decide (0 ≤ rq)) (decide (rq ≤ 1000000)), hc]; simp)
    clear hc
    go_wp2
    go_ret
    exact ⟨ret_bool HC.out.symm, D.out⟩
  have C4 := Lib.hid hc
  clear hc
  go_wp2_with fail
  refine (Nm.spec_NameRight ky hy _).mono ?_
  rintro e w' ⟨rfl, rfl⟩
  cases hc : Nm.nameB ky
  · have HC := Lib.hid (show msgB kd fr tq rq ky ow l s = false by unfold msgB; unfold hdB; rw [hc]; simp)
    clear hc
    go_wp2
    go_ret
    exact ⟨ret_bool HC.out.symm, D.out⟩
  have C5 := Lib.hid hc
  clear hc
  go_wp2_with fail
  generalize w.alloc (.cells #[.int .i64 kd, .int .i64 fr, .int .i64 tq, .int .i64 rq, .string ky, .int .i64 ow, .slice a l.length cap, .slice b s.length cap'] 35) = w0 at D X ⊢
  refine (spec_setRight a b cap cap' l s w0 hl hs HS.out (H.out.mono D.out) (H'.out.mono D.out)).mono ?_
  rintro e w1 ⟨rfl, hb⟩
  replace D := Lib.hid (D.out.below hb)
  replace X := Lib.hid (X.out.below hb)
  clear hb
  cases hc : setB l s
  · have HC := Lib.hid (show msgB kd fr tq rq ky ow l s = false by unfold msgB; rw [kind_ill hc]; simp)
    clear hc
    go_wp2
    go_ret
    exact ⟨ret_bool HC.out.symm, D.out⟩
  have HH := Lib.hid (show msgB kd fr tq rq ky ow l s = kindB kd rq l s by
    have e4 := C4.out
    unfold isB at e4
    simp only [Bool.and_eq_true, decide_eq_true_eq] at e4
    unfold msgB hdB; rw [show nodeB fr = true from C1.out, show nodeB tq = true from C2.out, show nodeB ow = true from C3.out, C5.out, decide_eq_true e4.1, decide_eq_true e4.2]; simp)
  have C6 := Lib.hid hc
  clear hc
  obtain ⟨x0, x1, x2, x3, x4, x5, x6, x7, _⟩ := X.out.c8
  rcases isB_four C0.out with hk | hk | hk | hk
  · have HK := Lib.hid (HH.out.trans (kind_1 hk C6.out))
    subst hk
    clear C0 C1 C2 C3 C4 C5 C6 HH
    by_cases h1 : 0 < rq <;> by_cases h2 : l.length = 0
    all_goals go_wp2
    all_goals go_ret
    all_goals exact ⟨ret_bool (by rw [HK.out] <;> first | (simp [h1, h2]; done) | (simp [h1, h2]; omega) | (simp; omega)), D.out⟩
  · have HK := Lib.hid (HH.out.trans (kind_2 hk C6.out))
    subst hk
    clear C0 C1 C2 C3 C4 C5 C6 HH
    by_cases h1 : 0 < rq
    all_goals go_wp2
    all_goals go_ret
    all_goals exact ⟨ret_bool (by rw [HK.out] <;> first | (simp [h1]; done) | (simp [h1]; omega) | (simp; omega) | (simp; intros; omega)), D.out⟩
  · have HK := Lib.hid (HH.out.trans (kind_3 hk C6.out))
    subst hk
    clear C0 C1 C2 C3 C4 C5 C6 HH
    by_cases h1 : 0 < l.length
    all_goals go_wp2
    all_goals go_ret
    all_goals exact ⟨ret_bool (by rw [HK.out] <;> first | (simp [h1]; done) | (simp [h1]; omega) | (simp; omega) | (simp; intros; omega)), D.out⟩
  · have HK := Lib.hid (HH.out.trans (kind_4 hk C6.out))
    subst hk
    clear C0 C1 C2 C3 C4 C5 C6 HH
    by_cases h1 : 0 < l.length <;> by_cases h2 : s.length = 0
    all_goals go_wp2
    all_goals go_ret
    all_goals exact ⟨ret_bool (by rw [HK.out] <;> first | (simp [h1, h2]; done) | (simp [h1, h2]; omega) | (simp; omega)), D.out⟩
end Go.Proofs.Ytloenigleamcoaa.Sb

set_option linter.unusedSimpArgs false
set_option linter.unusedVariables false
namespace Go.Proofs.Ytloenigleamcoaa.Sb
open Go.RowKit Go.Proofs.Ytloenigleamcoaa.Mk Go.Proofs.Ytloenigleamcoaa.Rw

theorem cells_h8 {w : World} {g : Nat} {v0 v1 v2 v3 v4 v5 v6 v7 : Value} (h : Cells w g [v0, v1, v2, v3, v4, v5, v6, v7]) : w.cell? ⟨g, 0, none⟩ = some v0 ∧ w.cell? ⟨g, 1, none⟩ = some v1 ∧ w.cell? ⟨g, 2, none⟩ = some v2 ∧ w.cell? ⟨g, 3, none⟩ = some v3 ∧ w.cell? ⟨g, 4, none⟩ = some v4 ∧ w.cell? ⟨g, 5, none⟩ = some v5 ∧ w.cell? ⟨g, 6, none⟩ = some v6 ∧ w.cell? ⟨g, 7, none⟩ = some v7 :=
  ⟨h.cell 0 (by simp), h.cell 1 (by simp), h.cell 2 (by simp), h.cell 3 (by simp), h.cell 4 (by simp), h.cell 5 (by simp), h.cell 6 (by simp), h.cell 7 (by simp)⟩
set_option maxRecDepth 100000 in
set_option maxHeartbeats 4000000 in
theorem spec_l08Bytes (kd fr tq rq : Int) (ky : ByteArray) (ow : Int) (a b : Option Addr) (cap cap' : Nat) (l : List (Int × Int)) (s : List Sib) (w : World) (hm : msgB kd fr tq rq ky ow l s = true) (h : MarksAt w a l) (h' : SibsAt w b s) :
    Calls Try.prog 32 #[.agg #[.int .i64 kd, .int .i64 fr, .int .i64 tq, .int .i64 rq, .string ky, .int .i64 ow, .slice a l.length cap, .slice b s.length cap']] w fun e w' => e = .returned (.string (Se.sealed (msgBody kd fr tq rq ky ow l s))) ∧ Below w.heap.size w w' := by
  have H := Lib.hid h
  have H' := Lib.hid h'
  have D := Lib.hid (show Base w _ from step_alloc w (.cells #[.int .i64 kd, .int .i64 fr, .int .i64 tq, .int .i64 rq, .string ky, .int .i64 ow, .slice a l.length cap, .slice b s.length cap'] 35))
  have X := Lib.hid (Cells.new w #[.int .i64 kd, .int .i64 fr, .int .i64 tq, .int .i64 rq, .string ky, .int .i64 ow, .slice a l.length cap, .slice b s.length cap'] 35)
  simp only [List.toList_toArray] at X
  obtain ⟨k1, k2, k3, k4, k5, k6, k7, k8, k9, k10, kn, ks⟩ := msgB_ok hm
  obtain ⟨z1, z2, z3, z4, z5, z6, z7⟩ := (msgB_ok hm).sizes
  have kz := (name_size kn).2
  have HN := Lib.hid ks
  clear kn ks
  have y2 : ¬ 9223372036854775807 < (Nu.numS kd).size + (Nu.numS fr).size := by omega
  have y3 : ¬ 9223372036854775807 < (Nu.numS kd).size + (Nu.numS fr).size + (Nu.numS tq).size := by omega
  have y4 : ¬ 9223372036854775807 < (Nu.numS kd).size + (Nu.numS fr).size + (Nu.numS tq).size + (Nu.numS rq).size := by omega
  have y5 : ¬ 9223372036854775807 < (Nu.numS kd).size + (Nu.numS fr).size + (Nu.numS tq).size + (Nu.numS rq).size + (Nu.putText ky).size := by omega
  have y6 : ¬ 9223372036854775807 < (Nu.numS kd).size + (Nu.numS fr).size + (Nu.numS tq).size + (Nu.numS rq).size + (Nu.putText ky).size + (Nu.numS ow).size := by omega
  have y7 : ¬ 9223372036854775807 < (Nu.numS kd).size + (Nu.numS fr).size + (Nu.numS tq).size + (Nu.numS rq).size + (Nu.putText ky).size + (Nu.numS ow).size + (setBytes l s).size := by omega
  have HM := Lib.hid hm
  clear h h' hm
  replace X := Lib.hid (X.out.below (step_drew _))
  replace D := Lib.hid (D.out.below (step_drew _))
  go_enter Try.func32, Try.ntmps32
  go_wp2_with fail
  refine wp_region_held_drew (S := fun w' => w'.cell? ⟨w.heap.size, 0, none⟩ = some (.int .i64 kd) ∧ w'.cell? ⟨w.heap.size, 1, none⟩ = some (.int .i64 fr) ∧ w'.cell? ⟨w.heap.size, 2, none⟩ = some (.int .i64 tq) ∧ w'.cell? ⟨w.heap.size, 3, none⟩ = some (.int .i64 rq) ∧ w'.cell? ⟨w.heap.size, 4, none⟩ = some (.string ky) ∧ w'.cell? ⟨w.heap.size, 5, none⟩ = some (.int .i64 ow) ∧ w'.cell? ⟨w.heap.size, 6, none⟩ = some (.slice a l.length cap) ∧ w'.cell? ⟨w.heap.size, 7, none⟩ = some (.slice b s.length cap')) (by kernel_rfl) (by exact cells_h8 X.out) (fun hHeld => ?_)
  refine wpAnyH_take (i := 0) (v := ?_) rfl (by kernel_rfl) (by kernel_rfl) (by kernel_rfl) (fun _ _ _ h => h) (Or.inl ⟨by rfl, fun w hSw => by (try dsimp only at hSw); go_simp; (try with_reducible rfl)⟩) (by assumption) ?_
  try simp only [Act.put, List.setIfInBounds_toArray, List.set_cons_zero, List.set_cons_succ, List.getElem_toArray, List.getElem_cons_zero, List.getElem_cons_succ]
  refine wpAnyH_take (i := 1) (v := ?_) rfl (by kernel_rfl) (by kernel_rfl) (by kernel_rfl) (fun _ _ _ h => h) (Or.inl ⟨by rfl, fun w hSw => by (try dsimp only at hSw); go_simp; (try with_reducible rfl)⟩) (by assumption) ?_
  try simp only [Act.put, List.setIfInBounds_toArray, List.set_cons_zero, List.set_cons_succ, List.getElem_toArray, List.getElem_cons_zero, List.getElem_cons_succ]
  refine wpAnyH_take (i := 3) (v := ?_) rfl (by kernel_rfl) (by kernel_rfl) (by kernel_rfl) (fun _ _ _ h => h) (Or.inl ⟨by rfl, fun w hSw => by (try dsimp only at hSw); go_simp; (try with_reducible rfl)⟩) (by assumption) ?_
  try simp only [Act.put, List.setIfInBounds_toArray, List.set_cons_zero, List.set_cons_succ, List.getElem_toArray, List.getElem_cons_zero, List.getElem_cons_succ]
  refine wpAnyH_take (i := 4) (v := ?_) rfl (by kernel_rfl) (by kernel_rfl) (by kernel_rfl) (fun _ _ _ h => h) (Or.inl ⟨by rfl, fun w hSw => by (try dsimp only at hSw); go_simp; (try with_reducible rfl)⟩) (by assumption) ?_
  try simp only [Act.put, List.setIfInBounds_toArray, List.set_cons_zero, List.set_cons_succ, List.getElem_toArray, List.getElem_cons_zero, List.getElem_cons_succ]
  refine wpAnyH_take (i := 7) (v := ?_) rfl (by kernel_rfl) (by kernel_rfl) (by kernel_rfl) (fun _ _ _ h => h) (Or.inl ⟨by rfl, fun w hSw => by (try dsimp only at hSw); go_simp; (try with_reducible rfl)⟩) (by assumption) ?_
  try simp only [Act.put, List.setIfInBounds_toArray, List.set_cons_zero, List.set_cons_succ, List.getElem_toArray, List.getElem_cons_zero, List.getElem_cons_succ]
  refine wpAnyH_take (i := 8) (v := ?_) rfl (by kernel_rfl) (by kernel_rfl) (by kernel_rfl) (fun _ _ _ h => h) (Or.inl ⟨by rfl, fun w hSw => by (try dsimp only at hSw); go_simp; (try with_reducible rfl)⟩) (by assumption) ?_
  try simp only [Act.put, List.setIfInBounds_toArray, List.set_cons_zero, List.set_cons_succ, List.getElem_toArray, List.getElem_cons_zero, List.getElem_cons_succ]
  refine wpAnyH_take (i := 11) (v := ?_) rfl (by kernel_rfl) (by kernel_rfl) (by kernel_rfl) (fun _ _ _ h => h) (Or.inl ⟨by rfl, fun w hSw => by (try dsimp only at hSw); go_simp; (try with_reducible rfl)⟩) (by assumption) ?_
  try simp only [Act.put, List.setIfInBounds_toArray, List.set_cons_zero, List.set_cons_succ, List.getElem_toArray, List.getElem_cons_zero, List.getElem_cons_succ]
  refine wpAnyH_take (i := 12) (v := ?_) rfl (by kernel_rfl) (by kernel_rfl) (by kernel_rfl) (fun _ _ _ h => h) (Or.inl ⟨by rfl, fun w hSw => by (try dsimp only at hSw); go_simp; (try with_reducible rfl)⟩) (by assumption) ?_
  try simp only [Act.put, List.setIfInBounds_toArray, List.set_cons_zero, List.set_cons_succ, List.getElem_toArray, List.getElem_cons_zero, List.getElem_cons_succ]
  refine wpAnyH_take (i := 15) (v := ?_) rfl (by kernel_rfl) (by kernel_rfl) (by kernel_rfl) (fun _ _ _ h => h) (Or.inl ⟨by rfl, fun w hSw => by (try dsimp only at hSw); go_simp; (try with_reducible rfl)⟩) (by assumption) ?_
  try simp only [Act.put, List.setIfInBounds_toArray, List.set_cons_zero, List.set_cons_succ, List.getElem_toArray, List.getElem_cons_zero, List.getElem_cons_succ]
  refine wpAnyH_take (i := 16) (v := ?_) rfl (by kernel_rfl) (by kernel_rfl) (by kernel_rfl) (fun _ _ _ h => h) (Or.inl ⟨by rfl, fun w hSw => by (try dsimp only at hSw); go_simp; (try with_reducible rfl)⟩) (by assumption) ?_
  try simp only [Act.put, List.setIfInBounds_toArray, List.set_cons_zero, List.set_cons_succ, List.getElem_toArray, List.getElem_cons_zero, List.getElem_cons_succ]
  refine wpAnyH_take (i := 19) (v := ?_) rfl (by kernel_rfl) (by kernel_rfl) (by kernel_rfl) (fun _ _ _ h => h) (Or.inl ⟨by rfl, fun w hSw => by (try dsimp only at hSw); go_simp; (try with_reducible rfl)⟩) (by assumption) ?_
  try simp only [Act.put, List.setIfInBounds_toArray, List.set_cons_zero, List.set_cons_succ, List.getElem_toArray, List.getElem_cons_zero, List.getElem_cons_succ]
  refine wpAnyH_take (i := 20) (v := ?_) rfl (by kernel_rfl) (by kernel_rfl) (by kernel_rfl) (fun _ _ _ h => h) (Or.inl ⟨by rfl, fun w hSw => by (try dsimp only at hSw); go_simp; (try with_reducible rfl)⟩) (by assumption) ?_
  try simp only [Act.put, List.setIfInBounds_toArray, List.set_cons_zero, List.set_cons_succ, List.getElem_toArray, List.getElem_cons_zero, List.getElem_cons_succ]
  refine wpAnyH_take (i := 23) (v := ?_) rfl (by kernel_rfl) (by kernel_rfl) (by kernel_rfl) (fun _ _ _ h => h) (Or.inl ⟨by rfl, fun w hSw => by (try dsimp only at hSw); go_simp; (try with_reducible rfl)⟩) (by assumption) ?_
  try simp only [Act.put, List.setIfInBounds_toArray, List.set_cons_zero, List.set_cons_succ, List.getElem_toArray, List.getElem_cons_zero, List.getElem_cons_succ]
  refine wpAnyH_take (i := 24) (v := ?_) rfl (by kernel_rfl) (by kernel_rfl) (by kernel_rfl) (fun _ _ _ h => h) (Or.inl ⟨by rfl, fun w hSw => by (try dsimp only at hSw); go_simp; (try with_reducible rfl)⟩) (by assumption) ?_
  try simp only [Act.put, List.setIfInBounds_toArray, List.set_cons_zero, List.set_cons_succ, List.getElem_toArray, List.getElem_cons_zero, List.getElem_cons_succ]
  refine wpAnyH_ready (rs := [2]) (by kernel_rfl) (by simp) ?_
  refine AllReadyH.cons rfl (fun K hK => ?_) AllReadyH.nil
  go_simp
  go_at_call 61
  refine (Nu.spec_PutNum kd (WalkArith.wf_i64 (by omega)) _).mono ?_
  rintro e w1 ⟨rfl, hb⟩
  rw [Nu.numS_mk]
  replace X := Lib.hid (X.out.below hb)
  replace D := Lib.hid (D.out.below hb)
  clear hb
  go_wp2_with fail
  refine hK.out _ _ (by exact cells_h8 X.out) (fun hHeld => ?_)
  clear hK K
  try simp only [Act.put, List.setIfInBounds_toArray, List.set_cons_zero, List.set_cons_succ, List.getElem_toArray, List.getElem_cons_zero, List.getElem_cons_succ]
  refine wpAnyH_ready (rs := [5]) (by kernel_rfl) (by simp) ?_
  refine AllReadyH.cons rfl (fun K hK => ?_) AllReadyH.nil
  go_simp
  go_at_call 61
  refine (Nu.spec_PutNum fr (WalkArith.wf_i64 (by omega)) _).mono ?_
  rintro e w2 ⟨rfl, hb⟩
  rw [Nu.numS_mk]
  replace X := Lib.hid (X.out.below hb)
  replace D := Lib.hid (D.out.below hb)
  clear hb
  go_wp2_with fail
  refine hK.out _ _ (by exact cells_h8 X.out) (fun hHeld => ?_)
  clear hK K
  try simp only [Act.put, List.setIfInBounds_toArray, List.set_cons_zero, List.set_cons_succ, List.getElem_toArray, List.getElem_cons_zero, List.getElem_cons_succ]
  refine wpAnyH_take (i := 6) (v := ?_) rfl (by kernel_rfl) (by kernel_rfl) (by kernel_rfl) (fun _ _ _ h => h) (Or.inl ⟨by rfl, fun w hSw => by (try dsimp only at hSw); go_simp; (try with_reducible rfl)⟩) (by assumption) ?_
  try simp only [Act.put, List.setIfInBounds_toArray, List.set_cons_zero, List.set_cons_succ, List.getElem_toArray, List.getElem_cons_zero, List.getElem_cons_succ]
  refine wpAnyH_ready (rs := [9]) (by kernel_rfl) (by simp) ?_
  refine AllReadyH.cons rfl (fun K hK => ?_) AllReadyH.nil
  go_simp
  go_at_call 61
  refine (Nu.spec_PutNum tq (WalkArith.wf_i64 (by omega)) _).mono ?_
  rintro e w3 ⟨rfl, hb⟩
  rw [Nu.numS_mk]
  replace X := Lib.hid (X.out.below hb)
  replace D := Lib.hid (D.out.below hb)
  clear hb
  go_wp2_with fail
  refine hK.out _ _ (by exact cells_h8 X.out) (fun hHeld => ?_)
  clear hK K
  try simp only [Act.put, List.setIfInBounds_toArray, List.set_cons_zero, List.set_cons_succ, List.getElem_toArray, List.getElem_cons_zero, List.getElem_cons_succ]
  refine wpAnyH_take (i := 10) (v := ?_) rfl (by kernel_rfl) (by kernel_rfl) (by kernel_rfl) (fun _ _ _ h => h) (Or.inl ⟨by rfl, fun w hSw => by (try dsimp only at hSw); go_simp; (try with_reducible rfl)⟩) (by assumption) ?_
  try simp only [Act.put, List.setIfInBounds_toArray, List.set_cons_zero, List.set_cons_succ, List.getElem_toArray, List.getElem_cons_zero, List.getElem_cons_succ]
  refine wpAnyH_ready (rs := [13]) (by kernel_rfl) (by simp) ?_
  refine AllReadyH.cons rfl (fun K hK => ?_) AllReadyH.nil
  go_simp
  go_at_call 61
  refine (Nu.spec_PutNum rq (WalkArith.wf_i64 (by omega)) _).mono ?_
  rintro e w4 ⟨rfl, hb⟩
  rw [Nu.numS_mk]
  replace X := Lib.hid (X.out.below hb)
  replace D := Lib.hid (D.out.below hb)
  clear hb
  go_wp2_with fail
  refine hK.out _ _ (by exact cells_h8 X.out) (fun hHeld => ?_)
  clear hK K
  try simp only [Act.put, List.setIfInBounds_toArray, List.set_cons_zero, List.set_cons_succ, List.getElem_toArray, List.getElem_cons_zero, List.getElem_cons_succ]
  refine wpAnyH_take (i := 14) (v := ?_) rfl (by kernel_rfl) (by kernel_rfl) (by kernel_rfl) (fun _ _ _ h => h) (Or.inl ⟨by rfl, fun w hSw => by (try dsimp only at hSw); go_simp; (try with_reducible rfl)⟩) (by assumption) ?_
  try simp only [Act.put, List.setIfInBounds_toArray, List.set_cons_zero, List.set_cons_succ, List.getElem_toArray, List.getElem_cons_zero, List.getElem_cons_succ]
  refine wpAnyH_ready (rs := [17]) (by kernel_rfl) (by simp) ?_
  refine AllReadyH.cons rfl (fun K hK => ?_) AllReadyH.nil
  go_simp
  go_at_call 62
  refine (Nu.spec_PutText ky (by unfold maxLen; omega) _).mono ?_
  rintro e w5 ⟨rfl, hb⟩
  replace X := Lib.hid (X.out.below hb)
  replace D := Lib.hid (D.out.below hb)
  clear hb
  go_wp2_with fail
  refine hK.out _ _ (by exact cells_h8 X.out) (fun hHeld => ?_)
  clear hK K
  try simp only [Act.put, List.setIfInBounds_toArray, List.set_cons_zero, List.set_cons_succ, List.getElem_toArray, List.getElem_cons_zero, List.getElem_cons_succ]
  refine wpAnyH_take (i := 18) (v := ?_) rfl (by kernel_rfl) (by kernel_rfl) (by kernel_rfl) (fun _ _ _ h => h) (Or.inl ⟨by rfl, fun w hSw => by (try dsimp only at hSw); go_simp; (try with_reducible rfl)⟩) (by assumption) ?_
  try simp only [Act.put, List.setIfInBounds_toArray, List.set_cons_zero, List.set_cons_succ, List.getElem_toArray, List.getElem_cons_zero, List.getElem_cons_succ]
  refine wpAnyH_ready (rs := [21]) (by kernel_rfl) (by simp) ?_
  refine AllReadyH.cons rfl (fun K hK => ?_) AllReadyH.nil
  go_simp
  go_at_call 61
  refine (Nu.spec_PutNum ow (WalkArith.wf_i64 (by omega)) _).mono ?_
  rintro e w6 ⟨rfl, hb⟩
  rw [Nu.numS_mk]
  replace X := Lib.hid (X.out.below hb)
  replace D := Lib.hid (D.out.below hb)
  clear hb
  go_wp2_with fail
  refine hK.out _ _ (by exact cells_h8 X.out) (fun hHeld => ?_)
  clear hK K
  try simp only [Act.put, List.setIfInBounds_toArray, List.set_cons_zero, List.set_cons_succ, List.getElem_toArray, List.getElem_cons_zero, List.getElem_cons_succ]
  refine wpAnyH_take (i := 22) (v := ?_) rfl (by kernel_rfl) (by kernel_rfl) (by kernel_rfl) (fun _ _ _ h => h) (Or.inl ⟨by rfl, fun w hSw => by (try dsimp only at hSw); go_simp; (try with_reducible rfl)⟩) (by assumption) ?_
  try simp only [Act.put, List.setIfInBounds_toArray, List.set_cons_zero, List.set_cons_succ, List.getElem_toArray, List.getElem_cons_zero, List.getElem_cons_succ]
  refine wpAnyH_ready (rs := [25]) (by kernel_rfl) (by simp) ?_
  refine AllReadyH.cons rfl (fun K hK => ?_) AllReadyH.nil
  go_simp
  go_at_call 63
  refine (spec_bytesOf a b cap cap' l s _ HN.out (H.out.mono D.out) (H'.out.mono D.out)).mono ?_
  rintro e w7 ⟨rfl, hb⟩
  replace X := Lib.hid (X.out.below hb)
  replace D := Lib.hid (D.out.below hb)
  clear hb
  go_wp2_with fail
  refine hK.out _ _ (by exact cells_h8 X.out) (fun hHeld => ?_)
  clear hK K
  try simp only [Act.put, List.setIfInBounds_toArray, List.set_cons_zero, List.set_cons_succ, List.getElem_toArray, List.getElem_cons_zero, List.getElem_cons_succ]
  refine wpAnyH_take (i := 26) (v := ?_) rfl (by kernel_rfl) (by kernel_rfl) (by kernel_rfl) (fun _ _ _ h => h) (Or.inl ⟨by rfl, fun w hSw => by (try dsimp only at hSw); go_simp; (try with_reducible rfl)⟩) (by assumption) ?_
  try simp only [Act.put, List.setIfInBounds_toArray, List.set_cons_zero, List.set_cons_succ, List.getElem_toArray, List.getElem_cons_zero, List.getElem_cons_succ]
  refine wpAnyH_ready (rs := [27]) (by kernel_rfl) (by simp) ?_
  refine AllReadyH.cons rfl (fun K hK => ?_) AllReadyH.nil
  go_simp
  go_at_call 60
  have ht : (msgBody kd fr tq rq ky ow l s).size ≤ maxLen := by unfold maxLen msgBody; simp only [ByteArray.size_append]; omega
  refine (Se.spec_Seal _ ht _).mono ?_
  rintro e w8 ⟨rfl, hb⟩
  replace X := Lib.hid (X.out.below hb)
  replace D := Lib.hid (D.out.below hb)
  clear hb
  go_wp2_with fail
  refine hK.out _ _ (by exact cells_h8 X.out) (fun hHeld => ?_)
  clear hK K
  try simp only [Act.put, List.setIfInBounds_toArray, List.set_cons_zero, List.set_cons_succ, List.getElem_toArray, List.getElem_cons_zero, List.getElem_cons_succ]
  refine wpAnyH_take (i := 28) (v := ?_) rfl (by kernel_rfl) (by kernel_rfl) (by kernel_rfl) (fun _ _ _ h => h) (Or.inl ⟨by rfl, fun w hSw => by (try dsimp only at hSw); go_simp; (try with_reducible rfl)⟩) (by assumption) ?_
  try simp only [Act.put, List.setIfInBounds_toArray, List.set_cons_zero, List.set_cons_succ, List.getElem_toArray, List.getElem_cons_zero, List.getElem_cons_succ]
  refine wpAnyH_done (by kernel_rfl) ?_ _
  go_wp2
  go_ret
  exact ⟨rfl, D.out⟩
set_option maxRecDepth 100000 in
set_option maxHeartbeats 4000000 in
theorem spec_msgBytes (kd fr tq rq : Int) (ky : ByteArray) (ow : Int) (a b : Option Addr) (cap cap' : Nat) (l : List (Int × Int)) (s : List Sib) (w : World) (hl : l.length ≤ maxLen) (hs : s.length ≤ maxLen) (hd : SmallData s) (hy : ky.size ≤ maxLen) (h : MarksAt w a l) (h' : SibsAt w b s) :
    Calls Try.prog 12 #[.agg #[.int .i64 kd, .int .i64 fr, .int .i64 tq, .int .i64 rq, .string ky, .int .i64 ow, .slice a l.length cap, .slice b s.length cap']] w fun e w' => e = .returned (.string (msgBytes kd fr tq rq ky ow l s)) ∧ Below w.heap.size w w' := by
  have H := Lib.hid h
  have H' := Lib.hid h'
  have HS := Lib.hid hd
  have D := Lib.hid (show Base w _ from step_alloc w (.cells #[.int .i64 kd, .int .i64 fr, .int .i64 tq, .int .i64 rq, .string ky, .int .i64 ow, .slice a l.length cap, .slice b s.length cap'] 35))
  have X := Lib.hid (Cells.new w #[.int .i64 kd, .int .i64 fr, .int .i64 tq, .int .i64 rq, .string ky, .int .i64 ow, .slice a l.length cap, .slice b s.length cap'] 35)
  simp only [List.toList_toArray] at X
  clear h h' hd
  go_enter Try.func12, Try.ntmps12
  go_wp2_with fail
  generalize w.alloc (.cells #[.int .i64 kd, .int .i64 fr, .int .i64 tq, .int .i64 rq, .string ky, .int .i64 ow, .slice a l.length cap, .slice b s.length cap'] 35) = w0 at D X ⊢
  refine (spec_msgRight kd fr tq rq ky ow a b cap cap' l s _ hl hs HS.out hy (H.out.mono D.out) (H'.out.mono D.out)).mono ?_
  rintro e w1 ⟨rfl, hb⟩
  replace X := Lib.hid (X.out.below hb)
  replace D := Lib.hid (D.out.below hb)
  clear hb
  cases hm : msgB kd fr tq rq ky ow l s
  · have HM := Lib.hid (show msgBytes kd fr tq rq ky ow l s = ⟨#[]⟩ from if_neg (by rw [hm]; simp))
    clear hm
    go_wp2
    go_ret
    exact ⟨Se.ret_str HM.out.symm, D.out⟩
  · have HM := Lib.hid (show msgBytes kd fr tq rq ky ow l s = Se.sealed (msgBody kd fr tq rq ky ow l s) from if_pos hm)
    have HB := Lib.hid hm
    clear hm
    obtain ⟨x0, x1, x2, x3, x4, x5, x6, x7⟩ := cells_h8 X.out
    go_wp2_with fail
    refine (spec_l08Bytes kd fr tq rq ky ow a b cap cap' l s _ HB.out (H.out.mono D.out) (H'.out.mono D.out)).mono ?_
    rintro e w2 ⟨rfl, hb⟩
    replace D := Lib.hid (D.out.below hb)
    clear hb
    go_wp2
    go_ret
    exact ⟨Se.ret_str HM.out.symm, D.out⟩
end Go.Proofs.Ytloenigleamcoaa.Sb

set_option linter.unusedSimpArgs false
set_option linter.unusedVariables false
namespace Go.Proofs.Ytloenigleamcoaa.Sb
open Go.RowKit Go.Proofs.Ytloenigleamcoaa.Mk Go.Proofs.Ytloenigleamcoaa.Rw

set_option maxRecDepth 100000 in
set_option maxHeartbeats 400000 in
theorem hd_right (fr tq rq : Int) (ky : ByteArray) (ow : Int) (w : World) (hy : ky.size ≤ maxLen) :
    Calls Try.prog 139 #[.agg #[.int .i64 fr, .int .i64 tq, .int .i64 rq, .string ky, .int .i64 ow]] w fun e w' => e = .returned (.bool (hdB fr tq rq ky ow)) ∧ Below w.heap.size w w' := by
  have D := Lib.hid (show Base w _ from step_alloc w (.cells #[.int .i64 fr, .int .i64 tq, .int .i64 rq, .string ky, .int .i64 ow] 88))
  by_cases h4 : 0 ≤ rq <;> by_cases h5 : rq ≤ 1000000
  · go_enter Try.func139, Try.ntmps139
    go_wp2_with fail
    refine (nodeRight fr _).mono ?_
    rintro e w' ⟨rfl, rfl⟩
    cases c0 : nodeB fr
    · have HC := Lib.hid (show hdB fr tq rq ky ow = false by unfold hdB; rw [c0]; simp)
      clear c0
      go_wp2
      go_ret
      exact ⟨ret_bool HC.out.symm, D.out⟩
    go_wp2_with fail
    refine (nodeRight tq _).mono ?_
    rintro e w' ⟨rfl, rfl⟩
    cases c1 : nodeB tq
    · have HC := Lib.hid (show hdB fr tq rq ky ow = false by unfold hdB; rw [c1]; simp)
      clear c1
      go_wp2
      go_ret
      exact ⟨ret_bool HC.out.symm, D.out⟩
    go_wp2_with fail
    refine (nodeRight ow _).mono ?_
    rintro e w' ⟨rfl, rfl⟩
    cases c2 : nodeB ow
    · have HC := Lib.hid (show hdB fr tq rq ky ow = false by unfold hdB; rw [c2]; simp)
      clear c2
      go_wp2
      go_ret
      exact ⟨ret_bool HC.out.symm, D.out⟩
    have HC := Lib.hid (show hdB fr tq rq ky ow = Nm.nameB ky by unfold hdB; rw [c0, c1, c2, decide_eq_true h4, decide_eq_true h5]; simp)
    clear c0 c1 c2
    go_wp2_with fail
    refine (Nm.impl_NameRight ky hy _).mono ?_
    rintro e w' ⟨rfl, rfl⟩
    cases c3 : Nm.nameB ky
    all_goals rw [c3] at HC
    all_goals clear c3
    all_goals go_wp2
    all_goals go_ret
    all_goals exact ⟨ret_bool HC.out.symm, D.out⟩
  · go_enter Try.func139, Try.ntmps139
    go_wp2_with fail
    refine (nodeRight fr _).mono ?_
    rintro e w' ⟨rfl, rfl⟩
    cases c0 : nodeB fr
    · have HC := Lib.hid (show hdB fr tq rq ky ow = false by unfold hdB; rw [c0]; simp)
      clear c0
      go_wp2
      go_ret
      exact ⟨ret_bool HC.out.symm, D.out⟩
    go_wp2_with fail
    refine (nodeRight tq _).mono ?_
    rintro e w' ⟨rfl, rfl⟩
    cases c1 : nodeB tq
    · have HC := Lib.hid (show hdB fr tq rq ky ow = false by unfold hdB; rw [c1]; simp)
      clear c1
      go_wp2
      go_ret
      exact ⟨ret_bool HC.out.symm, D.out⟩
    go_wp2_with fail
    refine (nodeRight ow _).mono ?_
    rintro e w' ⟨rfl, rfl⟩
    cases c2 : nodeB ow
    · have HC := Lib.hid (show hdB fr tq rq ky ow = false by unfold hdB; rw [c2]; simp)
      clear c2
      go_wp2
      go_ret
      exact ⟨ret_bool HC.out.symm, D.out⟩
    have HC := Lib.hid (show hdB fr tq rq ky ow = false by unfold hdB; rw [show decide (rq ≤ 1000000) = false from decide_eq_false (by omega)]; simp)
    clear c0 c1 c2
    go_wp2
    go_ret
    exact ⟨ret_bool HC.out.symm, D.out⟩
  · go_enter Try.func139, Try.ntmps139
    go_wp2_with fail
    refine (nodeRight fr _).mono ?_
    rintro e w' ⟨rfl, rfl⟩
    cases c0 : nodeB fr
    · have HC := Lib.hid (show hdB fr tq rq ky ow = false by unfold hdB; rw [c0]; simp)
      clear c0
      go_wp2
      go_ret
      exact ⟨ret_bool HC.out.symm, D.out⟩
    go_wp2_with fail
    refine (nodeRight tq _).mono ?_
    rintro e w' ⟨rfl, rfl⟩
    cases c1 : nodeB tq
    · have HC := Lib.hid (show hdB fr tq rq ky ow = false by unfold hdB; rw [c1]; simp)
      clear c1
      go_wp2
      go_ret
      exact ⟨ret_bool HC.out.symm, D.out⟩
    go_wp2_with fail
    refine (nodeRight ow _).mono ?_
    rintro e w' ⟨rfl, rfl⟩
    cases c2 : nodeB ow
    · have HC := Lib.hid (show hdB fr tq rq ky ow = false by unfold hdB; rw [c2]; simp)
      clear c2
      go_wp2
      go_ret
      exact ⟨ret_bool HC.out.symm, D.out⟩
    have HC := Lib.hid (show hdB fr tq rq ky ow = false by unfold hdB; rw [show decide (0 ≤ rq) = false from decide_eq_false (by omega)]; simp)
    clear c0 c1 c2
    go_wp2
    go_ret
    exact ⟨ret_bool HC.out.symm, D.out⟩
  · omega
set_option maxRecDepth 100000 in
set_option maxHeartbeats 400000 in
theorem ask_right (fr tq rq : Int) (ky : ByteArray) (ow : Int) (w : World) (hy : ky.size ≤ maxLen) :
    Calls Try.prog 143 #[.agg #[.int .i64 fr, .int .i64 tq, .int .i64 rq, .string ky, .int .i64 ow]] w fun e w' => e = .returned (.bool (hdB fr tq rq ky ow && decide (0 < rq))) ∧ Below w.heap.size w w' := by
  have D := Lib.hid (show Base w _ from step_alloc w (.cells #[.int .i64 fr, .int .i64 tq, .int .i64 rq, .string ky, .int .i64 ow] 132))
  have X := Lib.hid (Cells.new w #[.int .i64 fr, .int .i64 tq, .int .i64 rq, .string ky, .int .i64 ow] 132)
  simp only [List.toList_toArray] at X
  skip
  go_enter Try.func143, Try.ntmps143
  go_wp2_with fail
  generalize w.alloc (.cells #[.int .i64 fr, .int .i64 tq, .int .i64 rq, .string ky, .int .i64 ow] 132) = w0 at D X ⊢
  refine (hd_right fr tq rq ky ow _ hy).mono ?_
  rintro e w1 ⟨rfl, hb⟩
  replace D := Lib.hid (D.out.below hb)
  replace X := Lib.hid (X.out.below hb)
  clear hb
  obtain ⟨x0, x1, x2, x3, x4, _⟩ := X.out.c5
  cases c0 : hdB fr tq rq ky ow
  · have HC := Lib.hid c0
    clear c0
    go_wp2
    go_ret
    exact ⟨ret_bool (by rw [HC.out]; rfl), D.out⟩
  have HC := Lib.hid c0
  clear c0
  by_cases h1 : 0 < rq
  all_goals go_wp2
  all_goals go_ret
  all_goals exact ⟨ret_bool (by rw [HC.out]; first | (simp [h1]; done) | (simp; intros; omega)), D.out⟩
set_option maxRecDepth 100000 in
set_option maxHeartbeats 400000 in
theorem tell_right (fr tq rq : Int) (ky : ByteArray) (ow : Int) (a b : Option Addr) (cap cap' : Nat) (l : List (Int × Int)) (s : List Sib) (w : World) (hy : ky.size ≤ maxLen) (hl : l.length ≤ maxLen) (hs : s.length ≤ maxLen) (hd : SmallData s) (hwd : WfDots s) (h : MarksAt w a l) (h' : SibsAt w b s) :
    Calls Try.prog 144 #[.agg #[.int .i64 fr, .int .i64 tq, .int .i64 rq, .string ky, .int .i64 ow, .slice a l.length cap, .slice b s.length cap']] w fun e w' => e = .returned (.bool (hdB fr tq rq ky ow && (decide (0 < rq) && setB l s))) ∧ Below w.heap.size w w' := by
  have D := Lib.hid (show Base w _ from step_alloc w (.cells #[.int .i64 fr, .int .i64 tq, .int .i64 rq, .string ky, .int .i64 ow, .slice a l.length cap, .slice b s.length cap'] 134))
  have X := Lib.hid (Cells.new w #[.int .i64 fr, .int .i64 tq, .int .i64 rq, .string ky, .int .i64 ow, .slice a l.length cap, .slice b s.length cap'] 134)
  simp only [List.toList_toArray] at X
  have H := Lib.hid h
  have H' := Lib.hid h'
  have HS := Lib.hid hd
  have HW := Lib.hid hwd
  clear h h' hd hwd
  go_enter Try.func144, Try.ntmps144
  go_wp2_with fail
  generalize w.alloc (.cells #[.int .i64 fr, .int .i64 tq, .int .i64 rq, .string ky, .int .i64 ow, .slice a l.length cap, .slice b s.length cap'] 134) = w0 at D X ⊢
  refine (hd_right fr tq rq ky ow _ hy).mono ?_
  rintro e w1 ⟨rfl, hb⟩
  replace D := Lib.hid (D.out.below hb)
  replace X := Lib.hid (X.out.below hb)
  clear hb
  obtain ⟨x0, x1, x2, x3, x4, x5, x6, _⟩ := X.out.c7
  cases c0 : hdB fr tq rq ky ow
  · have HC := Lib.hid c0
    clear c0
    go_wp2
    go_ret
    exact ⟨ret_bool (by rw [HC.out]; rfl), D.out⟩
  have HC := Lib.hid c0
  clear c0
  by_cases h1 : 0 < rq
  rotate_left
  · go_wp2
    go_ret
    exact ⟨ret_bool (by rw [HC.out]; first | (simp [h1]; done) | (simp; intros; omega)), D.out⟩
  go_wp2_with fail
  refine (impl_setRight a b cap cap' l s _ hl hs HS.out HW.out (H.out.mono D.out) (H'.out.mono D.out)).mono ?_
  rintro e w2 ⟨rfl, hb⟩
  replace D := Lib.hid (D.out.below hb)
  replace X := Lib.hid (X.out.below hb)
  clear hb x0 x1 x2 x3 x4 x5 x6
  obtain ⟨x0, x1, x2, x3, x4, x5, x6, _⟩ := X.out.c7
  go_wp2
  go_ret
  exact ⟨ret_bool (by rw [HC.out]; first | (simp [h1]; done) | (simp; intros; omega)), D.out⟩
set_option maxRecDepth 100000 in
set_option maxHeartbeats 400000 in
theorem keep_right (fr tq rq : Int) (ky : ByteArray) (ow : Int) (a b : Option Addr) (cap cap' : Nat) (l : List (Int × Int)) (s : List Sib) (w : World) (hy : ky.size ≤ maxLen) (hl : l.length ≤ maxLen) (hs : s.length ≤ maxLen) (hd : SmallData s) (hwd : WfDots s) (h : MarksAt w a l) (h' : SibsAt w b s) :
    Calls Try.prog 145 #[.agg #[.int .i64 fr, .int .i64 tq, .int .i64 rq, .string ky, .int .i64 ow, .slice a l.length cap, .slice b s.length cap']] w fun e w' => e = .returned (.bool (hdB fr tq rq ky ow && (setB l s && decide (0 < l.length)))) ∧ Below w.heap.size w w' := by
  have D := Lib.hid (show Base w _ from step_alloc w (.cells #[.int .i64 fr, .int .i64 tq, .int .i64 rq, .string ky, .int .i64 ow, .slice a l.length cap, .slice b s.length cap'] 135))
  have X := Lib.hid (Cells.new w #[.int .i64 fr, .int .i64 tq, .int .i64 rq, .string ky, .int .i64 ow, .slice a l.length cap, .slice b s.length cap'] 135)
  simp only [List.toList_toArray] at X
  have H := Lib.hid h
  have H' := Lib.hid h'
  have HS := Lib.hid hd
  have HW := Lib.hid hwd
  clear h h' hd hwd
  go_enter Try.func145, Try.ntmps145
  go_wp2_with fail
  generalize w.alloc (.cells #[.int .i64 fr, .int .i64 tq, .int .i64 rq, .string ky, .int .i64 ow, .slice a l.length cap, .slice b s.length cap'] 135) = w0 at D X ⊢
  refine (hd_right fr tq rq ky ow _ hy).mono ?_
  rintro e w1 ⟨rfl, hb⟩
  replace D := Lib.hid (D.out.below hb)
  replace X := Lib.hid (X.out.below hb)
  clear hb
  obtain ⟨x0, x1, x2, x3, x4, x5, x6, _⟩ := X.out.c7
  cases c0 : hdB fr tq rq ky ow
  · have HC := Lib.hid c0
    clear c0
    go_wp2
    go_ret
    exact ⟨ret_bool (by rw [HC.out]; rfl), D.out⟩
  have HC := Lib.hid c0
  clear c0
  go_wp2_with fail
  refine (impl_setRight a b cap cap' l s _ hl hs HS.out HW.out (H.out.mono D.out) (H'.out.mono D.out)).mono ?_
  rintro e w2 ⟨rfl, hb⟩
  replace D := Lib.hid (D.out.below hb)
  replace X := Lib.hid (X.out.below hb)
  clear hb x0 x1 x2 x3 x4 x5 x6
  obtain ⟨x0, x1, x2, x3, x4, x5, x6, _⟩ := X.out.c7
  by_cases h1 : 0 < l.length <;> cases c1 : setB l s
  all_goals go_wp2
  all_goals go_ret
  all_goals exact ⟨ret_bool (by rw [HC.out]; first | (simp [h1]; done) | (simp [h1]; omega) | (simp; omega) | (simp; intros; omega)), D.out⟩
set_option maxRecDepth 100000 in
set_option maxHeartbeats 400000 in
theorem conf_right (fr tq rq : Int) (ky : ByteArray) (ow : Int) (a : Option Addr) (cap : Nat) (l : List (Int × Int)) (w : World) (hy : ky.size ≤ maxLen) (hl : l.length ≤ maxLen) (h : MarksAt w a l) :
    Calls Try.prog 146 #[.agg #[.int .i64 fr, .int .i64 tq, .int .i64 rq, .string ky, .int .i64 ow, .slice a l.length cap]] w fun e w' => e = .returned (.bool (hdB fr tq rq ky ow && (rightB l && decide (0 < l.length)))) ∧ Below w.heap.size w w' := by
  have D := Lib.hid (show Base w _ from step_alloc w (.cells #[.int .i64 fr, .int .i64 tq, .int .i64 rq, .string ky, .int .i64 ow, .slice a l.length cap] 137))
  have X := Lib.hid (Cells.new w #[.int .i64 fr, .int .i64 tq, .int .i64 rq, .string ky, .int .i64 ow, .slice a l.length cap] 137)
  simp only [List.toList_toArray] at X
  have H := Lib.hid h
  clear h
  go_enter Try.func146, Try.ntmps146
  go_wp2_with fail
  generalize w.alloc (.cells #[.int .i64 fr, .int .i64 tq, .int .i64 rq, .string ky, .int .i64 ow, .slice a l.length cap] 137) = w0 at D X ⊢
  refine (hd_right fr tq rq ky ow _ hy).mono ?_
  rintro e w1 ⟨rfl, hb⟩
  replace D := Lib.hid (D.out.below hb)
  replace X := Lib.hid (X.out.below hb)
  clear hb
  obtain ⟨x0, x1, x2, x3, x4, x5, _⟩ := X.out.c6
  cases c0 : hdB fr tq rq ky ow
  · have HC := Lib.hid c0
    clear c0
    go_wp2
    go_ret
    exact ⟨ret_bool (by rw [HC.out]; rfl), D.out⟩
  have HC := Lib.hid c0
  clear c0
  go_wp2_with fail
  refine (seenRight a cap l _ hl (H.out.mono D.out)).mono ?_
  rintro e w2 ⟨rfl, hb⟩
  replace D := Lib.hid (D.out.below hb)
  replace X := Lib.hid (X.out.below hb)
  clear hb x0 x1 x2 x3 x4 x5
  obtain ⟨x0, x1, x2, x3, x4, x5, _⟩ := X.out.c6
  by_cases h1 : 0 < l.length <;> cases c1 : rightB l
  all_goals go_wp2
  all_goals go_ret
  all_goals exact ⟨ret_bool (by rw [HC.out]; first | (simp [h1]; done) | (simp [h1]; omega) | (simp; omega) | (simp; intros; omega)), D.out⟩
set_option maxRecDepth 100000 in
set_option maxHeartbeats 400000 in
theorem equalM_nil (a : Option Addr) (n cap : Nat) (w : World) (hn : n ≤ maxLen) :
    Calls Try.prog 107 #[.slice a n cap, .slice none 0 0] w fun e w' => e = .returned (.bool (decide (n = 0))) ∧ w = w' := by
  by_cases h : n = 0
  · subst h
    go_enter Try.func107, Try.ntmps107
    go_wp2
    go_loopw [13] (fun i wr => i = .int .i64 0 ∧ wr = w) (fun _ _ => 0)
    case atStart => exact ⟨rfl, rfl⟩
    case round =>
      obtain ⟨rfl, rfl⟩ := hrel
      go_wp2
      go_ret
      exact ⟨rfl, rfl⟩
  · have h2 : ¬ (n : Int) = 0 := by omega
    go_enter Try.func107, Try.ntmps107
    go_wp2
    go_ret
    exact ⟨ret_bool (by simp [h]), rfl⟩
set_option maxRecDepth 100000 in
set_option maxHeartbeats 400000 in
theorem equalS_nil (a : Option Addr) (n cap : Nat) (w : World) (hn : n ≤ maxLen) :
    Calls Try.prog 108 #[.slice a n cap, .slice none 0 0] w fun e w' => e = .returned (.bool (decide (n = 0))) ∧ w = w' := by
  by_cases h : n = 0
  · subst h
    go_enter Try.func108, Try.ntmps108
    go_wp2
    go_loopw [13] (fun i wr => i = .int .i64 0 ∧ wr = w) (fun _ _ => 0)
    case atStart => exact ⟨rfl, rfl⟩
    case round =>
      obtain ⟨rfl, rfl⟩ := hrel
      go_wp2
      go_ret
      exact ⟨rfl, rfl⟩
  · have h2 : ¬ (n : Int) = 0 := by omega
    go_enter Try.func108, Try.ntmps108
    go_wp2
    go_ret
    exact ⟨ret_bool (by simp [h]), rfl⟩
set_option maxRecDepth 100000 in
set_option maxHeartbeats 400000 in
theorem same_nil (a b : Option Addr) (cap cap' n m : Nat) (w : World) (hn : n ≤ maxLen) (hm : m ≤ maxLen) :
    Calls Try.prog 85 #[.agg #[.slice a n cap, .slice b m cap'], .agg #[.slice none 0 0, .slice none 0 0]] w fun e w' => e = .returned (.bool (decide (n = 0) && decide (m = 0))) ∧ Below w.heap.size w w' := by
  have D := Lib.hid (show Base w _ from Base.below (step_alloc w (.cells #[.slice a n cap, .slice b m cap'] 33)) (step_alloc _ (.cells #[.slice none 0 0, .slice none 0 0] 33)))
  go_enter Try.func85, Try.ntmps85
  go_wp2_with fail
  refine (equalM_nil a n cap _ hn).mono ?_
  rintro e w' ⟨rfl, rfl⟩
  cases c0 : decide (n = 0)
  · have HC := Lib.hid c0
    clear c0
    go_wp2
    go_ret
    exact ⟨ret_bool (by rw [HC.out]; rfl), D.out⟩
  have HC := Lib.hid c0
  clear c0
  go_wp2_with fail
  refine (equalS_nil b m cap' _ hm).mono ?_
  rintro e w' ⟨rfl, rfl⟩
  cases c1 : decide (m = 0)
  all_goals have HD := Lib.hid c1
  all_goals clear c1
  all_goals go_wp2
  all_goals go_ret
  all_goals exact ⟨ret_bool (by rw [HC.out, HD.out]; rfl), D.out⟩
/-- the message as impl keeps it -/
def msgV (kd fr tq rq : Int) (ky : ByteArray) (ow : Int) (va vb : Value) (n m : Nat) : Value :=
  if kd = 1 ∧ n = 0 ∧ m = 0 then .iface 132 (.agg #[.int .i64 fr, .int .i64 tq, .int .i64 rq, .string ky, .int .i64 ow])
  else if kd = 2 then .iface 134 (.agg #[.int .i64 fr, .int .i64 tq, .int .i64 rq, .string ky, .int .i64 ow, va, vb])
  else if kd = 3 then .iface 135 (.agg #[.int .i64 fr, .int .i64 tq, .int .i64 rq, .string ky, .int .i64 ow, va, vb])
  else if kd = 4 ∧ m = 0 then .iface 137 (.agg #[.int .i64 fr, .int .i64 tq, .int .i64 rq, .string ky, .int .i64 ow, va]) else .nilIface
set_option maxRecDepth 100000 in
set_option maxHeartbeats 400000 in
theorem messageOf (kd : Int) (fr tq rq : Int) (ky : ByteArray) (ow : Int) (a b : Option Addr) (cap cap' : Nat) (l : List (Int × Int)) (s : List Sib) (w : World) (hy : ky.size ≤ maxLen) (hl : l.length ≤ maxLen) (hs : s.length ≤ maxLen) (hd : SmallData s) (hwd : WfDots s) (h : MarksAt w a l) (h' : SibsAt w b s) :
    Calls Try.prog 50 #[.int .i64 kd, .agg #[.int .i64 fr, .int .i64 tq, .int .i64 rq, .string ky, .int .i64 ow], .agg #[.slice a l.length cap, .slice b s.length cap']] w fun e w' => e = .returned (.tuple #[msgV kd fr tq rq ky ow (.slice a l.length cap) (.slice b s.length cap') l.length s.length, .bool (msgB kd fr tq rq ky ow l s)]) ∧ Below w.heap.size w w' := by
  have H := Lib.hid h
  have H' := Lib.hid h'
  have HS := Lib.hid hd
  have HW := Lib.hid hwd
  have D := Lib.hid (show Base w _ from Base.below (step_alloc w (.cells #[.int .i64 fr, .int .i64 tq, .int .i64 rq, .string ky, .int .i64 ow] 88)) (step_alloc _ (.cells #[.slice a l.length cap, .slice b s.length cap'] 33)))
  have X := Lib.hid ((Cells.new w #[.int .i64 fr, .int .i64 tq, .int .i64 rq, .string ky, .int .i64 ow] 88).below (step_alloc _ (.cells #[.slice a l.length cap, .slice b s.length cap'] 33)))
  have Y := Lib.hid (Cells.new (w.alloc (.cells #[.int .i64 fr, .int .i64 tq, .int .i64 rq, .string ky, .int .i64 ow] 88)) #[.slice a l.length cap, .slice b s.length cap'] 33)
  simp only [World.size_alloc, List.toList_toArray] at X Y
  clear h h' hd hwd
  by_cases k1 : kd = 1
  · subst k1
    have HM := Lib.hid (show msgB 1 fr tq rq ky ow l s = (hdB fr tq rq ky ow && (decide (0 < rq) && (decide (l.length = 0) && decide (s.length = 0)))) by unfold msgB kindB; rw [if_pos rfl])
    go_enter Try.func50, Try.ntmps50
    go_wp2_with fail
    generalize (w.alloc (.cells #[.int .i64 fr, .int .i64 tq, .int .i64 rq, .string ky, .int .i64 ow] 88)).alloc (.cells #[.slice a l.length cap, .slice b s.length cap'] 33) = w0 at D X Y ⊢
    refine (same_nil a b cap cap' l.length s.length w0 hl hs).mono ?_
    rintro e w1 ⟨rfl, hb⟩
    replace D := Lib.hid (D.out.below hb)
    replace X := Lib.hid (X.out.below hb)
    replace Y := Lib.hid (Y.out.below hb)
    clear hb
    obtain ⟨x0, x1, x2, x3, x4, _⟩ := X.out.c5
    obtain ⟨y0, y1, _⟩ := Y.out.c2
    cases c0 : (decide (l.length = 0) && decide (s.length = 0))
    · have HV := Lib.hid (show msgV 1 fr tq rq ky ow (.slice a l.length cap) (.slice b s.length cap') l.length s.length = .nilIface by
        unfold msgV
        rw [if_neg (by rintro ⟨-, h1, h2⟩; rw [decide_eq_true h1, decide_eq_true h2] at c0; cases c0), if_neg (by decide), if_neg (by decide), if_neg (by rintro ⟨h, -⟩; cases h)])
      replace HM := Lib.hid (HM.out.trans (show _ = false by rw [c0]; simp))
      clear c0
      go_wp2
      refine bodyPost_ret (v := .tuple #[.nilIface, .bool false]) (by simp [results, Try.results50, go_sem]) rfl ?_
      exact ⟨by rw [HM.out, HV.out], D.out⟩
    · have HV := Lib.hid (show msgV 1 fr tq rq ky ow (.slice a l.length cap) (.slice b s.length cap') l.length s.length = .iface 132 (.agg #[.int .i64 fr, .int .i64 tq, .int .i64 rq, .string ky, .int .i64 ow]) by
        unfold msgV
        simp only [Bool.and_eq_true, decide_eq_true_eq] at c0
        rw [if_pos ⟨rfl, c0⟩])
      replace HM := Lib.hid (HM.out.trans (show _ = (hdB fr tq rq ky ow && decide (0 < rq)) by rw [c0]; simp))
      clear c0
      go_wp2_with fail
      refine (ask_right fr tq rq ky ow _ hy).mono ?_
      rintro e w2 ⟨rfl, hb⟩
      replace D := Lib.hid (D.out.below hb)
      clear hb
      go_wp2
      refine bodyPost_ret (v := .tuple #[.iface 132 (.agg #[.int .i64 fr, .int .i64 tq, .int .i64 rq, .string ky, .int .i64 ow]), .bool (hdB fr tq rq ky ow && decide (0 < rq))]) (by simp [results, Try.results50, go_sem]) rfl ?_
      exact ⟨by rw [HM.out, HV.out], D.out⟩
  by_cases k2 : kd = 2
  · subst k2
    have HM := Lib.hid (show msgB 2 fr tq rq ky ow l s = (hdB fr tq rq ky ow && (decide (0 < rq) && setB l s)) by unfold msgB kindB; rw [if_neg (by decide), if_pos rfl])
    obtain ⟨x0, x1, x2, x3, x4, _⟩ := X.out.c5
    obtain ⟨y0, y1, _⟩ := Y.out.c2
    have HV := Lib.hid (show msgV 2 fr tq rq ky ow (.slice a l.length cap) (.slice b s.length cap') l.length s.length = .iface 134 (.agg #[.int .i64 fr, .int .i64 tq, .int .i64 rq, .string ky, .int .i64 ow, .slice a l.length cap, .slice b s.length cap']) by
      unfold msgV
      rw [if_neg (by rintro ⟨h, -⟩; cases h), if_pos rfl])
    go_enter Try.func50, Try.ntmps50
    go_wp2_with fail
    refine (tell_right fr tq rq ky ow a b cap cap' l s _ hy hl hs HS.out HW.out (H.out.mono D.out) (H'.out.mono D.out)).mono ?_
    rintro e w2 ⟨rfl, hb⟩
    replace D := Lib.hid (D.out.below hb)
    clear hb
    go_wp2
    refine bodyPost_ret (v := .tuple #[.iface 134 (.agg #[.int .i64 fr, .int .i64 tq, .int .i64 rq, .string ky, .int .i64 ow, .slice a l.length cap, .slice b s.length cap']), .bool (hdB fr tq rq ky ow && (decide (0 < rq) && setB l s))]) (by simp [results, Try.results50, go_sem]) rfl ?_
    exact ⟨by rw [HM.out, HV.out], D.out⟩
  by_cases k3 : kd = 3
  · subst k3
    have HM := Lib.hid (show msgB 3 fr tq rq ky ow l s = (hdB fr tq rq ky ow && (setB l s && decide (0 < l.length))) by unfold msgB kindB; rw [if_neg (by decide), if_neg (by decide), if_pos rfl])
    obtain ⟨x0, x1, x2, x3, x4, _⟩ := X.out.c5
    obtain ⟨y0, y1, _⟩ := Y.out.c2
    have HV := Lib.hid (show msgV 3 fr tq rq ky ow (.slice a l.length cap) (.slice b s.length cap') l.length s.length = .iface 135 (.agg #[.int .i64 fr, .int .i64 tq, .int .i64 rq, .string ky, .int .i64 ow, .slice a l.length cap, .slice b s.length cap']) by
      unfold msgV
      rw [if_neg (by rintro ⟨h, -⟩; cases h), if_neg (by decide), if_pos rfl])
    go_enter Try.func50, Try.ntmps50
    go_wp2_with fail
    refine (keep_right fr tq rq ky ow a b cap cap' l s _ hy hl hs HS.out HW.out (H.out.mono D.out) (H'.out.mono D.out)).mono ?_
    rintro e w2 ⟨rfl, hb⟩
    replace D := Lib.hid (D.out.below hb)
    clear hb
    go_wp2
    refine bodyPost_ret (v := .tuple #[.iface 135 (.agg #[.int .i64 fr, .int .i64 tq, .int .i64 rq, .string ky, .int .i64 ow, .slice a l.length cap, .slice b s.length cap']), .bool (hdB fr tq rq ky ow && (setB l s && decide (0 < l.length)))]) (by simp [results, Try.results50, go_sem]) rfl ?_
    exact ⟨by rw [HM.out, HV.out], D.out⟩
  by_cases k4 : kd = 4
  · subst k4
    have HM := Lib.hid (show msgB 4 fr tq rq ky ow l s = (hdB fr tq rq ky ow && (decide (s.length = 0) && (rightB l && decide (0 < l.length)))) by unfold msgB kindB; rw [if_neg (by decide), if_neg (by decide), if_neg (by decide), if_pos rfl])
    obtain ⟨x0, x1, x2, x3, x4, _⟩ := X.out.c5
    obtain ⟨y0, y1, _⟩ := Y.out.c2
    by_cases h0 : s.length = 0
    · have HV := Lib.hid (show msgV 4 fr tq rq ky ow (.slice a l.length cap) (.slice b s.length cap') l.length s.length = .iface 137 (.agg #[.int .i64 fr, .int .i64 tq, .int .i64 rq, .string ky, .int .i64 ow, .slice a l.length cap]) by
        unfold msgV
        rw [if_neg (by rintro ⟨h, -⟩; cases h), if_neg (by decide), if_neg (by decide), if_pos ⟨rfl, h0⟩])
      replace HM := Lib.hid (HM.out.trans (show _ = (hdB fr tq rq ky ow && (rightB l && decide (0 < l.length))) by rw [decide_eq_true h0]; simp))
      rw [h0] at D
      go_enter Try.func50, Try.ntmps50
      go_wp2_with fail
      refine (conf_right fr tq rq ky ow a cap l _ hy hl (H.out.mono D.out)).mono ?_
      rintro e w2 ⟨rfl, hb⟩
      replace D := Lib.hid (D.out.below hb)
      clear hb
      go_wp2
      refine bodyPost_ret (v := .tuple #[.iface 137 (.agg #[.int .i64 fr, .int .i64 tq, .int .i64 rq, .string ky, .int .i64 ow, .slice a l.length cap]), .bool (hdB fr tq rq ky ow && (rightB l && decide (0 < l.length)))]) (by simp [results, Try.results50, go_sem]) rfl ?_
      exact ⟨by rw [HM.out, HV.out], D.out⟩
    · have HV := Lib.hid (show msgV 4 fr tq rq ky ow (.slice a l.length cap) (.slice b s.length cap') l.length s.length = .nilIface by
        unfold msgV
        rw [if_neg (by rintro ⟨h, -⟩; cases h), if_neg (by decide), if_neg (by decide), if_neg (by rintro ⟨-, h⟩; exact h0 h)])
      replace HM := Lib.hid (HM.out.trans (show _ = false by rw [decide_eq_false h0]; simp))
      go_enter Try.func50, Try.ntmps50
      go_wp2
      refine bodyPost_ret (v := .tuple #[.nilIface, .bool false]) (by simp [results, Try.results50, go_sem]) rfl ?_
      exact ⟨by rw [HM.out, HV.out], D.out⟩
  · have HM := Lib.hid (show msgB kd fr tq rq ky ow l s = false by unfold msgB kindB; rw [if_neg k1, if_neg k2, if_neg k3, if_neg k4]; simp)
    have HV := Lib.hid (show msgV kd fr tq rq ky ow (.slice a l.length cap) (.slice b s.length cap') l.length s.length = .nilIface by
      unfold msgV
      rw [if_neg (fun h => k1 h.1), if_neg k2, if_neg k3, if_neg (fun h => k4 h.1)])
    go_enter Try.func50, Try.ntmps50
    go_wp2
    refine bodyPost_ret (v := .tuple #[.nilIface, .bool false]) (by simp [results, Try.results50, go_sem]) rfl ?_
    exact ⟨by rw [HM.out, HV.out], D.out⟩
set_option maxRecDepth 100000 in
set_option maxHeartbeats 400000 in
theorem openedMsg (kd : Int) (fr tq rq : Int) (ky : ByteArray) (ow : Int) (a b : Option Addr) (cap cap' : Nat) (l : List (Int × Int)) (s : List Sib) (w : World) (hy : ky.size ≤ maxLen) (hl : l.length ≤ maxLen) (hs : s.length ≤ maxLen) (hd : SmallData s) (hwd : WfDots s) (h : MarksAt w a l) (h' : SibsAt w b s) :
    Calls Try.prog 31 #[.agg #[.int .i64 kd, .int .i64 fr, .int .i64 tq, .int .i64 rq, .string ky, .int .i64 ow, .slice a l.length cap, .slice b s.length cap']] w fun e w' => e = .returned (.tuple #[msgV kd fr tq rq ky ow (.slice a l.length cap) (.slice b s.length cap') l.length s.length, .bool (msgB kd fr tq rq ky ow l s)]) ∧ Below w.heap.size w w' := by
  have H := Lib.hid h
  have H' := Lib.hid h'
  have HS := Lib.hid hd
  have HW := Lib.hid hwd
  have D := Lib.hid (show Base w _ from step_alloc w (.cells #[.int .i64 kd, .int .i64 fr, .int .i64 tq, .int .i64 rq, .string ky, .int .i64 ow, .slice a l.length cap, .slice b s.length cap'] 35))
  clear h h' hd hwd
  obtain ⟨M, hM⟩ : ∃ M, msgV kd fr tq rq ky ow (.slice a l.length cap) (.slice b s.length cap') l.length s.length = M := ⟨_, rfl⟩
  obtain ⟨R, hR⟩ : ∃ R, msgB kd fr tq rq ky ow l s = R := ⟨_, rfl⟩
  have HM := Lib.hid hM
  have HR := Lib.hid hR
  rw [hM, hR]
  clear hM hR
  go_enter Try.func31, Try.ntmps31
  go_wp2_with fail
  refine (messageOf kd fr tq rq ky ow a b cap cap' l s _ hy hl hs HS.out HW.out (H.out.mono D.out) (H'.out.mono D.out)).mono ?_
  rintro e w1 ⟨rfl, hb⟩
  rw [HM.out, HR.out]
  replace D := Lib.hid (D.out.below hb)
  clear hb
  go_wp2
  refine bodyPost_ret (v := .tuple #[M, .bool R]) (by simp [results, Try.results31, go_sem]) rfl ?_
  exact ⟨rfl, D.out⟩
set_option maxRecDepth 100000 in
set_option maxHeartbeats 400000 in
theorem impl_msgRight (kd : Int) (fr tq rq : Int) (ky : ByteArray) (ow : Int) (a b : Option Addr) (cap cap' : Nat) (l : List (Int × Int)) (s : List Sib) (w : World) (hy : ky.size ≤ maxLen) (hl : l.length ≤ maxLen) (hs : s.length ≤ maxLen) (hd : SmallData s) (hwd : WfDots s) (h : MarksAt w a l) (h' : SibsAt w b s) :
    Calls Try.prog 10 #[.agg #[.int .i64 kd, .int .i64 fr, .int .i64 tq, .int .i64 rq, .string ky, .int .i64 ow, .slice a l.length cap, .slice b s.length cap']] w fun e w' => e = .returned (.bool (msgB kd fr tq rq ky ow l s)) ∧ Below w.heap.size w w' := by
  have H := Lib.hid h
  have H' := Lib.hid h'
  have HS := Lib.hid hd
  have HW := Lib.hid hwd
  have D := Lib.hid (show Base w _ from step_alloc w (.cells #[.int .i64 kd, .int .i64 fr, .int .i64 tq, .int .i64 rq, .string ky, .int .i64 ow, .slice a l.length cap, .slice b s.length cap'] 35))
  clear h h' hd hwd
  go_enter Try.func10, Try.ntmps10
  go_wp2_with fail
  refine (openedMsg kd fr tq rq ky ow a b cap cap' l s _ hy hl hs HS.out HW.out (H.out.mono D.out) (H'.out.mono D.out)).mono ?_
  rintro e w1 ⟨rfl, hb⟩
  replace D := Lib.hid (D.out.below hb)
  clear hb
  go_wp2
  go_ret
  exact ⟨rfl, D.out⟩
end Go.Proofs.Ytloenigleamcoaa.Sb

set_option linter.unusedSimpArgs false
set_option linter.unusedVariables false
namespace Go.Proofs.Ytloenigleamcoaa.Sb
open Go.RowKit Go.Proofs.Ytloenigleamcoaa.Mk Go.Proofs.Ytloenigleamcoaa.Rw

theorem cat_four (s t u v : ByteArray) : ByteArray.mk (Nu.cat [s, t, u, v]).toArray = s ++ t ++ u ++ v := by
  apply ByteArray.ext; rw [ByteArray.data_append, ByteArray.data_append, ByteArray.data_append]; simp [Nu.cat]
theorem cat_len4 (s t u v : ByteArray) : (Nu.cat [s, t, u, v]).length = s.size + t.size + u.size + v.size := by simp [Nu.cat, ← Nat.add_assoc]
theorem joined_four (s t u v : ByteArray) (w : World) (h : s.size + t.size + u.size + v.size ≤ 1000000) :
    Calls Try.prog 33 #[.slice (some ⟨w.heap.size, 0, none⟩) 4 4] (w.alloc (.cells #[.string s, .string t, .string u, .string v] 9)) fun e w' => e = .returned (.string (s ++ t ++ u ++ v)) ∧ Below w.heap.size w w' := by
  have hb : Below w.heap.size w (w.alloc (.cells #[.string s, .string t, .string u, .string v] 9)) := (Below.refl _ _).alloc (Nat.le_refl _) _
  refine (Nu.joined_any w.heap.size [s, t, u, v] 4 _ (by simp) (by rw [cat_len4]; exact h) (fun i hi => ?_)).mono fun e w' he => ?_
  · rw [World.cell?_alloc_mark]
    match i, hi with
    | 0, _ | 1, _ | 2, _ | 3, _ => rfl
  · rw [cat_four] at he
    exact ⟨he.1, hb.trans (he.2.mono hb.size)⟩
set_option maxRecDepth 100000 in
set_option maxHeartbeats 4000000 in
theorem impl_msgBytes (kd fr tq rq : Int) (ky : ByteArray) (ow : Int) (a b : Option Addr) (cap cap' : Nat) (l : List (Int × Int)) (s : List Sib) (w : World) (hy : ky.size ≤ maxLen) (hl : l.length ≤ maxLen) (hs : s.length ≤ maxLen) (hd : SmallData s) (hwd : WfDots s) (h : MarksAt w a l) (h' : SibsAt w b s) :
    Calls Try.prog 13 #[.agg #[.int .i64 kd, .int .i64 fr, .int .i64 tq, .int .i64 rq, .string ky, .int .i64 ow, .slice a l.length cap, .slice b s.length cap']] w fun e w' => e = .returned (.string (msgBytes kd fr tq rq ky ow l s)) ∧ Below w.heap.size w w' := by
  have H := Lib.hid h
  have H' := Lib.hid h'
  have HS := Lib.hid hd
  have D := Lib.hid (show Base w _ from step_alloc w (.cells #[.int .i64 kd, .int .i64 fr, .int .i64 tq, .int .i64 rq, .string ky, .int .i64 ow, .slice a l.length cap, .slice b s.length cap'] 35))
  have X := Lib.hid (Cells.new w #[.int .i64 kd, .int .i64 fr, .int .i64 tq, .int .i64 rq, .string ky, .int .i64 ow, .slice a l.length cap, .slice b s.length cap'] 35)
  simp only [List.toList_toArray] at X
  have HW := Lib.hid hwd
  clear h h' hd hwd
  go_enter Try.func13, Try.ntmps13
  go_wp2_with fail
  generalize w.alloc (.cells #[.int .i64 kd, .int .i64 fr, .int .i64 tq, .int .i64 rq, .string ky, .int .i64 ow, .slice a l.length cap, .slice b s.length cap'] 35) = w0 at D X ⊢
  refine (impl_msgRight kd fr tq rq ky ow a b cap cap' l s _ hy hl hs HS.out HW.out (H.out.mono D.out) (H'.out.mono D.out)).mono ?_
  rintro e w1 ⟨rfl, hb⟩
  replace X := Lib.hid (X.out.below hb)
  replace D := Lib.hid (D.out.below hb)
  clear hb
  cases hm : msgB kd fr tq rq ky ow l s
  · have HM := Lib.hid (show msgBytes kd fr tq rq ky ow l s = ⟨#[]⟩ from if_neg (by rw [hm]; simp))
    clear hm
    go_wp2
    go_ret
    exact ⟨Se.ret_str HM.out.symm, D.out⟩
  have HM := Lib.hid (show msgBytes kd fr tq rq ky ow l s = Se.sealed (msgBody kd fr tq rq ky ow l s) from if_pos hm)
  have HE := Lib.hid (show (Nu.numS kd ++ Nu.numS fr ++ Nu.numS tq ++ Nu.numS rq) ++ Nu.putText ky ++ Nu.numS ow ++ setBytes l s = msgBody kd fr tq rq ky ow l s from rfl)
  obtain ⟨k1, k2, k3, k4, k5, k6, k7, k8, k9, k10, kn, ks⟩ := msgB_ok hm
  obtain ⟨z1, z2, z3, z4, z5, z6, z7⟩ := (msgB_ok hm).sizes
  have kz := (name_size kn).2
  have HN := Lib.hid ks
  clear kn ks
  clear hm
  replace X := Lib.hid (X.out.below (step_drew _))
  replace D := Lib.hid (D.out.below (step_drew _))
  go_wp2_with fail
  refine wp_region_held_drew (S := fun w' => w'.cell? ⟨w.heap.size, 0, none⟩ = some (.int .i64 kd) ∧ w'.cell? ⟨w.heap.size, 1, none⟩ = some (.int .i64 fr) ∧ w'.cell? ⟨w.heap.size, 2, none⟩ = some (.int .i64 tq) ∧ w'.cell? ⟨w.heap.size, 3, none⟩ = some (.int .i64 rq) ∧ w'.cell? ⟨w.heap.size, 4, none⟩ = some (.string ky) ∧ w'.cell? ⟨w.heap.size, 5, none⟩ = some (.int .i64 ow) ∧ w'.cell? ⟨w.heap.size, 6, none⟩ = some (.slice a l.length cap) ∧ w'.cell? ⟨w.heap.size, 7, none⟩ = some (.slice b s.length cap')) (by kernel_rfl) (by exact cells_h8 X.out) (fun hHeld => ?_)
  refine wpAnyH_take (i := 0) (v := ?_) rfl (by kernel_rfl) (by kernel_rfl) (by kernel_rfl) (fun _ _ _ h => h) (Or.inl ⟨by rfl, fun w hSw => by (try dsimp only at hSw); go_simp; (try with_reducible rfl)⟩) (by assumption) ?_
  try simp only [Act.put, List.setIfInBounds_toArray, List.set_cons_zero, List.set_cons_succ, List.getElem_toArray, List.getElem_cons_zero, List.getElem_cons_succ]
  refine wpAnyH_take (i := 1) (v := ?_) rfl (by kernel_rfl) (by kernel_rfl) (by kernel_rfl) (fun _ _ _ h => h) (Or.inl ⟨by rfl, fun w hSw => by (try dsimp only at hSw); go_simp; (try with_reducible rfl)⟩) (by assumption) ?_
  try simp only [Act.put, List.setIfInBounds_toArray, List.set_cons_zero, List.set_cons_succ, List.getElem_toArray, List.getElem_cons_zero, List.getElem_cons_succ]
  refine wpAnyH_take (i := 3) (v := ?_) rfl (by kernel_rfl) (by kernel_rfl) (by kernel_rfl) (fun _ _ _ h => h) (Or.inl ⟨by rfl, fun w hSw => by (try dsimp only at hSw); go_simp; (try with_reducible rfl)⟩) (by assumption) ?_
  try simp only [Act.put, List.setIfInBounds_toArray, List.set_cons_zero, List.set_cons_succ, List.getElem_toArray, List.getElem_cons_zero, List.getElem_cons_succ]
  refine wpAnyH_take (i := 4) (v := ?_) rfl (by kernel_rfl) (by kernel_rfl) (by kernel_rfl) (fun _ _ _ h => h) (Or.inl ⟨by rfl, fun w hSw => by (try dsimp only at hSw); go_simp; (try with_reducible rfl)⟩) (by assumption) ?_
  try simp only [Act.put, List.setIfInBounds_toArray, List.set_cons_zero, List.set_cons_succ, List.getElem_toArray, List.getElem_cons_zero, List.getElem_cons_succ]
  refine wpAnyH_take (i := 6) (v := ?_) rfl (by kernel_rfl) (by kernel_rfl) (by kernel_rfl) (fun _ _ _ h => h) (Or.inl ⟨by rfl, fun w hSw => by (try dsimp only at hSw); go_simp; (try with_reducible rfl)⟩) (by assumption) ?_
  try simp only [Act.put, List.setIfInBounds_toArray, List.set_cons_zero, List.set_cons_succ, List.getElem_toArray, List.getElem_cons_zero, List.getElem_cons_succ]
  refine wpAnyH_take (i := 7) (v := ?_) rfl (by kernel_rfl) (by kernel_rfl) (by kernel_rfl) (fun _ _ _ h => h) (Or.inl ⟨by rfl, fun w hSw => by (try dsimp only at hSw); go_simp; (try with_reducible rfl)⟩) (by assumption) ?_
  try simp only [Act.put, List.setIfInBounds_toArray, List.set_cons_zero, List.set_cons_succ, List.getElem_toArray, List.getElem_cons_zero, List.getElem_cons_succ]
  refine wpAnyH_take (i := 9) (v := ?_) rfl (by kernel_rfl) (by kernel_rfl) (by kernel_rfl) (fun _ _ _ h => h) (Or.inl ⟨by rfl, fun w hSw => by (try dsimp only at hSw); go_simp; (try with_reducible rfl)⟩) (by assumption) ?_
  try simp only [Act.put, List.setIfInBounds_toArray, List.set_cons_zero, List.set_cons_succ, List.getElem_toArray, List.getElem_cons_zero, List.getElem_cons_succ]
  refine wpAnyH_take (i := 10) (v := ?_) rfl (by kernel_rfl) (by kernel_rfl) (by kernel_rfl) (fun _ _ _ h => h) (Or.inl ⟨by rfl, fun w hSw => by (try dsimp only at hSw); go_simp; (try with_reducible rfl)⟩) (by assumption) ?_
  try simp only [Act.put, List.setIfInBounds_toArray, List.set_cons_zero, List.set_cons_succ, List.getElem_toArray, List.getElem_cons_zero, List.getElem_cons_succ]
  refine wpAnyH_ready (rs := [2]) (by kernel_rfl) (by simp) ?_
  refine AllReadyH.cons rfl (fun K hK => ?_) AllReadyH.nil
  go_simp
  go_at_call 34
  refine (Nu.impl_PutNum kd (WalkArith.wf_i64 (by omega)) _).mono ?_
  rintro e w2 ⟨rfl, hb⟩
  rw [Nu.numS_mk]
  replace X := Lib.hid (X.out.below hb)
  replace D := Lib.hid (D.out.below hb)
  clear hb
  go_wp2_with fail
  refine hK.out _ _ (by exact cells_h8 X.out) (fun hHeld => ?_)
  clear hK K
  try simp only [Act.put, List.setIfInBounds_toArray, List.set_cons_zero, List.set_cons_succ, List.getElem_toArray, List.getElem_cons_zero, List.getElem_cons_succ]
  refine wpAnyH_ready (rs := [5]) (by kernel_rfl) (by simp) ?_
  refine AllReadyH.cons rfl (fun K hK => ?_) AllReadyH.nil
  go_simp
  go_at_call 34
  refine (Nu.impl_PutNum fr (WalkArith.wf_i64 (by omega)) _).mono ?_
  rintro e w3 ⟨rfl, hb⟩
  rw [Nu.numS_mk]
  replace X := Lib.hid (X.out.below hb)
  replace D := Lib.hid (D.out.below hb)
  clear hb
  go_wp2_with fail
  refine hK.out _ _ (by exact cells_h8 X.out) (fun hHeld => ?_)
  clear hK K
  try simp only [Act.put, List.setIfInBounds_toArray, List.set_cons_zero, List.set_cons_succ, List.getElem_toArray, List.getElem_cons_zero, List.getElem_cons_succ]
  refine wpAnyH_ready (rs := [8]) (by kernel_rfl) (by simp) ?_
  refine AllReadyH.cons rfl (fun K hK => ?_) AllReadyH.nil
  go_simp
  go_at_call 34
  refine (Nu.impl_PutNum tq (WalkArith.wf_i64 (by omega)) _).mono ?_
  rintro e w4 ⟨rfl, hb⟩
  rw [Nu.numS_mk]
  replace X := Lib.hid (X.out.below hb)
  replace D := Lib.hid (D.out.below hb)
  clear hb
  go_wp2_with fail
  refine hK.out _ _ (by exact cells_h8 X.out) (fun hHeld => ?_)
  clear hK K
  try simp only [Act.put, List.setIfInBounds_toArray, List.set_cons_zero, List.set_cons_succ, List.getElem_toArray, List.getElem_cons_zero, List.getElem_cons_succ]
  refine wpAnyH_ready (rs := [11]) (by kernel_rfl) (by simp) ?_
  refine AllReadyH.cons rfl (fun K hK => ?_) AllReadyH.nil
  go_simp
  go_at_call 34
  refine (Nu.impl_PutNum rq (WalkArith.wf_i64 (by omega)) _).mono ?_
  rintro e w5 ⟨rfl, hb⟩
  rw [Nu.numS_mk]
  replace X := Lib.hid (X.out.below hb)
  replace D := Lib.hid (D.out.below hb)
  clear hb
  go_wp2_with fail
  refine hK.out _ _ (by exact cells_h8 X.out) (fun hHeld => ?_)
  clear hK K
  try simp only [Act.put, List.setIfInBounds_toArray, List.set_cons_zero, List.set_cons_succ, List.getElem_toArray, List.getElem_cons_zero, List.getElem_cons_succ]
  refine wpAnyH_ready (rs := [12]) (by kernel_rfl) (by simp) ?_
  refine AllReadyH.cons rfl (fun K hK => ?_) AllReadyH.nil
  go_simp
  --op
  have hb := step_alloc w5 (.cells #[.string (Nu.numS kd), .string (Nu.numS fr), .string (Nu.numS tq), .string (Nu.numS rq)] 9)
  have X3 := X
  have D3 := D
  replace X := Lib.hid (X.out.below hb)
  replace D := Lib.hid (D.out.below hb)
  clear hb
  refine hK.out _ _ (by exact cells_h8 X.out) (fun hHeld => ?_)
  clear hK K
  try simp only [Act.put, List.setIfInBounds_toArray, List.set_cons_zero, List.set_cons_succ, List.getElem_toArray, List.getElem_cons_zero, List.getElem_cons_succ]
  refine wpAnyH_ready (rs := [13]) (by kernel_rfl) (by simp) ?_
  refine AllReadyH.cons rfl (fun K hK => ?_) AllReadyH.nil
  go_simp
  go_at_call 33
  refine (joined_four (Nu.numS kd) (Nu.numS fr) (Nu.numS tq) (Nu.numS rq) w5 (by omega)).mono ?_
  rintro e w6 ⟨rfl, hb⟩
  clear X D
  have X := Lib.hid (X3.out.below hb)
  have D := Lib.hid (D3.out.below hb)
  clear hb
  go_wp2_with fail
  refine hK.out _ _ (by exact cells_h8 X.out) (fun hHeld => ?_)
  clear hK K
  try simp only [Act.put, List.setIfInBounds_toArray, List.set_cons_zero, List.set_cons_succ, List.getElem_toArray, List.getElem_cons_zero, List.getElem_cons_succ]
  refine wpAnyH_take (i := 14) (v := ?_) rfl (by kernel_rfl) (by kernel_rfl) (by kernel_rfl) (fun _ _ _ h => h) (Or.inl ⟨by rfl, fun w hSw => by (try dsimp only at hSw); go_simp; (try with_reducible rfl)⟩) (by assumption) ?_
  try simp only [Act.put, List.setIfInBounds_toArray, List.set_cons_zero, List.set_cons_succ, List.getElem_toArray, List.getElem_cons_zero, List.getElem_cons_succ]
  refine wpAnyH_done (by kernel_rfl) ?_ _
  replace X := Lib.hid (X.out.below (step_drew _))
  replace D := Lib.hid (D.out.below (step_drew _))
  clear X3 D3
  go_wp2_with fail
  refine wp_region_held_drew (S := fun w' => w'.cell? ⟨w.heap.size, 0, none⟩ = some (.int .i64 kd) ∧ w'.cell? ⟨w.heap.size, 1, none⟩ = some (.int .i64 fr) ∧ w'.cell? ⟨w.heap.size, 2, none⟩ = some (.int .i64 tq) ∧ w'.cell? ⟨w.heap.size, 3, none⟩ = some (.int .i64 rq) ∧ w'.cell? ⟨w.heap.size, 4, none⟩ = some (.string ky) ∧ w'.cell? ⟨w.heap.size, 5, none⟩ = some (.int .i64 ow) ∧ w'.cell? ⟨w.heap.size, 6, none⟩ = some (.slice a l.length cap) ∧ w'.cell? ⟨w.heap.size, 7, none⟩ = some (.slice b s.length cap')) (by kernel_rfl) (by exact cells_h8 X.out) (fun hHeld => ?_)
  refine wpAnyH_take (i := 0) (v := ?_) rfl (by kernel_rfl) (by kernel_rfl) (by kernel_rfl) (fun _ _ _ h => h) (Or.inl ⟨by rfl, fun w hSw => by (try dsimp only at hSw); go_simp; (try with_reducible rfl)⟩) (by assumption) ?_
  try simp only [Act.put, List.setIfInBounds_toArray, List.set_cons_zero, List.set_cons_succ, List.getElem_toArray, List.getElem_cons_zero, List.getElem_cons_succ]
  refine wpAnyH_take (i := 1) (v := ?_) rfl (by kernel_rfl) (by kernel_rfl) (by kernel_rfl) (fun _ _ _ h => h) (Or.inl ⟨by rfl, fun w hSw => by (try dsimp only at hSw); go_simp; (try with_reducible rfl)⟩) (by assumption) ?_
  try simp only [Act.put, List.setIfInBounds_toArray, List.set_cons_zero, List.set_cons_succ, List.getElem_toArray, List.getElem_cons_zero, List.getElem_cons_succ]
  refine wpAnyH_take (i := 2) (v := ?_) rfl (by kernel_rfl) (by kernel_rfl) (by kernel_rfl) (fun _ _ _ h => h) (Or.inl ⟨by rfl, fun w hSw => by (try dsimp only at hSw); go_simp; (try with_reducible rfl)⟩) (by assumption) ?_
  try simp only [Act.put, List.setIfInBounds_toArray, List.set_cons_zero, List.set_cons_succ, List.getElem_toArray, List.getElem_cons_zero, List.getElem_cons_succ]
  refine wpAnyH_take (i := 4) (v := ?_) rfl (by kernel_rfl) (by kernel_rfl) (by kernel_rfl) (fun _ _ _ h => h) (Or.inl ⟨by rfl, fun w hSw => by (try dsimp only at hSw); go_simp; (try with_reducible rfl)⟩) (by assumption) ?_
  try simp only [Act.put, List.setIfInBounds_toArray, List.set_cons_zero, List.set_cons_succ, List.getElem_toArray, List.getElem_cons_zero, List.getElem_cons_succ]
  refine wpAnyH_take (i := 5) (v := ?_) rfl (by kernel_rfl) (by kernel_rfl) (by kernel_rfl) (fun _ _ _ h => h) (Or.inl ⟨by rfl, fun w hSw => by (try dsimp only at hSw); go_simp; (try with_reducible rfl)⟩) (by assumption) ?_
  try simp only [Act.put, List.setIfInBounds_toArray, List.set_cons_zero, List.set_cons_succ, List.getElem_toArray, List.getElem_cons_zero, List.getElem_cons_succ]
  refine wpAnyH_take (i := 7) (v := ?_) rfl (by kernel_rfl) (by kernel_rfl) (by kernel_rfl) (fun _ _ _ h => h) (Or.inl ⟨by rfl, fun w hSw => by (try dsimp only at hSw); go_simp; (try with_reducible rfl)⟩) (by assumption) ?_
  try simp only [Act.put, List.setIfInBounds_toArray, List.set_cons_zero, List.set_cons_succ, List.getElem_toArray, List.getElem_cons_zero, List.getElem_cons_succ]
  refine wpAnyH_take (i := 8) (v := ?_) rfl (by kernel_rfl) (by kernel_rfl) (by kernel_rfl) (fun _ _ _ h => h) (Or.inl ⟨by rfl, fun w hSw => by (try dsimp only at hSw); go_simp; (try with_reducible rfl)⟩) (by assumption) ?_
  try simp only [Act.put, List.setIfInBounds_toArray, List.set_cons_zero, List.set_cons_succ, List.getElem_toArray, List.getElem_cons_zero, List.getElem_cons_succ]
  refine wpAnyH_ready (rs := [3]) (by kernel_rfl) (by simp) ?_
  refine AllReadyH.cons rfl (fun K hK => ?_) AllReadyH.nil
  go_simp
  go_at_call 36
  refine (Nu.impl_PutText ky (by unfold maxLen; omega) _).mono ?_
  rintro e w7 ⟨rfl, hb⟩
  replace X := Lib.hid (X.out.below hb)
  replace D := Lib.hid (D.out.below hb)
  clear hb
  go_wp2_with fail
  refine hK.out _ _ (by exact cells_h8 X.out) (fun hHeld => ?_)
  clear hK K
  try simp only [Act.put, List.setIfInBounds_toArray, List.set_cons_zero, List.set_cons_succ, List.getElem_toArray, List.getElem_cons_zero, List.getElem_cons_succ]
  refine wpAnyH_ready (rs := [6]) (by kernel_rfl) (by simp) ?_
  refine AllReadyH.cons rfl (fun K hK => ?_) AllReadyH.nil
  go_simp
  go_at_call 34
  refine (Nu.impl_PutNum ow (WalkArith.wf_i64 (by omega)) _).mono ?_
  rintro e w8 ⟨rfl, hb⟩
  rw [Nu.numS_mk]
  replace X := Lib.hid (X.out.below hb)
  replace D := Lib.hid (D.out.below hb)
  clear hb
  go_wp2_with fail
  refine hK.out _ _ (by exact cells_h8 X.out) (fun hHeld => ?_)
  clear hK K
  try simp only [Act.put, List.setIfInBounds_toArray, List.set_cons_zero, List.set_cons_succ, List.getElem_toArray, List.getElem_cons_zero, List.getElem_cons_succ]
  refine wpAnyH_ready (rs := [9]) (by kernel_rfl) (by simp) ?_
  refine AllReadyH.cons rfl (fun K hK => ?_) AllReadyH.nil
  go_simp
  go_at_call 37
  refine (impl_setBytes a b cap cap' l s _ hl hs HS.out HW.out (H.out.mono D.out) (H'.out.mono D.out)).mono ?_
  rintro e w9 ⟨rfl, hb⟩
  replace X := Lib.hid (X.out.below hb)
  replace D := Lib.hid (D.out.below hb)
  clear hb
  go_wp2_with fail
  refine hK.out _ _ (by exact cells_h8 X.out) (fun hHeld => ?_)
  clear hK K
  try simp only [Act.put, List.setIfInBounds_toArray, List.set_cons_zero, List.set_cons_succ, List.getElem_toArray, List.getElem_cons_zero, List.getElem_cons_succ]
  refine wpAnyH_ready (rs := [10]) (by kernel_rfl) (by simp) ?_
  refine AllReadyH.cons rfl (fun K hK => ?_) AllReadyH.nil
  go_simp
  --op
  have hb := step_alloc w9 (.cells #[.string (Nu.numS kd ++ Nu.numS fr ++ Nu.numS tq ++ Nu.numS rq), .string (Nu.putText ky), .string (Nu.numS ow), .string (setBytes l s)] 9)
  have X3 := X
  have D3 := D
  replace X := Lib.hid (X.out.below hb)
  replace D := Lib.hid (D.out.below hb)
  clear hb
  refine hK.out _ _ (by exact cells_h8 X.out) (fun hHeld => ?_)
  clear hK K
  try simp only [Act.put, List.setIfInBounds_toArray, List.set_cons_zero, List.set_cons_succ, List.getElem_toArray, List.getElem_cons_zero, List.getElem_cons_succ]
  refine wpAnyH_ready (rs := [11]) (by kernel_rfl) (by simp) ?_
  refine AllReadyH.cons rfl (fun K hK => ?_) AllReadyH.nil
  go_simp
  go_at_call 33
  refine (joined_four (Nu.numS kd ++ Nu.numS fr ++ Nu.numS tq ++ Nu.numS rq) (Nu.putText ky) (Nu.numS ow) (setBytes l s) w9 (by simp only [ByteArray.size_append]; omega)).mono ?_
  rintro e w10 ⟨rfl, hb⟩
  clear X D
  have X := Lib.hid (X3.out.below hb)
  have D := Lib.hid (D3.out.below hb)
  clear hb
  rw [HE.out]
  go_wp2_with fail
  refine hK.out _ _ (by exact cells_h8 X.out) (fun hHeld => ?_)
  clear hK K
  try simp only [Act.put, List.setIfInBounds_toArray, List.set_cons_zero, List.set_cons_succ, List.getElem_toArray, List.getElem_cons_zero, List.getElem_cons_succ]
  refine wpAnyH_ready (rs := [12]) (by kernel_rfl) (by simp) ?_
  refine AllReadyH.cons rfl (fun K hK => ?_) AllReadyH.nil
  go_simp
  go_at_call 35
  have ht : (msgBody kd fr tq rq ky ow l s).size ≤ maxLen := by unfold maxLen msgBody; simp only [ByteArray.size_append]; omega
  refine (Se.impl_Seal _ ht _).mono ?_
  rintro e w11 ⟨rfl, hb⟩
  replace X := Lib.hid (X.out.below hb)
  replace D := Lib.hid (D.out.below hb)
  clear hb
  go_wp2_with fail
  refine hK.out _ _ (by exact cells_h8 X.out) (fun hHeld => ?_)
  clear hK K
  try simp only [Act.put, List.setIfInBounds_toArray, List.set_cons_zero, List.set_cons_succ, List.getElem_toArray, List.getElem_cons_zero, List.getElem_cons_succ]
  refine wpAnyH_take (i := 13) (v := ?_) rfl (by kernel_rfl) (by kernel_rfl) (by kernel_rfl) (fun _ _ _ h => h) (Or.inl ⟨by rfl, fun w hSw => by (try dsimp only at hSw); go_simp; (try with_reducible rfl)⟩) (by assumption) ?_
  try simp only [Act.put, List.setIfInBounds_toArray, List.set_cons_zero, List.set_cons_succ, List.getElem_toArray, List.getElem_cons_zero, List.getElem_cons_succ]
  refine wpAnyH_done (by kernel_rfl) ?_ _
  go_wp2
  go_ret
  exact ⟨Se.ret_str HM.out.symm, D.out⟩
end Go.Proofs.Ytloenigleamcoaa.Sb

set_option linter.unusedSimpArgs false
set_option linter.unusedVariables false
namespace Go.Proofs.Ytloenigleamcoaa.Sb
open Go.RowKit Go.Proofs.Ytloenigleamcoaa.Mk Go.Proofs.Ytloenigleamcoaa.Rw

set_option maxRecDepth 100000 in
set_option maxHeartbeats 4000000 in
theorem law_MsgBytes (kd0 fr0 tq0 rq0 : Int) (ky0 : ByteArray) (ow0 : Int) (a0 : Option Addr) (cap0 : Nat) (l0 : List (Int × Int)) (b0 : Option Addr) (dap0 : Nat) (s0 : List Sib) (w : World) (h0 : CameMsg w kd0 fr0 tq0 rq0 ky0 ow0 a0 b0 l0 s0) :
    Calls Try.prog 4 #[.agg #[.int .i64 kd0, .int .i64 fr0, .int .i64 tq0, .int .i64 rq0, .string ky0, .int .i64 ow0, .slice a0 l0.length cap0, .slice b0 s0.length dap0]] w fun e w' => e = .returned (.bool true) ∧ Below w.heap.size w w' := by
  obtain ⟨⟨⟨hm0, hl0, _⟩, hs0, hk0, hd0, hf0⟩, hi0, hi1, hi2, hi3, hi4, hi5⟩ := h0
  have H0 := Lib.hid (InAt.of hm0)
  have K0 := Lib.hid (RIn.of (by decide) hs0)
  have HD0 := Lib.hid hd0
  have HF0 := Lib.hid hf0
  have HY0 := Lib.hid hi4
  clear hm0 hs0 hd0 hf0 hi0 hi1 hi2 hi3 hi5
  unfold maxLen at hl0 hk0 hi4
  have B := Lib.hid (show Base w w from Below.refl _ _)
  go_enter Try.func4, Try.ntmps4
  have hb := step_alloc w (.cells #[.int .i64 kd0, .int .i64 fr0, .int .i64 tq0, .int .i64 rq0, .string ky0, .int .i64 ow0, .slice a0 l0.length cap0, .slice b0 s0.length dap0] 27)
  replace B := Lib.hid (B.out.below hb)
  replace H0 := Lib.hid (H0.out.below hb)
  replace K0 := Lib.hid (K0.out.below hb)
  clear hb
  have Z1 : w.heap.size < (w.alloc (.cells #[.int .i64 kd0, .int .i64 fr0, .int .i64 tq0, .int .i64 rq0, .string ky0, .int .i64 ow0, .slice a0 l0.length cap0, .slice b0 s0.length dap0] 27)).heap.size := by simp
  have yZ1 : (w.alloc (.cells #[.int .i64 kd0, .int .i64 fr0, .int .i64 tq0, .int .i64 rq0, .string ky0, .int .i64 ow0, .slice a0 l0.length cap0, .slice b0 s0.length dap0] 27)).heap.size ≤ w.heap.size + 1 := by simp
  have V2 := Lib.hid (Var8.new w (.int .i64 kd0) (.int .i64 fr0) (.int .i64 tq0) (.int .i64 rq0) (.string ky0) (.int .i64 ow0) (.slice a0 l0.length cap0) (.slice b0 s0.length dap0) 27)
  obtain ⟨V2_c0, V2_c1, V2_c2, V2_c3, V2_c4, V2_c5, V2_c6, V2_c7, V2_l⟩ := V2.out
  go_wp2_with fail
  clear V2_c0 V2_c1 V2_c2 V2_c3 V2_c4 V2_c5 V2_c6 V2_c7 V2_l
  refine (szMsg (kd0) (fr0) (tq0) (rq0) (ky0) (ow0) a0 b0 cap0 dap0 (l0) (s0) (1048576) _ (by unfold maxLen; omega) (by unfold maxLen; omega) HD0.out HY0.out (by omega) (by omega) K0.out.at_).mono ?_
  rintro e wx3 ⟨r4, rfl, hr, hb⟩
  replace B := Lib.hid (B.out.below hb)
  replace H0 := Lib.hid (H0.out.below hb)
  replace K0 := Lib.hid (K0.out.below hb)
  replace V2 := Lib.hid (V2.out.below hb)
  have Z5 := hb.size
  clear hb
  simp at Z5
  rcases hr with rfl | ⟨q0r4, q1r4, q2r4, q3r4, q4r4⟩
  · go_wp2
    go_ret
    exact ⟨rfl, B.out⟩
  have hnr4 : ¬ r4 < 0 := by omega
  obtain ⟨V2_c0, V2_c1, V2_c2, V2_c3, V2_c4, V2_c5, V2_c6, V2_c7, V2_l⟩ := V2.out
  go_wp2_with fail
  clear V2_c0 V2_c1 V2_c2 V2_c3 V2_c4 V2_c5 V2_c6 V2_c7 V2_l
  refine (toMsg (kd0) (fr0) (tq0) (rq0) (ky0) (ow0) a0 b0 cap0 dap0 (l0) (s0) _ (by omega) (by omega) H0.out.at_ K0.out.at_).mono ?_
  rintro e wx11 ⟨qa6, qc7, qb8, qd9, mid10, rfl, ho, hs, hm1, hm2, hb⟩
  replace B := Lib.hid (B.out.below hb)
  replace H0 := Lib.hid (H0.out.below hb)
  replace K0 := Lib.hid (K0.out.below hb)
  replace V2 := Lib.hid (V2.out.below hb)
  have O12 := Lib.hid (show OwnI wx11 wx3.heap.size mid10 qa6 (l0) from ⟨ho, hm2⟩)
  have O13 := Lib.hid (show ROwnI 4 senc wx11 mid10 wx11.heap.size qb8 (s0) from ⟨hs, Nat.le_refl _⟩)
  have Z14 := hb.size
  have Z14a := hm1
  have Z14b := hm2
  clear hb ho hs hm1 hm2
  obtain ⟨V2_c0, V2_c1, V2_c2, V2_c3, V2_c4, V2_c5, V2_c6, V2_c7, V2_l⟩ := V2.out
  go_wp2_with fail
  clear V2_c0 V2_c1 V2_c2 V2_c3 V2_c4 V2_c5 V2_c6 V2_c7 V2_l
  refine (spec_msgBytes (kd0) (fr0) (tq0) (rq0) (ky0) (ow0) qa6 qb8 qc7 qd9 (l0) (s0) _ (by unfold maxLen; omega) (by unfold maxLen; omega) HD0.out HY0.out O12.out.at_ O13.out.at_).mono ?_
  rintro e wx15 ⟨rfl, hb⟩
  replace B := Lib.hid (B.out.below hb)
  replace H0 := Lib.hid (H0.out.below hb)
  replace K0 := Lib.hid (K0.out.below hb)
  replace V2 := Lib.hid (V2.out.below hb)
  replace O12 := Lib.hid (O12.out.below hb)
  replace O13 := Lib.hid (O13.out.below hb)
  have Z16 := hb.size
  clear hb
  obtain ⟨V2_c0, V2_c1, V2_c2, V2_c3, V2_c4, V2_c5, V2_c6, V2_c7, V2_l⟩ := V2.out
  go_wp2_with fail
  clear V2_c0 V2_c1 V2_c2 V2_c3 V2_c4 V2_c5 V2_c6 V2_c7 V2_l
  refine (toMsg (kd0) (fr0) (tq0) (rq0) (ky0) (ow0) a0 b0 cap0 dap0 (l0) (s0) _ (by omega) (by omega) H0.out.at_ K0.out.at_).mono ?_
  rintro e wx22 ⟨qa17, qc18, qb19, qd20, mid21, rfl, ho, hs, hm1, hm2, hb⟩
  replace B := Lib.hid (B.out.below hb)
  replace H0 := Lib.hid (H0.out.below hb)
  replace K0 := Lib.hid (K0.out.below hb)
  replace V2 := Lib.hid (V2.out.below hb)
  replace O12 := Lib.hid (O12.out.below hb)
  replace O13 := Lib.hid (O13.out.below hb)
  have O23 := Lib.hid (show OwnI wx22 wx15.heap.size mid21 qa17 (l0) from ⟨ho, hm2⟩)
  have O24 := Lib.hid (show ROwnI 4 senc wx22 mid21 wx22.heap.size qb19 (s0) from ⟨hs, Nat.le_refl _⟩)
  have Z25 := hb.size
  have Z25a := hm1
  have Z25b := hm2
  clear hb ho hs hm1 hm2
  have hb := step_alloc wx22 (.cells #[.int .i64 kd0, .int .i64 fr0, .int .i64 tq0, .int .i64 rq0, .string ky0, .int .i64 ow0, .slice qa17 (l0).length qc18, .slice qb19 (s0).length qd20] 35)
  replace B := Lib.hid (B.out.below hb)
  replace H0 := Lib.hid (H0.out.below hb)
  replace K0 := Lib.hid (K0.out.below hb)
  replace V2 := Lib.hid (V2.out.below hb)
  replace O12 := Lib.hid (O12.out.below hb)
  replace O13 := Lib.hid (O13.out.below hb)
  replace O23 := Lib.hid (O23.out.below hb)
  replace O24 := Lib.hid (O24.out.below hb)
  clear hb
  have Z26 : wx22.heap.size < (wx22.alloc (.cells #[.int .i64 kd0, .int .i64 fr0, .int .i64 tq0, .int .i64 rq0, .string ky0, .int .i64 ow0, .slice qa17 (l0).length qc18, .slice qb19 (s0).length qd20] 35)).heap.size := by simp
  have yZ26 : (wx22.alloc (.cells #[.int .i64 kd0, .int .i64 fr0, .int .i64 tq0, .int .i64 rq0, .string ky0, .int .i64 ow0, .slice qa17 (l0).length qc18, .slice qb19 (s0).length qd20] 35)).heap.size ≤ wx22.heap.size + 1 := by simp
  have V27 := Lib.hid (Var8.new wx22 (.int .i64 kd0) (.int .i64 fr0) (.int .i64 tq0) (.int .i64 rq0) (.string ky0) (.int .i64 ow0) (.slice qa17 (l0).length qc18) (.slice qb19 (s0).length qd20) 35)
  obtain ⟨V2_c0, V2_c1, V2_c2, V2_c3, V2_c4, V2_c5, V2_c6, V2_c7, V2_l⟩ := V2.out
  obtain ⟨V27_c0, V27_c1, V27_c2, V27_c3, V27_c4, V27_c5, V27_c6, V27_c7, V27_l⟩ := V27.out
  go_wp2_with fail
  clear V2_c0 V2_c1 V2_c2 V2_c3 V2_c4 V2_c5 V2_c6 V2_c7 V2_l V27_c0 V27_c1 V27_c2 V27_c3 V27_c4 V27_c5 V27_c6 V27_c7 V27_l
  refine (impl_msgBytes (kd0) (fr0) (tq0) (rq0) (ky0) (ow0) qa17 qb19 qc18 qd20 (l0) (s0) _ HY0.out (by unfold maxLen; omega) (by unfold maxLen; omega) HD0.out HF0.out O23.out.at_ O24.out.at_).mono ?_
  rintro e wx28 ⟨rfl, hb⟩
  replace B := Lib.hid (B.out.below hb)
  replace H0 := Lib.hid (H0.out.below hb)
  replace K0 := Lib.hid (K0.out.below hb)
  replace V2 := Lib.hid (V2.out.below hb)
  replace O12 := Lib.hid (O12.out.below hb)
  replace O13 := Lib.hid (O13.out.below hb)
  replace O23 := Lib.hid (O23.out.below hb)
  replace O24 := Lib.hid (O24.out.below hb)
  replace V27 := Lib.hid (V27.out.below hb)
  have Z29 := hb.size
  clear hb
  simp at Z29
  obtain ⟨V2_c0, V2_c1, V2_c2, V2_c3, V2_c4, V2_c5, V2_c6, V2_c7, V2_l⟩ := V2.out
  obtain ⟨V27_c0, V27_c1, V27_c2, V27_c3, V27_c4, V27_c5, V27_c6, V27_c7, V27_l⟩ := V27.out
  go_wp2_with fail
  clear V2_c0 V2_c1 V2_c2 V2_c3 V2_c4 V2_c5 V2_c6 V2_c7 V2_l V27_c0 V27_c1 V27_c2 V27_c3 V27_c4 V27_c5 V27_c6 V27_c7 V27_l
  have hb := step_drew wx28
  replace B := Lib.hid (B.out.below hb)
  replace H0 := Lib.hid (H0.out.below hb)
  replace K0 := Lib.hid (K0.out.below hb)
  replace V2 := Lib.hid (V2.out.below hb)
  replace O12 := Lib.hid (O12.out.below hb)
  replace O13 := Lib.hid (O13.out.below hb)
  replace O23 := Lib.hid (O23.out.below hb)
  replace O24 := Lib.hid (O24.out.below hb)
  replace V27 := Lib.hid (V27.out.below hb)
  clear hb
  refine wp_region_held_drew (S := (fun w' => w'.cell? ⟨wx22.heap.size, 0, none⟩ = some (.int .i64 kd0) ∧ w'.cell? ⟨wx22.heap.size, 1, none⟩ = some (.int .i64 fr0) ∧ w'.cell? ⟨wx22.heap.size, 2, none⟩ = some (.int .i64 tq0) ∧ w'.cell? ⟨wx22.heap.size, 3, none⟩ = some (.int .i64 rq0) ∧ w'.cell? ⟨wx22.heap.size, 4, none⟩ = some (.string ky0) ∧ w'.cell? ⟨wx22.heap.size, 5, none⟩ = some (.int .i64 ow0) ∧ w'.cell? ⟨wx22.heap.size, 6, none⟩ = some (.slice qa17 (l0).length qc18) ∧ w'.cell? ⟨wx22.heap.size, 7, none⟩ = some (.slice qb19 (s0).length qd20) ∧ w'.cell? ⟨w.heap.size, 0, none⟩ = some (.int .i64 kd0) ∧ w'.cell? ⟨w.heap.size, 1, none⟩ = some (.int .i64 fr0) ∧ w'.cell? ⟨w.heap.size, 2, none⟩ = some (.int .i64 tq0) ∧ w'.cell? ⟨w.heap.size, 3, none⟩ = some (.int .i64 rq0) ∧ w'.cell? ⟨w.heap.size, 4, none⟩ = some (.string ky0) ∧ w'.cell? ⟨w.heap.size, 5, none⟩ = some (.int .i64 ow0) ∧ w'.cell? ⟨w.heap.size, 6, none⟩ = some (.slice a0 l0.length cap0) ∧ w'.cell? ⟨w.heap.size, 7, none⟩ = some (.slice b0 s0.length dap0))) (by kernel_rfl) (by exact ⟨V27.out.c0, V27.out.c1, V27.out.c2, V27.out.c3, V27.out.c4, V27.out.c5, V27.out.c6, V27.out.c7, V2.out.c0, V2.out.c1, V2.out.c2, V2.out.c3, V2.out.c4, V2.out.c5, V2.out.c6, V2.out.c7⟩) (fun hHeld => ?_)
  have Z30 : wx28.heap.size ≤ wx28.drew.heap.size := Nat.le_refl _
  generalize wx28.drew = wd31 at Z30 hHeld B H0 K0 V2 O12 O13 O23 O24 V27 ⊢
  refine wpAnyH_take (i := 0) (v := ?_) rfl (by kernel_rfl) (by kernel_rfl) (by kernel_rfl) (fun _ _ _ h => h) (Or.inl ⟨by rfl, fun w hSw => by (try dsimp only at hSw); go_simp; (try with_reducible rfl)⟩) (by assumption) ?_
  try simp only [Act.put, List.setIfInBounds_toArray, List.set_cons_zero, List.set_cons_succ, List.getElem_toArray, List.getElem_cons_zero, List.getElem_cons_succ]
  refine wpAnyH_take (i := 1) (v := ?_) rfl (by kernel_rfl) (by kernel_rfl) (by kernel_rfl) (fun _ _ _ h => h) (Or.inl ⟨by rfl, fun w hSw => by (try dsimp only at hSw); go_simp; (try with_reducible rfl)⟩) (by assumption) ?_
  try simp only [Act.put, List.setIfInBounds_toArray, List.set_cons_zero, List.set_cons_succ, List.getElem_toArray, List.getElem_cons_zero, List.getElem_cons_succ]
  refine wpAnyH_ready (rs := [2]) (by kernel_rfl) (by simp) ?_
  refine AllReadyH.cons rfl (fun K hK => ?_) AllReadyH.nil
  go_simp
  refine (toMsg (kd0) (fr0) (tq0) (rq0) (ky0) (ow0) a0 b0 cap0 dap0 (l0) (s0) _ (by omega) (by omega) H0.out.at_ K0.out.at_).mono ?_
  rintro e wx37 ⟨qa32, qc33, qb34, qd35, mid36, rfl, ho, hs, hm1, hm2, hb⟩
  replace B := Lib.hid (B.out.below hb)
  replace H0 := Lib.hid (H0.out.below hb)
  replace K0 := Lib.hid (K0.out.below hb)
  replace V2 := Lib.hid (V2.out.below hb)
  replace O12 := Lib.hid (O12.out.below hb)
  replace O13 := Lib.hid (O13.out.below hb)
  replace O23 := Lib.hid (O23.out.below hb)
  replace O24 := Lib.hid (O24.out.below hb)
  replace V27 := Lib.hid (V27.out.below hb)
  have O38 := Lib.hid (show OwnI wx37 wd31.heap.size mid36 qa32 (l0) from ⟨ho, hm2⟩)
  have O39 := Lib.hid (show ROwnI 4 senc wx37 mid36 wx37.heap.size qb34 (s0) from ⟨hs, Nat.le_refl _⟩)
  have Z40 := hb.size
  have Z40a := hm1
  have Z40b := hm2
  clear hb ho hs hm1 hm2
  go_wp2_with fail
  refine hK.out _ _ (by exact ⟨V27.out.c0, V27.out.c1, V27.out.c2, V27.out.c3, V27.out.c4, V27.out.c5, V27.out.c6, V27.out.c7, V2.out.c0, V2.out.c1, V2.out.c2, V2.out.c3, V2.out.c4, V2.out.c5, V2.out.c6, V2.out.c7⟩) (fun hHeld => ?_)
  clear hK K
  try simp only [Act.put, List.setIfInBounds_toArray, List.set_cons_zero, List.set_cons_succ, List.getElem_toArray, List.getElem_cons_zero, List.getElem_cons_succ]
  refine wpAnyH_ready (rs := [3]) (by kernel_rfl) (by simp) ?_
  refine AllReadyH.cons rfl (fun K hK => ?_) AllReadyH.nil
  go_simp
  refine (eqMsg (kd0) (fr0) (tq0) (rq0) (ky0) (ow0) qa17 qa32 qb19 qb34 qc18 qd20 qc33 qd35 (l0) (s0) _ (by unfold maxLen; omega) (by unfold maxLen; omega) O23.out.at_ O38.out.at_ O24.out.at_ O39.out.at_).mono ?_
  rintro e wx41 ⟨rfl, hb⟩
  replace B := Lib.hid (B.out.below hb)
  replace H0 := Lib.hid (H0.out.below hb)
  replace K0 := Lib.hid (K0.out.below hb)
  replace V2 := Lib.hid (V2.out.below hb)
  replace O12 := Lib.hid (O12.out.below hb)
  replace O13 := Lib.hid (O13.out.below hb)
  replace O23 := Lib.hid (O23.out.below hb)
  replace O24 := Lib.hid (O24.out.below hb)
  replace V27 := Lib.hid (V27.out.below hb)
  replace O38 := Lib.hid (O38.out.below hb)
  replace O39 := Lib.hid (O39.out.below hb)
  have Z42 := hb.size
  clear hb
  go_wp2_with fail
  refine hK.out _ _ (by exact ⟨V27.out.c0, V27.out.c1, V27.out.c2, V27.out.c3, V27.out.c4, V27.out.c5, V27.out.c6, V27.out.c7, V2.out.c0, V2.out.c1, V2.out.c2, V2.out.c3, V2.out.c4, V2.out.c5, V2.out.c6, V2.out.c7⟩) (fun hHeld => ?_)
  clear hK K
  try simp only [Act.put, List.setIfInBounds_toArray, List.set_cons_zero, List.set_cons_succ, List.getElem_toArray, List.getElem_cons_zero, List.getElem_cons_succ]
  refine wpAnyH_take (i := 4) (v := ?_) rfl (by kernel_rfl) (by kernel_rfl) (by kernel_rfl) (fun _ _ _ h => h) (Or.inl ⟨by rfl, fun w hSw => by (try dsimp only at hSw); go_simp; (try with_reducible rfl)⟩) (by assumption) ?_
  try simp only [Act.put, List.setIfInBounds_toArray, List.set_cons_zero, List.set_cons_succ, List.getElem_toArray, List.getElem_cons_zero, List.getElem_cons_succ]
  refine wpAnyH_done (by kernel_rfl) ?_ _
  obtain ⟨V2_c0, V2_c1, V2_c2, V2_c3, V2_c4, V2_c5, V2_c6, V2_c7, V2_l⟩ := V2.out
  obtain ⟨V27_c0, V27_c1, V27_c2, V27_c3, V27_c4, V27_c5, V27_c6, V27_c7, V27_l⟩ := V27.out
  go_wp2
  go_ret
  exact ⟨rfl, B.out⟩
end Go.Proofs.Ytloenigleamcoaa.Sb
